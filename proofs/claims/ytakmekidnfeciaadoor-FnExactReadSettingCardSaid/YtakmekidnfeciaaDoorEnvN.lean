/-
  From a row's list of variables to the program's tables of names. Of each row of this seat. No condition of ours.
-/
import Derived.Test.YtakmekidnfeciaaDoorNames
import Derived.Test.YtakmekidnfeciaaDoorEnv
namespace Go.Proofs.YtakmekidnfeciaaDoor
open Go.RowKit

theorem strTab_of_row {l : List (String × DataW Unit)} {w : World} {nm : String} {zs : List (List UInt8)} {g n : Nat} {t e : TypeId} (h : laidMetH Tryd.prog l w) (hp : (l.all fun x => x.2.handleName?.isNone) = true)
    (he : fromOn nm l = (nm, .agg (zs.map fun z => .lit (.string z))) :: (fromOn nm l).drop 1)
    (hg : Tryd.prog.globalNamed nm = some g) (hty : (Tryd.prog.globals[g]?).map (·.type) = some t) (ht : Tryd.prog.underlying t = some (.array n e)) (hs : Tryd.prog.underlying e = some .string) (hce : Tryd.prog.cellsOf e = 1) (hct : Tryd.prog.cellsOf t = n) : StrTab g zs w := by
  have hm : laidMet Tryd.prog (fromOn nm l) w := laidMet_dropWhile (plain_of h hp)
  rw [he] at hm
  obtain ⟨g', t', cs, fuel, p, h1, h2, h3, h4⟩ := laidMet_at hm List.mem_cons_self
  obtain rfl := Option.some.inj (hg.symm.trans h1)
  obtain rfl := Option.some.inj (hty.symm.trans h2)
  have hc := cells_of_strtab ht hs hce hct h4
  intro i hi
  have h5 := World.var?_cell h1 h3 i
  rw [h5, ← Array.getElem?_toList, hc]
  simp [hi]

theorem shutEnv {l : List (String × DataW Unit)} {w : World} (h : laidMetH Tryd.prog l w) (hp : (l.all fun x => x.2.handleName?.isNone) = true)
    (he : fromOn "loop.example/g01301/impl.shutterNames" l = ("loop.example/g01301/impl.shutterNames", .agg (shuttersL.map fun z => .lit (.string z))) :: (fromOn "loop.example/g01301/impl.shutterNames" l).drop 1) : StrTab 4 shuttersL w :=
  strTab_of_row h hp he (by kernel_rfl) (by kernel_rfl) Tryd.underlying105 Tryd.underlying9 (by kernel_rfl) (by kernel_rfl)

theorem aperEnv {l : List (String × DataW Unit)} {w : World} (h : laidMetH Tryd.prog l w) (hp : (l.all fun x => x.2.handleName?.isNone) = true)
    (he : fromOn "loop.example/g01301/impl.apertureNames" l = ("loop.example/g01301/impl.apertureNames", .agg (aperturesL.map fun z => .lit (.string z))) :: (fromOn "loop.example/g01301/impl.apertureNames" l).drop 1) : StrTab 6 aperturesL w :=
  strTab_of_row h hp he (by kernel_rfl) (by kernel_rfl) Tryd.underlying107 Tryd.underlying9 (by kernel_rfl) (by kernel_rfl)

theorem markEnv {l : List (String × DataW Unit)} {w : World} (h : laidMetH Tryd.prog l w) (hp : (l.all fun x => x.2.handleName?.isNone) = true)
    (he : fromOn "loop.example/g01301/impl.thirdMarks" l = ("loop.example/g01301/impl.thirdMarks", .agg (marksL.map fun z => .lit (.string z))) :: (fromOn "loop.example/g01301/impl.thirdMarks" l).drop 1) : StrTab 5 marksL w :=
  strTab_of_row h hp he (by kernel_rfl) (by kernel_rfl) Tryd.underlying106 Tryd.underlying9 (by kernel_rfl) (by kernel_rfl)

end Go.Proofs.YtakmekidnfeciaaDoor

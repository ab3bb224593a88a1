/-
  From a row's list of variables to what the walks ask: the sentinels, the table of times. Of each row of this seat. No condition of ours.
-/
import Derived.Test.YtnlcjbobfhmnmabGreatDoorErrs
import Derived.Test.YtnlcjbobfhmnmabGreatDoorTimes
namespace Go.Proofs.YtnlcjbobfhmnmabGreatDoor
open Go.RowKit

theorem laidMet_dropWhile {P : Program} {w : World} {p : String × DataW Unit → Bool} : ∀ {l : List (String × DataW Unit)}, laidMet P l w → laidMet P (l.dropWhile p) w
  | [], h => h
  | x :: r, h => by
    rw [List.dropWhile_cons]
    split
    · exact laidMet_dropWhile h.tail
    · exact h
theorem plain_of {l : List (String × DataW Unit)} {w : World} (h : laidMetH Tryz.prog l w) (hp : (l.all fun x => x.2.handleName?.isNone) = true) : laidMet Tryz.prog l w := by
  unfold laidMetH at h
  have e : l.filter (fun x => x.2.handleName?.isSome) = [] := by
    rw [List.filter_eq_nil_iff]
    intro x hx
    have := List.all_eq_true.1 hp x hx
    cases hh : x.2.handleName? <;> simp [hh] at this ⊢
  rw [e] at h
  exact h
/-- From the variable of this name on. -/
abbrev fromOn (n : String) (l : List (String × DataW Unit)) : List (String × DataW Unit) := l.dropWhile fun x => x.1 != n
theorem errEnv_of_row {l : List (String × DataW Unit)} {w : World} (h : laidMetH Tryz.prog l w) (hp : (l.all fun x => x.2.handleName?.isNone) = true)
    (he : fromOn "loop.example/g01301/impl.errInvalid" l = errNames.map (fun x => (x.1, DataW.iface "*errors.errorString" (.ptr (.agg [.lit (.string x.2)])))) ++ (fromOn "loop.example/g01301/impl.errInvalid" l).drop errNames.length) : ∃ s, ErrEnv s w :=
  errEnv_of_laid (by rw [← he]; exact laidMet_dropWhile (plain_of h hp))

theorem tabCells : Tryz.prog.cellsOf 109 = 3 := by kernel_rfl
theorem intCells : Tryz.prog.cellsOf 2 = 1 := by kernel_rfl
theorem timEnv_of_row {l : List (String × DataW Unit)} {w : World} (h : laidMetH Tryz.prog l w) (hp : (l.all fun x => x.2.handleName?.isNone) = true)
    (he : fromOn "loop.example/g01301/impl.stopTimes" l = ("loop.example/g01301/impl.stopTimes", Lib.tabData .i64 [1000, 1260, 1587]) :: (fromOn "loop.example/g01301/impl.stopTimes" l).drop 1) : TimEnv w := by
  have hm : laidMet Tryz.prog (fromOn "loop.example/g01301/impl.stopTimes" l) w := laidMet_dropWhile (plain_of h hp)
  rw [he] at hm
  have gT : Tryz.prog.globalNamed "loop.example/g01301/impl.stopTimes" = some 6 := by kernel_rfl
  have ht := Lib.tabIs_of_head gT (by kernel_rfl) Tryz.underlying109 Tryz.underlying2 intCells tabCells hm
  exact ⟨ht.cell gT 0 (by decide), ht.cell gT 1 (by decide), ht.cell gT 2 (by decide)⟩
end Go.Proofs.YtnlcjbobfhmnmabGreatDoor

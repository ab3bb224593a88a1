/-
  From a row's list of variables to the library's table of de Bruijn. Of each row of this seat that lists it. No condition of ours.
-/
import Derived.Test.YtmibinfaafhgdaaGreatDoorEach
import Derived.Test.YtmibinfaafhgdaaGreatDoorEnv
import Derived.Lib.LaidTab
namespace Go.Proofs.YtmibinfaafhgdaaGreatDoor
open Go.RowKit

theorem dbCells : Tryz.prog.cellsOf 132 = 64 := by kernel_rfl
theorem u8Cells : Tryz.prog.cellsOf 5 = 1 := by kernel_rfl
theorem dbEnv_of_row {l : List (String × DataW Unit)} {w : World} (h : laidMetH Tryz.prog l w) (hp : (l.all fun x => x.2.handleName?.isNone) = true)
    (he : fromOn "math/bits.deBruijn64tab" l = ("math/bits.deBruijn64tab", Lib.tabData .u8 (Lib.deBruijn64tab.map fun n : Nat => (n : Int))) :: (fromOn "math/bits.deBruijn64tab" l).drop 1) : DbEnv w := by
  have hm : laidMet Tryz.prog (fromOn "math/bits.deBruijn64tab" l) w := laidMet_dropWhile (plain_of h hp)
  rw [he] at hm
  have gT : Tryz.prog.globalNamed "math/bits.deBruijn64tab" = some 6 := by kernel_rfl
  have ht := Lib.tabIs_of_head gT (by kernel_rfl) Tryz.underlying132 Tryz.underlying5 u8Cells dbCells hm
  intro j hj
  have hc := ht.cell gT j (by simpa [Lib.deBruijn64tab] using hj)
  rw [hc]
  have e : ∀ k : Fin 64, (Lib.deBruijn64tab.map fun n : Nat => (n : Int))[k.val]? = some ((Lib.deBruijn64tab.getD k.val 0 : Nat) : Int) := by decide +kernel
  have := e ⟨j, hj⟩
  simp only at this
  simp [this]
end Go.Proofs.YtmibinfaafhgdaaGreatDoor

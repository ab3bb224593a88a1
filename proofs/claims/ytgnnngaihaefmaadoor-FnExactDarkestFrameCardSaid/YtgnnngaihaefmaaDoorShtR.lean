/-
  The rows of a sheet, and the places of its frames: what both sides' functions return. Condition: at most 1048576 frames of int16 numbers.
-/
import Derived.Test.YtgnnngaihaefmaaDoorSht
namespace Go.Proofs.YtgnnngaihaefmaaDoor
open Go.RowKit

/-- What RowsOf returns. -/
def rowsT (X : Int) (n : Nat) (g : Nat → Nat → Int) : Array Value := if shtB X n g = true then #[.int .i64 (((n : Int) + X - 1).tdiv X), .int .i64 0] else #[.int .i64 0, .int .i64 1]
theorem tdiv_bd {a X : Int} (ha : 0 ≤ a) (hX : 1 ≤ X) : 0 ≤ a.tdiv X ∧ a.tdiv X ≤ a := by
  rw [Int.tdiv_eq_ediv_of_nonneg ha]
  exact ⟨Int.ediv_nonneg ha (by omega), Int.ediv_le_self _ ha⟩

set_option maxHeartbeats 1000000 in
theorem rows_any (X : Int) (A : Option Addr) (n cap : Nat) (h1 : 1 ≤ X) (h2 : X ≤ 12) (h3 : n ≤ 12) (w : World) :
    Calls Tryd.prog 103 #[.agg #[.int .i8 X, .slice A n cap]] w fun e w' => e = .returned (.int .i64 (((n : Int) + X - 1).tdiv X)) ∧ Below w.heap.size w w' := by
  have k0 := (Below.refl w.heap.size w).alloc (Nat.le_refl _) (.cells #[.int .i8 X, .slice A n cap] 40)
  have hbd := tdiv_bd (a := (n : Int) + X - 1) (X := X) (by omega) h1
  have b1 := hbd.1
  have b2 := hbd.2
  have b3 : ¬ X = 0 := by omega
  clear hbd
  go_enter Tryd.func103, Tryd.ntmps103
  go_wp2_with fail
  go_ret
  exact ⟨rfl, k0⟩

end Go.Proofs.YtgnnngaihaefmaaDoor

/-
  The times: what the program's and the reference's functions return, for every number. Condition of the program's: its table of times holds its three numbers ('TimEnv'; the row's list gives it).
-/
import Derived.Test.YtnlcjbobfhmnmabGreatDoorErrs
import Derived.Test.YtnlcjbobfhmnmabGreatDoorPlainTimes
namespace Go.Proofs.YtnlcjbobfhmnmabGreatDoor
open Go.RowKit

/-- The program's table of times. -/
structure TimEnv (w : World) : Prop where
  c0 : w.cell? ⟨6, 0, none⟩ = some (.int .i64 1000)
  c1 : w.cell? ⟨6, 1, none⟩ = some (.int .i64 1260)
  c2 : w.cell? ⟨6, 2, none⟩ = some (.int .i64 1587)
theorem TimEnv.below {w w' : World} {B : Nat} (h : TimEnv w) (hb : Below B w w') (hB : w.heap.size ≤ B) : TimEnv w' :=
  ⟨below_cellOf hb h.c0 hB, below_cellOf hb h.c1 hB, below_cellOf hb h.c2 hB⟩

set_option maxHeartbeats 400000 in
theorem timeAt_any (k : Int) (h0 : 0 ≤ k) (h1 : k ≤ 37) (w : World) (hT : TimEnv w) :
    Calls Tryz.prog 64 #[.int .i64 k] w fun e w' => e = .returned (.int .i64 (tm k)) ∧ w = w' := by
  have c0 := hT.c0
  have c1 := hT.c1
  have c2 := hT.c2
  have h3 : k % 3 = 0 ∨ k % 3 = 1 ∨ k % 3 = 2 := by omega
  have hw := tm_wrap k
  rcases h3 with h3 | h3 | h3
  all_goals
    have H3 := Lib.hid h3
    have Hw := Lib.hid hw
    clear hw
    go_enter Tryz.func64, Tryz.ntmps64
    go_wp2
    go_ret
    exact ⟨ret_int (by have := H3.out; first | exact Hw.out 1000 h0 h1 (by omega) | exact Hw.out 1260 h0 h1 (by omega) | exact Hw.out 1587 h0 h1 (by omega)), rfl⟩

set_option maxHeartbeats 400000 in
theorem l01Time_any (k : Int) (h0 : 0 ≤ k) (h1 : k ≤ 37) (w : World) :
    Calls Tryz.prog 68 #[.int .i64 k] w fun e w' => e = .returned (.int .i64 (tm k)) ∧ Below w.heap.size w w' := by
  have h3 : k % 3 = 0 ∨ k % 3 = 1 ∨ k % 3 = 2 := by omega
  have hw := tm_wrap k
  rcases h3 with h3 | h3 | h3
  all_goals
    have H3 := Lib.hid h3
    have Hw := Lib.hid hw
    clear hw
    go_enter Tryz.func68, Tryz.ntmps68
    go_wp2
    go_ret
    exact ⟨ret_int (by have := H3.out; first | exact Hw.out 1000 h0 h1 (by omega) | exact Hw.out 1260 h0 h1 (by omega) | exact Hw.out 1587 h0 h1 (by omega)), (Below.refl _ _).alloc (Nat.le_refl _) _⟩

/-- What a function of the program's own gives back: a value, and an error that stands for a code. -/
def Coded (s : Ers) (x : Value) (c : Int) (B : Nat) (w : World) (e : Ending) (w' : World) : Prop := ∃ v, IsCode s v c ∧ e = .returned (.tuple #[x, v]) ∧ Below B w w'

def timeR (k : Int) : Int := if inB k 0 36 = true then tm k else 0
def timeC (k : Int) : Int := if inB k 0 36 = true then 0 else 2

end Go.Proofs.YtnlcjbobfhmnmabGreatDoor

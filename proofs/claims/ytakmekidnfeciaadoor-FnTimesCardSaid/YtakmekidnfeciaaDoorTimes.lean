/-
  The times: what the program's and the reference's functions return, for every number. Condition of the program's: its table of times holds its three numbers ('TimEnv'; the row's list gives it).
-/
import Derived.Test.YtakmekidnfeciaaDoorErrs
import Derived.Test.YtakmekidnfeciaaDoorPlainTimes
namespace Go.Proofs.YtakmekidnfeciaaDoor
open Go.RowKit

/-- The program's table of times. -/
structure TimEnv (w : World) : Prop where
  c0 : w.cell? ⟨8, 0, none⟩ = some (.int .i64 1000)
  c1 : w.cell? ⟨8, 1, none⟩ = some (.int .i64 1260)
  c2 : w.cell? ⟨8, 2, none⟩ = some (.int .i64 1587)
theorem TimEnv.below {w w' : World} {B : Nat} (h : TimEnv w) (hb : Below B w w') (hB : w.heap.size ≤ B) : TimEnv w' :=
  ⟨below_cellOf hb h.c0 hB, below_cellOf hb h.c1 hB, below_cellOf hb h.c2 hB⟩

set_option maxHeartbeats 400000 in
theorem timeAt_any (k : Int) (h0 : 0 ≤ k) (h1 : k ≤ 37) (w : World) (hT : TimEnv w) :
    Calls Tryd.prog 97 #[.int .i64 k] w fun e w' => e = .returned (.int .i64 (tm k)) ∧ w = w' := by
  have c0 := hT.c0
  have c1 := hT.c1
  have c2 := hT.c2
  have h3 : k % 3 = 0 ∨ k % 3 = 1 ∨ k % 3 = 2 := by omega
  have hw := tm_wrap k
  rcases h3 with h3 | h3 | h3
  all_goals
    have H3 := Lib.hid h3
    have Hw := Lib.hid hw
    clear hw
    go_enter Tryd.func97, Tryd.ntmps97
    go_wp2
    go_ret
    exact ⟨ret_int (by have := H3.out; first | exact Hw.out 1000 h0 h1 (by omega) | exact Hw.out 1260 h0 h1 (by omega) | exact Hw.out 1587 h0 h1 (by omega)), rfl⟩

set_option maxHeartbeats 400000 in
theorem l01Time_any (k : Int) (h0 : 0 ≤ k) (h1 : k ≤ 37) (w : World) :
    Calls Tryd.prog 60 #[.int .i64 k] w fun e w' => e = .returned (.int .i64 (tm k)) ∧ Below w.heap.size w w' := by
  have h3 : k % 3 = 0 ∨ k % 3 = 1 ∨ k % 3 = 2 := by omega
  have hw := tm_wrap k
  rcases h3 with h3 | h3 | h3
  all_goals
    have H3 := Lib.hid h3
    have Hw := Lib.hid hw
    clear hw
    go_enter Tryd.func60, Tryd.ntmps60
    go_wp2
    go_ret
    exact ⟨ret_int (by have := H3.out; first | exact Hw.out 1000 h0 h1 (by omega) | exact Hw.out 1260 h0 h1 (by omega) | exact Hw.out 1587 h0 h1 (by omega)), (Below.refl _ _).alloc (Nat.le_refl _) _⟩

/-- What a function of the program's own gives back: a value, and an error that stands for a code. -/
def Coded (s : Ers) (x : Value) (c : Int) (B : Nat) (w : World) (e : Ending) (w' : World) : Prop := ∃ v, IsCode s v c ∧ e = .returned (.tuple #[x, v]) ∧ Below B w w'

def timeR (k : Int) : Int := if inB k 0 36 = true then tm k else 0
def timeC (k : Int) : Int := if inB k 0 36 = true then 0 else 2

set_option maxHeartbeats 400000 in
theorem timeOf_any (s : Ers) (k : Int) (w : World) (hT : TimEnv w) (hE : ErrEnv s w) :
    Calls Tryd.prog 62 #[.int .i64 k] w (Coded s (.int .i64 (timeR k)) (timeC k) w.heap.size w) := by
  have ce := hE.c_erange
  rcases h1 : inB k 0 36 with _ | _
  · have hR : timeR k = 0 := by simp [timeR, h1]
    have hC : timeC k = 2 := by simp [timeC, h1]
    rw [hR, hC]; clear hR hC
    go_enter Tryd.func62, Tryd.ntmps62
    go_wp2_with (go_at_call 89; refine (inRange_any _ _ _ _).mono ?_; rintro e w' ⟨rfl, rfl⟩)
    go_quiet (fail)
    go_wp2
    go_ret2
    exact ⟨_, .erange, rfl, below_drewN (Below.refl _ _) _⟩
  · have hb := inB_true.1 h1
    have hR : timeR k = tm k := by simp [timeR, h1]
    have hC : timeC k = 0 := by simp [timeC, h1]
    rw [hR, hC]; clear hR hC
    go_enter Tryd.func62, Tryd.ntmps62
    go_wp2_with fail
    refine (inRange_any _ _ _ _).mono ?_; rintro e w' ⟨rfl, rfl⟩
    go_wp2_with fail
    refine (timeAt_any _ (by omega) (by omega) _ hT).mono ?_; rintro e w' ⟨rfl, rfl⟩
    go_wp2_with fail
    go_ret2
    exact ⟨_, .ok, rfl, Below.refl _ _⟩

set_option maxHeartbeats 400000 in
theorem TimeOf_any (s : Ers) (k : Int) (w : World) (hT : TimEnv w) (hE : ErrEnv s w) :
    Calls Tryd.prog 23 #[.int .i64 k] w fun e w' => e = .returned (.tuple #[.int .i64 (timeR k), .int .i64 (timeC k)]) ∧ Below w.heap.size w w' := by
  go_enter Tryd.func23, Tryd.ntmps23
  go_wp2_with fail
  refine (timeOf_any s k _ hT hE).mono ?_; rintro e w1 ⟨v, hv, rfl, hb1⟩
  go_wp2_with fail
  refine (codedInt_any hv _ _ (hE.below hb1 (Nat.le_refl _))).mono ?_; rintro e w2 ⟨rfl, rfl⟩
  go_wp2_with fail
  go_ret2
  exact ⟨rfl, hb1⟩

set_option maxHeartbeats 400000 in
theorem specTimeOf_any (k : Int) (w : World) :
    Calls Tryd.prog 22 #[.int .i64 k] w fun e w' => e = .returned (.tuple #[.int .i64 (timeR k), .int .i64 (timeC k)]) ∧ Below w.heap.size w w' := by
  rcases h1 : inB k 0 36 with _ | _
  · have hR : timeR k = 0 := by simp [timeR, h1]
    have hC : timeC k = 2 := by simp [timeC, h1]
    rw [hR, hC]; clear hR hC
    go_enter Tryd.func22, Tryd.ntmps22
    go_wp2_with (go_at_call 59; refine (l00In_any _ _ _ _).mono ?_; rintro e w' ⟨rfl, rfl⟩)
    go_ret2
    exact ⟨rfl, Below.refl _ _⟩
  · have hb := inB_true.1 h1
    have hR : timeR k = tm k := by simp [timeR, h1]
    have hC : timeC k = 0 := by simp [timeC, h1]
    rw [hR, hC]; clear hR hC
    go_enter Tryd.func22, Tryd.ntmps22
    go_wp2_with fail
    refine (l00In_any _ _ _ _).mono ?_; rintro e w' ⟨rfl, rfl⟩
    go_wp2_with fail
    refine (l01Time_any _ (by omega) (by omega) _).mono ?_; rintro e w' ⟨rfl, hb1⟩
    go_wp2_with fail
    go_ret2
    exact ⟨rfl, hb1⟩
end Go.Proofs.YtakmekidnfeciaaDoor

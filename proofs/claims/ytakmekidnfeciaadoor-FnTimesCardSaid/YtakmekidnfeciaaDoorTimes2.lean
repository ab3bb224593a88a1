/-
  What is sought among the times: the thirds for a factor, within a time, nearest to a time: what the program's and the reference's functions return, for every number. Condition of the program's: its table of times holds its three numbers, its variables their own errors.
-/
import Derived.Test.YtakmekidnfeciaaDoorTimes
namespace Go.Proofs.YtakmekidnfeciaaDoor
open Go.RowKit

theorem quiet_left {P : Program} {f : FuncId} {args : Array Value} {w : World} {n : Nat} {v : Value}
    (h : Calls P f args (w.drewN n) fun e w' => e = .returned v ∧ w.drewN n = w') : Calls P f args (w.drewN n) fun e w'' => e = .returned v ∧ ∃ m, w'' = w.drewN m :=
  h.mono fun _ _ ⟨he, hm⟩ => ⟨he, n, hm.symm⟩
theorem quiet_add_left {P : Program} {f : FuncId} {args : Array Value} {w : World} {a n : Nat} {v : Value}
    (h : Calls P f args (w.drewN (a + n)) fun e w' => e = .returned v ∧ w.drewN (a + n) = w') :
    Calls P f args (w.drewN (a + n)) fun e w'' => e = .returned v ∧ ∃ m, w'' = w.drewN (a + m) :=
  h.mono fun _ _ ⟨he, hm⟩ => ⟨he, n, hm.symm⟩
theorem TimEnv.drewN {w : World} (h : TimEnv w) (n : Nat) : TimEnv (w.drewN n) := ⟨h.c0, h.c1, h.c2⟩

/-! ### THE THIRDS FOR A FACTOR -/
def FacR (f k : Int) : Prop := 0 ≤ k ∧ k ≤ 36 ∧ (k = 0 ∨ tm (k - 1) < 1000 * f)
theorem FacR.next {f k : Int} (h : FacR f k) (hf : f ≤ 1000) (hlt : tm k < 1000 * f) : FacR f (k + 1) := by
  obtain ⟨h0, h1, h2⟩ := h
  have h36 := tm_36
  have hk : k ≠ 36 := by rintro rfl; omega
  exact ⟨by omega, by omega, .inr (by rw [show k + 1 - 1 = k by omega]; exact hlt)⟩
theorem FacR.done {f k : Int} (h : FacR f k) (hge : 1000 * f ≤ tm k) : k = fac f :=
  (cl_eq k (1000 * f) h.1 (by have := h.2.1; omega) h.2.2 (.inr (by omega))).symm
def facR (f : Int) : Int := if inB f 1 1000 = true then fac f else 0
def facC (f : Int) : Int := if inB f 1 1000 = true then 0 else 2

set_option maxHeartbeats 1000000 in
theorem factorThirds_any (s : Ers) (f : Int) (w : World) (hT : TimEnv w) (hE : ErrEnv s w) :
    Calls Tryd.prog 91 #[.int .i64 f] w (Coded s (.int .i64 (facR f)) (facC f) w.heap.size w) := by
  have ce := hE.c_erange
  rcases h1 : inB f 1 1000 with _ | _
  · have hR : facR f = 0 := by simp [facR, h1]
    have hC : facC f = 2 := by simp [facC, h1]
    rw [hR, hC]; clear hR hC
    go_enter Tryd.func91, Tryd.ntmps91
    go_wp2_with (go_at_call 89; refine (inRange_any _ _ _ _).mono ?_; rintro e w' ⟨rfl, rfl⟩)
    go_quiet (fail)
    go_wp2
    go_ret2
    exact ⟨_, .erange, rfl, below_drewN (Below.refl _ _) _⟩
  · have hb := inB_true.1 h1
    have hR : facR f = fac f := by simp [facR, h1]
    have hC : facC f = 0 := by simp [facC, h1]
    rw [hR, hC]; clear hR hC
    have c0 := hT.c0
    go_enter Tryd.func91, Tryd.ntmps91
    go_wp2_with (go_at_call 89; refine (inRange_any _ _ _ _).mono ?_; rintro e w' ⟨rfl, rfl⟩)
    go_loopw [4] (fun t wr => ∃ k : Int, FacR f k ∧ t = .int .i64 k ∧ ∃ n, wr = w.drewN n) (fun t _ => (36 - intOf t).toNat)
    case atStart => exact ⟨0, ⟨by omega, by omega, .inl rfl⟩, rfl, 0, rfl⟩
    case round =>
      obtain ⟨k, hk, rfl, n, rfl⟩ := hrel
      have k0 := hk.1
      have k1 := hk.2.1
      by_cases hlt : tm k < 1000 * f
      · go_wp2_with fail
        go_quiet ((go_at_call 97; exact quiet_add_left (timeAt_any _ (by omega) (by omega) _ (hT.drewN _))))
        go_wp2
        go_roundw
        case rel => exact ⟨k + 1, hk.next (by omega) hlt, by go_num, _, rfl⟩
        case measure => have := (hk.next (by omega) hlt).2.1; simp [intOf]; omega
      · go_wp2_with fail
        go_quiet ((go_at_call 97; exact quiet_add_left (timeAt_any _ (by omega) (by omega) _ (hT.drewN _))))
        go_wp2
        go_ret2
        have e := hk.done (by omega)
        subst e
        exact ⟨_, .ok, rfl, below_drewN (below_drewN (Below.refl _ _) _) _⟩

set_option maxHeartbeats 1000000 in
theorem l01Factor_any (f : Int) (h0 : 1 ≤ f) (h1 : f ≤ 1000) (w : World) :
    Calls Tryd.prog 92 #[.int .i64 f] w fun e w' => e = .returned (.int .i64 (fac f)) ∧ Below w.heap.size w w' := by
  go_enter Tryd.func92, Tryd.ntmps92
  go_wp2
  go_loopw [3] (fun t wr => ∃ k : Int, FacR f k ∧ t = .int .i64 k ∧ Below w.heap.size w wr) (fun t _ => (36 - intOf t).toNat)
  case atStart => exact ⟨0, ⟨by omega, by omega, .inl rfl⟩, rfl, Below.refl _ _⟩
  case round =>
    obtain ⟨k, hk, rfl, hB⟩ := hrel
    have k0 := hk.1
    have k1 := hk.2.1
    by_cases hlt : tm k < 1000 * f
    · go_wp2_with (go_at_call 60; refine (l01Time_any _ (by omega) (by omega) _).mono ?_; rintro e w1 ⟨rfl, hb1⟩)
      go_roundw
      case rel => exact ⟨k + 1, hk.next (by omega) hlt, by go_num, hB.trans (hb1.mono hB.size)⟩
      case measure => have := (hk.next (by omega) hlt).2.1; simp [intOf]; omega
    · go_wp2_with (go_at_call 60; refine (l01Time_any _ (by omega) (by omega) _).mono ?_; rintro e w1 ⟨rfl, hb1⟩)
      go_ret
      exact ⟨ret_int (hk.done (by omega)), hB.trans (hb1.mono hB.size)⟩

set_option maxHeartbeats 400000 in
theorem FactorThirds_any (s : Ers) (k : Int) (w : World) (hT : TimEnv w) (hE : ErrEnv s w) :
    Calls Tryd.prog 49 #[.int .i64 k] w fun e w' => e = .returned (.tuple #[.int .i64 (facR k), .int .i64 (facC k)]) ∧ Below w.heap.size w w' := by
  go_enter Tryd.func49, Tryd.ntmps49
  go_wp2_with fail
  refine (factorThirds_any s k _ hT hE).mono ?_; rintro e w1 ⟨v, hv, rfl, hb1⟩
  go_wp2_with fail
  refine (codedInt_any hv _ _ (hE.below hb1 (Nat.le_refl _))).mono ?_; rintro e w2 ⟨rfl, rfl⟩
  go_wp2_with fail
  go_ret2
  exact ⟨rfl, hb1⟩

set_option maxHeartbeats 400000 in
theorem specFactorThirds_any (k : Int) (w : World) :
    Calls Tryd.prog 50 #[.int .i64 k] w fun e w' => e = .returned (.tuple #[.int .i64 (facR k), .int .i64 (facC k)]) ∧ Below w.heap.size w w' := by
  rcases h1 : inB k 1 1000 with _ | _
  · have hR : facR k = 0 := by simp [facR, h1]
    have hC : facC k = 2 := by simp [facC, h1]
    rw [hR, hC]; clear hR hC
    go_enter Tryd.func50, Tryd.ntmps50
    go_wp2_with (go_at_call 59; refine (l00In_any _ _ _ _).mono ?_; rintro e w' ⟨rfl, rfl⟩)
    go_ret2
    exact ⟨rfl, Below.refl _ _⟩
  · have hb := inB_true.1 h1
    have hR : facR k = fac k := by simp [facR, h1]
    have hC : facC k = 0 := by simp [facC, h1]
    rw [hR, hC]; clear hR hC
    go_enter Tryd.func50, Tryd.ntmps50
    go_wp2_with fail
    refine (l00In_any _ _ _ _).mono ?_; rintro e w' ⟨rfl, rfl⟩
    go_wp2_with fail
    refine (l01Factor_any _ (by omega) (by omega) _).mono ?_; rintro e w' ⟨rfl, hb1⟩
    go_wp2_with fail
    go_ret2
    exact ⟨rfl, hb1⟩
end Go.Proofs.YtakmekidnfeciaaDoor

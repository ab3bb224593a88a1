/-
  What is sought among the times: the thirds for a factor, within a time, nearest to a time: what the program's and the reference's functions return, for every number. Condition of the program's: its table of times holds its three numbers, its variables their own errors.
-/
import Derived.Test.YtnlcjbobfhmnmabGreatDoorTimes
namespace Go.Proofs.YtnlcjbobfhmnmabGreatDoor
open Go.RowKit

theorem quiet_left {P : Program} {f : FuncId} {args : Array Value} {w : World} {n : Nat} {v : Value}
    (h : Calls P f args (w.drewN n) fun e w' => e = .returned v ∧ w.drewN n = w') : Calls P f args (w.drewN n) fun e w'' => e = .returned v ∧ ∃ m, w'' = w.drewN m :=
  h.mono fun _ _ ⟨he, hm⟩ => ⟨he, n, hm.symm⟩
theorem quiet_add_left {P : Program} {f : FuncId} {args : Array Value} {w : World} {a n : Nat} {v : Value}
    (h : Calls P f args (w.drewN (a + n)) fun e w' => e = .returned v ∧ w.drewN (a + n) = w') :
    Calls P f args (w.drewN (a + n)) fun e w'' => e = .returned v ∧ ∃ m, w'' = w.drewN (a + m) :=
  h.mono fun _ _ ⟨he, hm⟩ => ⟨he, n, hm.symm⟩
theorem TimEnv.drewN {w : World} (h : TimEnv w) (n : Nat) : TimEnv (w.drewN n) := ⟨h.c0, h.c1, h.c2⟩

/-! ### THE THIRDS FOR A FACTOR -/
def FacR (f k : Int) : Prop := 0 ≤ k ∧ k ≤ 36 ∧ (k = 0 ∨ tm (k - 1) < 1000 * f)
theorem FacR.next {f k : Int} (h : FacR f k) (hf : f ≤ 1000) (hlt : tm k < 1000 * f) : FacR f (k + 1) := by
  obtain ⟨h0, h1, h2⟩ := h
  have h36 := tm_36
  have hk : k ≠ 36 := by rintro rfl; omega
  exact ⟨by omega, by omega, .inr (by rw [show k + 1 - 1 = k by omega]; exact hlt)⟩
theorem FacR.done {f k : Int} (h : FacR f k) (hge : 1000 * f ≤ tm k) : k = fac f :=
  (cl_eq k (1000 * f) h.1 (by have := h.2.1; omega) h.2.2 (.inr (by omega))).symm
def facR (f : Int) : Int := if inB f 1 1000 = true then fac f else 0
def facC (f : Int) : Int := if inB f 1 1000 = true then 0 else 2

end Go.Proofs.YtnlcjbobfhmnmabGreatDoor


namespace Go.Proofs.YtnlcjbobfhmnmabGreatDoor
open Go.RowKit

/-! ### THE THIRDS WITHIN A TIME -/
def milB (n : Int) : Bool := inB n 0 100000000
theorem milB_true {n : Int} : milB n = true ↔ 0 ≤ n ∧ n ≤ 100000000 := inB_true
def thinR (n : Int) : Int := if milB n = true then (if thin n < 0 then 0 else thin n) else 0
def thinC (n : Int) : Int := if milB n = true then (if thin n < 0 then 6 else 0) else 2
/-- From above: nothing above k is within. -/
def ThinR (n k : Int) : Prop := 0 ≤ k ∧ k ≤ 36 ∧ (k = 36 ∨ n < tm (k + 1))
theorem ThinR.next {n k : Int} (h : ThinR n k) (hn : 1000 ≤ n) (hgt : n < tm k) : ThinR n (k - 1) := by
  obtain ⟨h0, h1, h2⟩ := h
  have t0 := tm_0
  have hk : k ≠ 0 := by rintro rfl; omega
  exact ⟨by omega, by omega, .inr (by rw [show k - 1 + 1 = k by omega]; exact hgt)⟩
theorem ThinR.done {n k : Int} (h : ThinR n k) (hle : tm k ≤ n) : k = thin n :=
  (thin_eq k n (by have := h.1; omega) h.2.1 (.inr hle) h.2.2).symm
theorem thinR_in {n k : Int} (hm : milB n = true) (h0 : 0 ≤ k) (h : k = thin n) : thinR n = k ∧ thinC n = 0 := by
  subst h
  have : ¬ thin n < 0 := by omega
  simp [thinR, thinC, hm, this]
theorem thinR_none {n : Int} (hm : milB n = true) (h : n < 1000) : thinR n = 0 ∧ thinC n = 6 := by
  have h1 := (thin_none n).2 h
  have : thin n < 0 := by omega
  simp [thinR, thinC, hm, this]

set_option maxHeartbeats 1000000 in
theorem thirdsIn_any (s : Ers) (n : Int) (w : World) (hT : TimEnv w) (hE : ErrEnv s w) :
    Calls Tryz.prog 88 #[.int .i64 n] w (Coded s (.int .i64 (thinR n)) (thinC n) w.heap.size w) := by
  have ce := hE.c_erange
  have cn := hE.c_enotfound
  rcases h1 : inB n 0 100000000 with _ | _
  · have hR : thinR n = 0 := by simp [thinR, milB, h1]
    have hC : thinC n = 2 := by simp [thinC, milB, h1]
    rw [hR, hC]; clear hR hC
    go_enter Tryz.func88, Tryz.ntmps88
    go_wp2_with (go_at_call 43; refine (inRange_any _ _ _ _).mono ?_; rintro e w' ⟨rfl, rfl⟩)
    go_quiet (fail)
    go_wp2
    go_ret2
    exact ⟨_, .erange, rfl, below_drewN (Below.refl _ _) _⟩
  · have hb := inB_true.1 h1
    have t0 := tm_0
    by_cases hs : n < 1000
    · obtain ⟨hR, hC⟩ := thinR_none h1 hs
      rw [hR, hC]; clear hR hC
      have ht : n < tm 0 := by omega
      have T0 := Lib.hid t0; clear t0
      go_enter Tryz.func88, Tryz.ntmps88
      go_wp2_with fail
      refine (inRange_any _ _ _ _).mono ?_; rintro e w' ⟨rfl, rfl⟩
      go_wp2_with fail
      refine (timeAt_any _ (by omega) (by omega) _ hT).mono ?_; rintro e w' ⟨rfl, rfl⟩
      go_wp2_with fail
      go_quiet (fail)
      go_wp2
      go_ret2
      exact ⟨_, .enotfound, rfl, below_drewN (Below.refl _ _) _⟩
    · have ht : decide (n < tm 0) = false := decide_eq_false (by omega)
      have h1000 : 1000 ≤ n := by omega
      have fin : ∀ k, 0 ≤ k → k = thin n → thinR n = k ∧ thinC n = 0 := fun k h0 h => thinR_in h1 h0 h
      have T0 := Lib.hid t0; clear t0
      have Fin := Lib.hid fin; clear fin
      go_enter Tryz.func88, Tryz.ntmps88
      go_wp2_with fail
      refine (inRange_any _ _ _ _).mono ?_; rintro e w' ⟨rfl, rfl⟩
      go_wp2_with fail
      refine (timeAt_any _ (by omega) (by omega) _ hT).mono ?_; rintro e w' ⟨rfl, rfl⟩
      go_wp2_with fail
      go_loop [4] (fun t => ∃ k : Int, ThinR n k ∧ t = .int .i64 k) (fun t => (intOf t).toNat)
      case atStart => exact ⟨36, ⟨by omega, by omega, .inl rfl⟩, rfl⟩
      case round =>
        obtain ⟨k, hk, rfl⟩ := hrel
        have k0 := hk.1
        have k1 := hk.2.1
        by_cases hgt : n < tm k
        · go_wp2_with (go_at_call 64; refine (timeAt_any _ (by omega) (by omega) _ hT).mono ?_; rintro e w' ⟨rfl, rfl⟩)
          go_round
          case rel => exact ⟨k - 1, hk.next h1000 hgt, by go_num⟩
          case measure => have := (hk.next h1000 hgt).1; simp [intOf]; omega
        · go_wp2_with (go_at_call 64; refine (timeAt_any _ (by omega) (by omega) _ hT).mono ?_; rintro e w' ⟨rfl, rfl⟩)
          go_ret2
          obtain ⟨e1, e2⟩ := Fin.out k k0 (hk.done (by omega))
          rw [e1, e2]
          exact ⟨_, .ok, rfl, Below.refl _ _⟩

/-- From below: -1, or the time of k is within. -/
def InR (n k : Int) : Prop := -1 ≤ k ∧ k ≤ 36 ∧ (k = -1 ∨ tm k ≤ n)
theorem InR.next {n k : Int} (h : InR n k) (hk : k < 36) (hle : tm (k + 1) ≤ n) : InR n (k + 1) := ⟨by have := h.1; omega, by omega, .inr hle⟩
theorem InR.done {n k : Int} (h : InR n k) (hh : k = 36 ∨ n < tm (k + 1)) : k = thin n := (thin_eq k n h.1 h.2.1 h.2.2 hh).symm

set_option maxHeartbeats 1000000 in
theorem l01In_any (n : Int) (w : World) :
    Calls Tryz.prog 69 #[.int .i64 n] w fun e w' => e = .returned (.int .i64 (thin n)) ∧ Below w.heap.size w w' := by
  go_enter Tryz.func69, Tryz.ntmps69
  go_wp2
  go_loopw [3] (fun t wr => ∃ k : Int, InR n k ∧ t = .int .i64 k ∧ Below w.heap.size w wr) (fun t _ => (36 - intOf t).toNat)
  case atStart => exact ⟨-1, ⟨by omega, by omega, .inl rfl⟩, rfl, Below.refl _ _⟩
  case round =>
    obtain ⟨k, hk, rfl, hB⟩ := hrel
    have k0 := hk.1
    have k1 := hk.2.1
    by_cases hlt : k < 36
    · by_cases hle : tm (k + 1) ≤ n
      · go_wp2_with (go_at_call 68; refine (l01Time_any _ (by omega) (by omega) _).mono ?_; rintro e w1 ⟨rfl, hb1⟩)
        go_roundw
        case rel => exact ⟨k + 1, hk.next hlt hle, by go_num, hB.trans (hb1.mono hB.size)⟩
        case measure => simp [intOf]; omega
      · go_wp2_with (go_at_call 68; refine (l01Time_any _ (by omega) (by omega) _).mono ?_; rintro e w1 ⟨rfl, hb1⟩)
        go_ret
        exact ⟨ret_int (hk.done (.inr (by omega))), hB.trans (hb1.mono hB.size)⟩
    · go_wp2
      go_ret
      exact ⟨ret_int (hk.done (.inl (by omega))), hB⟩

/-! ### THE NEAREST THIRDS -/
def nearR (n : Int) : Int := if milB n = true then near n else 0
def nearC (n : Int) : Int := if milB n = true then 0 else 2

set_option maxHeartbeats 400000 in
theorem distance_any (a b : Int) (ha : -4000000000000 ≤ a) (ha' : a ≤ 4000000000000) (hb : -4000000000000 ≤ b) (hb' : b ≤ 4000000000000) (w : World) :
    Calls Tryz.prog 78 #[.int .i64 a, .int .i64 b] w fun e w' => e = .returned (.int .i64 (max (a - b) (b - a))) ∧ w = w' := by
  by_cases h : a - b ≤ b - a
  all_goals
    go_enter Tryz.func78, Tryz.ntmps78
    go_wp2
    all_goals
      go_ret
      exact ⟨ret_int (by omega), rfl⟩
theorem far_any (n k : Int) (hk : 0 ≤ k) (hk' : k ≤ 37) (h0 : 0 ≤ n) (h1 : n ≤ 100000000) (w : World) :
    Calls Tryz.prog 78 #[.int .i64 (tm k), .int .i64 n] w fun e w' => e = .returned (.int .i64 (far n k)) ∧ w = w' := by
  have := tm_bd k hk hk'
  exact distance_any _ _ (by omega) (by omega) (by omega) (by omega) _
theorem Nearest.more {n m k : Int} (h : Nearest n m k) (hm : 0 ≤ m) (hlt : far n m < far n k) : Nearest n (m + 1) m := by
  obtain ⟨h0, h1, h2, h3⟩ := h
  refine ⟨hm, by omega, fun j j0 j1 => ?_, fun j j0 j1 => by omega⟩
  rcases Int.lt_trichotomy j k with hj | rfl | hj
  · have := h2 j j0 hj; omega
  · exact hlt
  · have := h3 j hj j1; omega
theorem Nearest.same {n m k : Int} (h : Nearest n m k) (hge : far n k ≤ far n m) : Nearest n (m + 1) k := by
  obtain ⟨h0, h1, h2, h3⟩ := h
  refine ⟨h0, by omega, h2, fun j j0 j1 => ?_⟩
  rcases Int.lt_or_eq_of_le (show j ≤ m by omega) with hj | rfl
  · exact h3 j j0 hj
  · exact hge

theorem l00Max_any (a b : Int) (w : World) :
    Calls Tryz.prog 58 #[.int .i64 a, .int .i64 b] w fun e w' => e = .returned (.int .i64 (max a b)) ∧ w = w' := by
  by_cases h : b < a
  all_goals
    go_enter Tryz.func58, Tryz.ntmps58
    go_wp2
    all_goals
      go_ret
      exact ⟨ret_int (by omega), rfl⟩

/-! ### AN ENLARGER THAT IS RAISED -/
/-- The milliseconds behind the raise. -/
def enlN (k b a : Int) : Int := tm k * a * a / (b * b)
def enlOk (k b a : Int) : Bool := inB k 0 36 && (inB b 1 100 && inB a 1 100)
def enlR (k b a : Int) : Int := if enlOk k b a = true then (if 100000000 < enlN k b a then 0 else near (enlN k b a)) else 0
def enlC (k b a : Int) : Int := if enlOk k b a = true then (if 100000000 < enlN k b a then 3 else 0) else 2
theorem enl_no {k b a : Int} (h : enlOk k b a = false) : enlR k b a = 0 ∧ enlC k b a = 2 := by simp [enlR, enlC, h]
theorem enl_yes {k b a : Int} (h : enlOk k b a = true) : enlR k b a = (if 100000000 < enlN k b a then 0 else near (enlN k b a)) ∧ enlC k b a = (if 100000000 < enlN k b a then 3 else 0) := by simp [enlR, enlC, h]
theorem enl_bounds {k b a : Int} (h0 : 0 ≤ k) (h1 : k ≤ 36) (b0 : 1 ≤ b) (b1 : b ≤ 100) (a0 : 1 ≤ a) (a1 : a ≤ 100) :
    (0 ≤ tm k * a ∧ tm k * a ≤ 600000000) ∧ (0 ≤ tm k * a * a ∧ tm k * a * a ≤ 60000000000) ∧ (1 ≤ b * b ∧ b * b ≤ 10000) ∧ 0 ≤ enlN k b a := by
  have ht := tm_bd k h0 (by omega)
  have e1 : tm k * a ≤ 5160960 * 100 := Int.mul_le_mul ht.2 a1 (by omega) (by omega)
  have e0 : 0 ≤ tm k * a := Int.mul_nonneg (by omega) (by omega)
  have f1 : tm k * a * a ≤ 516096000 * 100 := Int.mul_le_mul (by omega) a1 (by omega) (by omega)
  have f0 : 0 ≤ tm k * a * a := Int.mul_nonneg e0 (by omega)
  have g1 : b * b ≤ 100 * 100 := Int.mul_le_mul b1 b1 (by omega) (by omega)
  have g0 : 1 * 1 ≤ b * b := Int.mul_le_mul b0 b0 (by omega) (by omega)
  exact ⟨⟨e0, by omega⟩, ⟨f0, by omega⟩, ⟨by omega, by omega⟩, Int.ediv_nonneg f0 (by omega)⟩

end Go.Proofs.YtnlcjbobfhmnmabGreatDoor

/-
  The nearest band and the first that reaches a target, with their codes: by the program and by the reference, for every list of at most 1048576 numbers. Condition of the program's: its variables hold their own errors.
-/
import Derived.Test.YtnlcjbobfhmnmabGreatDoorTabE
import Derived.Test.YtnlcjbobfhmnmabGreatDoorPlainNear
import Derived.Test.YtnlcjbobfhmnmabGreatDoorNum
import Derived.Test.YtnlcjbobfhmnmabGreatDoorShapeS
import Derived.Test.YtnlcjbobfhmnmabGreatDoorCvX
import Derived.Test.YtnlcjbobfhmnmabGreatDoorTimX
import Derived.Test.YtnlcjbobfhmnmabGreatDoorCurA
namespace Go.Proofs.YtnlcjbobfhmnmabGreatDoor
open Go.RowKit

theorem bandB_no {n : Nat} {xs : Nat → Int} {t : Int} {k : Nat} (hk : k < n) (h : inB (xs k) 0 400 = false) : bandB n xs t = false := by simp [bandB, allT_no hk h]
theorem bandB_all {n : Nat} {xs : Nat → Int} {t : Int} (h : allT 0 400 xs n = true) : bandB n xs t = (inB n 1 20 && inB t 0 400) := by simp [bandB, h]

set_option maxRecDepth 100000 in
set_option maxHeartbeats 1000000 in
theorem l05Read_any (g n cap : Nat) (xs : Nat → Int) (t : Int) (hn : n ≤ 1048576) (w : World) (hr : IRow w g n xs) :
    Calls Tryz.prog 48 #[.slice (some ⟨g, 0, none⟩) n cap, .int .i64 t] w fun e w' => e = .returned (.bool (bandB n xs t)) ∧ w = w' := by
  go_enter Tryz.func48, Tryz.ntmps48
  go_wp2
  go_loopw [5] (fun i wr => ∃ k : Nat, k ≤ n ∧ i = .int .i64 k ∧ allT 0 400 xs k = true ∧ wr = w) (fun i _ => n - (intOf i).toNat)
  case atStart => exact ⟨0, Nat.zero_le _, rfl, rfl, rfl⟩
  case round =>
    obtain ⟨k, hk, rfl, ha, rfl⟩ := hrel
    have Ha := Lib.hid ha; clear ha
    by_cases hkn : k < n
    · have c0 := hr.cell hkn
      have hq := fun W => l02Density_any (xs k) W
      rcases h1 : inB (xs k) 0 400 with _ | _
      · have hno := bandB_no (t := t) hkn h1
        rw [h1] at hq
        have Hno := Lib.hid hno; clear hno h1
        have Hq := Lib.hid hq; clear hq
        generalize xs k = X at *
        go_wp2_with fail
        refine (Hq.out _).mono ?_; rintro e w1 ⟨rfl, rfl⟩
        go_wp2_with fail
        go_ret
        exact ⟨ret_bool Hno.out.symm, rfl⟩
      · have hm := allT_more Ha.out h1
        rw [h1] at hq
        have Hm := Lib.hid hm; clear hm h1
        have Hq := Lib.hid hq; clear hq
        generalize xs k = X at *
        go_wp2_with fail
        refine (Hq.out _).mono ?_; rintro e w1 ⟨rfl, rfl⟩
        go_wp2_with fail
        go_roundw
        case rel => exact ⟨k + 1, by omega, by go_num, Hm.out, trivial⟩
        case measure => simp [intOf]; omega
    · obtain rfl : k = n := by omega
      have HB := Lib.hid (bandB_all (t := t) Ha.out)
      rcases h1 : inB (k : Int) 1 20 with _ | _
      · go_wp2_with (first | (go_at_call 57; refine (l00In_any _ _ _ _).mono ?_; rintro e w' ⟨rfl, rfl⟩) | (go_at_call 54; refine (l02Density_any _ _).mono ?_; rintro e w' ⟨rfl, rfl⟩))
        go_ret
        exact ⟨ret_bool (by rw [HB.out]; simp [*]), rfl⟩
      · go_wp2_with (first | (go_at_call 57; refine (l00In_any _ _ _ _).mono ?_; rintro e w' ⟨rfl, rfl⟩) | (go_at_call 54; refine (l02Density_any _ _).mono ?_; rintro e w' ⟨rfl, rfl⟩))
        go_ret
        exact ⟨ret_bool (by rw [HB.out]; simp [*]), rfl⟩

set_option maxRecDepth 100000 in
set_option maxHeartbeats 1000000 in
theorem areBands_any (g n cap : Nat) (xs : Nat → Int) (t : Int) (hn : n ≤ 1048576) (w : World) (hr : IRow w g n xs) :
    Calls Tryz.prog 75 #[.slice (some ⟨g, 0, none⟩) n cap, .int .i64 t] w fun e w' => e = .returned (.bool (bandB n xs t)) ∧ w = w' := by
  have hl := fun W => inRange_any (n : Int) 1 20 W
  rcases h0 : inB (n : Int) 1 20 with _ | _
  · have hno : bandB n xs t = false := by simp [bandB, h0]
    rw [hno]
    rw [h0] at hl
    have Hl := Lib.hid hl; clear hl h0 hno
    go_enter Tryz.func75, Tryz.ntmps75
    go_wp2_with fail
    refine (Hl.out _).mono ?_; rintro e w1 ⟨rfl, rfl⟩
    go_wp2_with fail
    go_ret
    exact ⟨rfl, rfl⟩
  rw [h0] at hl
  have Hl := Lib.hid hl; clear hl
  have H0 := Lib.hid h0; clear h0
  go_enter Tryz.func75, Tryz.ntmps75
  go_wp2_with fail
  refine (Hl.out _).mono ?_; rintro e w1 ⟨rfl, rfl⟩
  go_wp2_with fail
  go_loopw [13] (fun i wr => ∃ k : Nat, k ≤ n ∧ i = .int .i64 k ∧ allT 0 400 xs k = true ∧ wr = w) (fun i _ => n - (intOf i).toNat)
  case atStart => exact ⟨0, Nat.zero_le _, rfl, rfl, rfl⟩
  case round =>
    obtain ⟨k, hk, rfl, ha, rfl⟩ := hrel
    have Ha := Lib.hid ha; clear ha
    by_cases hkn : k < n
    · have c0 := hr.cell hkn
      have hq := fun W => isDensity_any (xs k) W
      rcases h1 : inB (xs k) 0 400 with _ | _
      · have hno := bandB_no (t := t) hkn h1
        rw [h1] at hq
        have Hno := Lib.hid hno; clear hno h1
        have Hq := Lib.hid hq; clear hq
        generalize xs k = X at *
        go_wp2_with fail
        refine (Hq.out _).mono ?_; rintro e w1 ⟨rfl, rfl⟩
        go_wp2_with fail
        go_ret
        exact ⟨ret_bool Hno.out.symm, rfl⟩
      · have hm := allT_more Ha.out h1
        rw [h1] at hq
        have Hm := Lib.hid hm; clear hm h1
        have Hq := Lib.hid hq; clear hq
        generalize xs k = X at *
        go_wp2_with fail
        refine (Hq.out _).mono ?_; rintro e w1 ⟨rfl, rfl⟩
        go_wp2_with fail
        go_roundw
        case rel => exact ⟨k + 1, by omega, by go_num, Hm.out, trivial⟩
        case measure => simp [intOf]; omega
    · obtain rfl : k = n := by omega
      have HB := Lib.hid (bandB_all (t := t) Ha.out)
      go_wp2_with fail
      refine (isDensity_any _ _).mono ?_; rintro e w1 ⟨rfl, rfl⟩
      go_wp2_with fail
      go_ret
      exact ⟨ret_bool (by rw [HB.out, H0.out, Bool.true_and]), rfl⟩

/-! ### THE FIRST BAND -/
def fstK (n : Nat) (xs : Nat → Int) (t : Int) : Nat := firstK (fun j => decide (t ≤ xs j)) n
def fstC (n : Nat) (xs : Nat → Int) (t : Int) : Int := if bandB n xs t = true then (if fstK n xs t = n then 6 else 0) else 2
theorem fst_2 {n : Nat} {xs : Nat → Int} {t : Int} (h : bandB n xs t = false) : fstC n xs t = 2 := by simp [fstC, h]
theorem fst_6 {n : Nat} {xs : Nat → Int} {t : Int} (h : bandB n xs t = true) (h2 : fstK n xs t = n) : fstC n xs t = 6 := by simp [fstC, h, h2]
theorem fst_0 {n : Nat} {xs : Nat → Int} {t : Int} (h : bandB n xs t = true) (h2 : fstK n xs t < n) : fstC n xs t = 0 := by
  have : ¬ fstK n xs t = n := by omega
  simp [fstC, h, this]
theorem fstK_le (n : Nat) (xs : Nat → Int) (t : Int) : fstK n xs t ≤ n := firstK_spec.1
/-- No number ahead of k reaches t. -/
def NoneB (xs : Nat → Int) (t : Int) (k : Nat) : Prop := ∀ j, j < k → xs j < t
theorem NoneB.next {xs : Nat → Int} {t : Int} {k : Nat} (h : NoneB xs t k) (hk : ¬ t ≤ xs k) : NoneB xs t (k + 1) := fun j hj => by
  rcases Nat.lt_or_ge j k with h1 | h1
  · exact h j h1
  · obtain rfl : j = k := by omega
    omega
theorem NoneB.found {n : Nat} {xs : Nat → Int} {t : Int} {k : Nat} (h : NoneB xs t k) (hn : k < n) (hk : t ≤ xs k) : fstK n xs t = k :=
  firstK_eq (by omega) (fun j hj => by have := h j hj; simp; omega) (fun _ => by simpa using hk)
theorem NoneB.none {n : Nat} {xs : Nat → Int} {t : Int} (h : NoneB xs t n) : fstK n xs t = n :=
  firstK_eq (by omega) (fun j hj => by have := h j hj; simp; omega) (fun h => by omega)

set_option maxRecDepth 100000 in
set_option maxHeartbeats 1000000 in
theorem bandsAhead_any (g n cap : Nat) (xs : Nat → Int) (t : Int) (hn : n ≤ 1048576) (hcap : n ≤ cap) (w : World) (hr : IRow w g n xs) :
    Calls Tryz.prog 80 #[.slice (some ⟨g, 0, none⟩) n cap, .int .i64 t] w fun e w' => (∃ A c, e = .returned (.slice A (fstK n xs t) c)) ∧ w = w' := by
  go_enter Tryz.func80, Tryz.ntmps80
  go_wp2
  go_loopw [9] (fun i wr => ∃ k : Nat, k ≤ n ∧ i = .int .i64 k ∧ NoneB xs t k ∧ wr = w) (fun i _ => n - (intOf i).toNat)
  case atStart => exact ⟨0, Nat.zero_le _, rfl, fun j hj => by omega, rfl⟩
  case round =>
    obtain ⟨k, hk, rfl, ha, rfl⟩ := hrel
    have Ha := Lib.hid ha; clear ha
    by_cases hkn : k < n
    · have c0 := hr.cell hkn
      have hkc : (k : Int) ≤ cap := by omega
      have hkt : ((k : Int)).toNat = k := by omega
      by_cases hy : t ≤ xs k
      · have hf := Ha.out.found hkn hy
        have HF := Lib.hid hf; clear hf
        generalize xs k = X at *
        go_wp2_with fail
        go_ret
        rw [HF.out]
        exact ⟨⟨_, _, rfl⟩, rfl⟩
      · have hm := Ha.out.next hy
        have Hm := Lib.hid hm; clear hm
        generalize xs k = X at *
        have hd : decide (t ≤ X) = false := decide_eq_false hy
        go_wp2_with fail
        go_roundw
        case rel => exact ⟨k + 1, by omega, by go_num, Hm.out, trivial⟩
        case measure => simp [intOf]; omega
    · obtain rfl : k = n := by omega
      have HF := Lib.hid (Ha.out.none)
      go_wp2_with fail
      go_ret
      rw [HF.out]
      exact ⟨⟨_, _, rfl⟩, rfl⟩

set_option maxRecDepth 100000 in
set_option maxHeartbeats 1000000 in
theorem firstBand_any (s : Ers) (g n cap : Nat) (xs : Nat → Int) (t : Int) (hn : n ≤ 1048576) (hcap : n ≤ cap) (w : World) (hr : IRow w g n xs) (hE : ErrEnv s w) :
    Calls Tryz.prog 51 #[.slice (some ⟨g, 0, none⟩) n cap, .int .i64 t] w (CodedX s (.int .i64 (ifOk (fstC n xs t) (fstK n xs t : Nat))) (fstC n xs t) w.heap.size w) := by
  have hb := fun W hW => areBands_any g n cap xs t hn W hW
  have ha := fun W hW => bandsAhead_any g n cap xs t hn hcap W hW
  have hle := fstK_le n xs t
  rcases h : bandB n xs t with _ | _
  · rw [fst_2 h, ifOk_2]
    rw [h] at hb
    have Hb := Lib.hid hb; clear hb ha h
    have ce := hE.c_erange
    go_enter Tryz.func51, Tryz.ntmps51
    go_wp2_with fail
    refine (Hb.out _ hr).mono ?_; rintro e w1 ⟨rfl, rfl⟩
    go_wp2_with fail
    go_quiet (fail)
    go_wp2
    go_ret2
    exact ⟨_, .erange, rfl, below_drewL (Below.refl _ _) _⟩
  rw [h] at hb
  have Hb := Lib.hid hb; clear hb
  by_cases h2 : fstK n xs t = n
  · rw [fst_6 h h2, ifOk_6]
    rw [h2] at ha
    have Ha := Lib.hid ha; clear ha h h2 hle
    have ce := hE.c_enotfound
    go_enter Tryz.func51, Tryz.ntmps51
    go_wp2_with fail
    refine (Hb.out _ hr).mono ?_; rintro e w1 ⟨rfl, rfl⟩
    go_wp2_with fail
    refine (Ha.out _ hr).mono ?_; rintro e w1 ⟨⟨A, c, rfl⟩, rfl⟩
    go_wp2_with fail
    go_quiet (fail)
    go_wp2
    go_ret2
    exact ⟨_, .enotfound, rfl, below_drewL (Below.refl _ _) _⟩
  · rw [fst_0 h (by omega), ifOk_0]
    generalize fstK n xs t = K at *
    have hne : ((K : Int) == (n : Int)) = false := by simp; omega
    have Ha := Lib.hid ha; clear ha h
    go_enter Tryz.func51, Tryz.ntmps51
    go_wp2_with fail
    refine (Hb.out _ hr).mono ?_; rintro e w1 ⟨rfl, rfl⟩
    go_wp2_with fail
    refine (Ha.out _ hr).mono ?_; rintro e w1 ⟨⟨A, c, rfl⟩, rfl⟩
    go_wp2_with fail
    go_ret2
    exact ⟨_, .ok, rfl, Below.refl _ _⟩

set_option maxHeartbeats 1000000 in
theorem FirstBand_any (s : Ers) (g n cap : Nat) (xs : Nat → Int) (t : Int) (hn : n ≤ 1048576) (hcap : n ≤ cap) (w : World) (hr : IRow w g n xs) (hE : ErrEnv s w) :
    Calls Tryz.prog 21 #[.slice (some ⟨g, 0, none⟩) n cap, .int .i64 t] w fun e w' => e = .returned (.tuple #[.int .i64 (ifOk (fstC n xs t) (fstK n xs t : Nat)), .int .i64 (fstC n xs t)]) ∧ Below w.heap.size w w' := by
  have hk := fun W hr hE => firstBand_any s g n cap xs t hn hcap W hr hE
  generalize ifOk (fstC n xs t) (fstK n xs t : Nat) = V at hk ⊢
  generalize fstC n xs t = C at hk ⊢
  have Hk := Lib.hid hk; clear hk
  go_enter Tryz.func21, Tryz.ntmps21
  go_wp2_with fail
  refine (Hk.out _ hr hE).mono ?_; rintro e w1 ⟨v, hv, rfl, hb1⟩
  go_wp2_with fail
  refine (codedInt_any hv _ _ (hE.below hb1 (Nat.le_refl _))).mono ?_; rintro e w2 ⟨rfl, rfl⟩
  go_wp2_with fail
  go_ret2
  exact ⟨rfl, hb1⟩

set_option maxRecDepth 100000 in
set_option maxHeartbeats 1000000 in
theorem specFirstBand_any (g n cap : Nat) (xs : Nat → Int) (t : Int) (hn : n ≤ 1048576) (w : World) (hr : IRow w g n xs) :
    Calls Tryz.prog 22 #[.slice (some ⟨g, 0, none⟩) n cap, .int .i64 t] w fun e w' => e = .returned (.tuple #[.int .i64 (ifOk (fstC n xs t) (fstK n xs t : Nat)), .int .i64 (fstC n xs t)]) ∧ Below w.heap.size w w' := by
  have hb := fun W hW => l05Read_any g n cap xs t hn W hW
  rcases h : bandB n xs t with _ | _
  · rw [fst_2 h, ifOk_2]
    rw [h] at hb
    have Hb := Lib.hid hb; clear hb h
    go_enter Tryz.func22, Tryz.ntmps22
    go_wp2_with fail
    refine (Hb.out _ hr).mono ?_; rintro e w1 ⟨rfl, rfl⟩
    go_wp2_with fail
    go_ret2
    exact ⟨rfl, Below.refl _ _⟩
  rw [h] at hb
  have Hb := Lib.hid hb; clear hb
  have H := Lib.hid h; clear h
  go_enter Tryz.func22, Tryz.ntmps22
  go_wp2_with fail
  refine (Hb.out _ hr).mono ?_; rintro e w1 ⟨rfl, rfl⟩
  go_wp2_with fail
  go_loopw [6] (fun i wr => ∃ k : Nat, k ≤ n ∧ i = .int .i64 k ∧ NoneB xs t k ∧ wr = w) (fun i _ => n - (intOf i).toNat)
  case atStart => exact ⟨0, Nat.zero_le _, rfl, fun j hj => by omega, rfl⟩
  case round =>
    obtain ⟨k, hk, rfl, ha, rfl⟩ := hrel
    have Ha := Lib.hid ha; clear ha
    by_cases hkn : k < n
    · have c0 := hr.cell hkn
      by_cases hy : t ≤ xs k
      · have hf := Ha.out.found hkn hy
        have hC := fst_0 H.out (by rw [hf]; exact hkn)
        have HF := Lib.hid hf; clear hf
        have HC := Lib.hid hC; clear hC
        generalize xs k = X at *
        go_wp2_with fail
        go_ret2
        rw [HC.out, HF.out, ifOk_0]
        exact ⟨rfl, Below.refl _ _⟩
      · have hm := Ha.out.next hy
        have Hm := Lib.hid hm; clear hm
        generalize xs k = X at *
        have hd : decide (t ≤ X) = false := decide_eq_false hy
        go_wp2_with fail
        go_roundw
        case rel => exact ⟨k + 1, by omega, by go_num, Hm.out, trivial⟩
        case measure => simp [intOf]; omega
    · obtain rfl : k = n := by omega
      have HC := Lib.hid (fst_6 H.out Ha.out.none)
      go_wp2_with fail
      go_ret2
      rw [HC.out, ifOk_6]
      exact ⟨rfl, Below.refl _ _⟩

/-! ### THE NEAREST BAND -/
def dstB (xs : Nat → Int) (t : Int) (j : Nat) : Int := max (xs j - t) (t - xs j)
def nrC (n : Nat) (xs : Nat → Int) (t : Int) : Int := if bandB n xs t = true then 0 else 2
def nrV (n : Nat) (xs : Nat → Int) (t : Int) : Int := xs (nearK (dstB xs t) n) - t
theorem nr_2 {n : Nat} {xs : Nat → Int} {t : Int} (h : bandB n xs t = false) : nrC n xs t = 2 := by simp [nrC, h]
theorem nr_0 {n : Nat} {xs : Nat → Int} {t : Int} (h : bandB n xs t = true) : nrC n xs t = 0 := by simp [nrC, h]
theorem quiet_leftB {P : Program} {f : FuncId} {args : Array Value} {w : World} {a n : Nat} {v : Value}
    (h : Calls P f args (w.drewN (a + n)) fun e w' => e = .returned v ∧ w.drewN (a + n) = w') :
    Calls P f args (w.drewN (a + n)) fun e w'' => e = .returned v ∧ ∃ m, w'' = w.drewN (a + m) :=
  h.mono fun _ _ ⟨he, hm⟩ => ⟨he, n, hm.symm⟩

set_option maxRecDepth 100000 in
set_option maxHeartbeats 2000000 in
theorem specNearestBand_any (g n cap : Nat) (xs : Nat → Int) (t : Int) (hn : n ≤ 1048576) (w : World) (hr : IRow w g n xs) :
    Calls Tryz.prog 20 #[.slice (some ⟨g, 0, none⟩) n cap, .int .i64 t] w fun e w' => e = .returned (.tuple #[.int .i64 (ifOk (nrC n xs t) (nearK (dstB xs t) n : Nat)), .int .i64 (ifOk (nrC n xs t) (nrV n xs t)), .int .i64 (nrC n xs t)]) ∧ Below w.heap.size w w' := by
  have hb := fun W hW => l05Read_any g n cap xs t hn W hW
  rcases h : bandB n xs t with _ | _
  · rw [nr_2 h, ifOk_2, ifOk_2]
    rw [h] at hb
    have Hb := Lib.hid hb; clear hb h
    go_enter Tryz.func20, Tryz.ntmps20
    go_wp2_with fail
    refine (Hb.out _ hr).mono ?_; rintro e w1 ⟨rfl, rfl⟩
    go_wp2_with fail
    go_ret3
    exact ⟨rfl, Below.refl _ _⟩
  rw [nr_0 h, ifOk_0, ifOk_0]
  rw [h] at hb
  obtain ⟨⟨n1, n20⟩, hx, ht0, ht1⟩ := bandB_ok h
  have Hb := Lib.hid hb; clear hb h
  have Hx := Lib.hid hx; clear hx
  have hD : ∀ j, dstB xs t j = max (xs j - t) (-(xs j - t)) := fun j => by unfold dstB; omega
  unfold nrV
  generalize dstB xs t = D at *
  have HD := Lib.hid hD; clear hD
  go_enter Tryz.func20, Tryz.ntmps20
  go_wp2_with fail
  refine (Hb.out _ hr).mono ?_; rintro e w1 ⟨rfl, rfl⟩
  go_wp2_with fail
  go_loopw [7, 8] (fun f i wr => ∃ k : Nat, 1 ≤ k ∧ k ≤ n ∧ i = .int .i64 k ∧ f = .int .i64 (nearK D k : Nat) ∧ ∃ m, wr = w.drewN m) (fun _ i _ => n - (intOf i).toNat)
  case atStart => exact ⟨1, by omega, by omega, rfl, by rw [nearK_one]; rfl, 0, rfl⟩
  case round =>
    obtain ⟨k, hk1, hk, rfl, rfl, m, rfl⟩ := hrel
    have hlt := nearK_lt D k (by omega)
    have hnew := nearK_new (g := D) (k := k)
    have hold := nearK_old (g := D) (k := k)
    by_cases hkn : k < n
    · generalize hF : nearK D k = F at *
      clear hF
      have c0 := hr.cell hkn
      have c1 := hr.cell (k := F) (by omega)
      have b0 := Hx.out k hkn
      have b1 := Hx.out F (by omega)
      have d0 := HD.out k
      have d1 := HD.out F
      have w3 : (F : Int) < n := by omega
      have s0 := fun W => sizeI_any (xs k - t) (by omega) (by omega) W
      have s1 := fun W => sizeI_any (xs F - t) (by omega) (by omega) W
      rw [← d0] at s0
      rw [← d1] at s1
      clear d0 d1
      have S0 := Lib.hid s0; clear s0
      have S1 := Lib.hid s1; clear s1
      by_cases hlt2 : D k < D F
      · have hN := hnew hlt2
        have HN := Lib.hid hN; clear hN hnew hold
        generalize D k = X at *
        generalize D F = Y at *
        generalize xs k = U at *
        generalize xs F = V at *
        go_wp2_with fail
        go_quiet (first | (go_at_call 49; exact quiet_leftB (S0.out _)) | (go_at_call 49; exact quiet_leftB (S1.out _)))
        go_wp2
        go_roundw
        case rel => exact ⟨k + 1, by omega, by omega, by go_num, by rw [HN.out], _, rfl⟩
        case measure => simp [intOf]; omega
      · have hN := hold hlt2
        have HN := Lib.hid hN; clear hN hnew hold
        generalize D k = X at *
        generalize D F = Y at *
        generalize xs k = U at *
        generalize xs F = V at *
        have hd : decide (X < Y) = false := decide_eq_false hlt2
        go_wp2_with fail
        go_quiet (first | (go_at_call 49; exact quiet_leftB (S0.out _)) | (go_at_call 49; exact quiet_leftB (S1.out _)))
        go_wp2
        go_roundw
        case rel => exact ⟨k + 1, by omega, by omega, by go_num, by rw [HN.out], _, rfl⟩
        case measure => simp [intOf]; omega
    · obtain rfl : k = n := by omega
      clear hnew hold
      generalize hF : nearK D k = F at *
      have HF := Lib.hid hF; clear hF
      have c1 := hr.cell (k := F) (by omega)
      have b1 := Hx.out F (by omega)
      have w3 : (F : Int) < k := by omega
      generalize hV : xs F = V at *
      have HV := Lib.hid hV; clear hV
      go_wp2_with fail
      go_quiet (fail)
      go_wp2
      go_ret3
      rw [HF.out, HV.out]
      exact ⟨rfl, by (repeat (first | exact Below.refl _ _ | assumption | apply Below.drew | apply below_drewL | apply below_drewP | (refine Below.alloc ?_ (by first | omega | (simp; done) | (simp; omega)) _) | (refine Below.setCell ?_ (by first | omega | (simp; done) | (simp; omega)) _)))⟩
end Go.Proofs.YtnlcjbobfhmnmabGreatDoor

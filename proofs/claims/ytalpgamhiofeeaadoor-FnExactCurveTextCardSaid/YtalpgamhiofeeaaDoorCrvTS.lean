/-
  The text of a curve, by the reference, for every list of at most 1048576 points. No other condition.
-/
import Derived.Test.YtalpgamhiofeeaaDoorPlainCT
import Derived.Test.YtalpgamhiofeeaaDoorValidC
import Derived.Test.YtalpgamhiofeeaaDoorQuietD
namespace Go.Proofs.YtalpgamhiofeeaaDoor
open Go.RowKit

theorem decC_any (n : Int) (h0 : 0 ≤ n) (h1 : n < 9223372036854775808) (w : World) :
    Calls Tryd.prog 18 #[.int .i64 n] w fun e w' => e = .returned (strV (decI n)) ∧ Below w.heap.size w w' := by
  obtain ⟨m, rfl⟩ := Int.eq_ofNat_of_zero_le h0
  exact decimal_any m (by omega) w
set_option maxHeartbeats 1000000 in
theorem l02Signed_any (x : Int) (h0 : -1000000 ≤ x) (h1 : x ≤ 1000000) (w : World) :
    Calls Tryd.prog 17 #[.int .i64 x] w fun e w' => e = .returned (strV (sgT x)) ∧ Below w.heap.size w w' := by
  by_cases h : x < 0
  · rw [sgT_neg h]
    have hk := fun W => decC_any (-x) (by omega) (by omega) W
    have l : (decI (-x)).length ≤ 19 := decN_le _ (by omega)
    generalize decI (-x) = u at *
    have Hk := Lib.hid hk; clear hk
    have ad := fun W => run_string_add_lists (P := Tryd.prog) W [45] u (by simp) (by omega)
    have e1 : IntKind.i64.wrap (-x) = -x := IntWalk.i64_in _ (by omega)
    have hd : decide (x < 0) = true := decide_eq_true h
    go_enter Tryd.func17, Tryd.ntmps17
    go_wp2_with fail
    refine (Hk.out _).mono ?_; rintro e w1 ⟨rfl, hb1⟩
    go_wp2_with fail
    go_ret
    exact ⟨rfl, hb1⟩
  · rw [sgT_pos (by omega)]
    have hk := fun W => decC_any x (by omega) (by omega) W
    generalize decI x = u at *
    have Hk := Lib.hid hk; clear hk
    have hd : decide (x < 0) = false := decide_eq_false h
    go_enter Tryd.func17, Tryd.ntmps17
    go_wp2_with fail
    refine (Hk.out _).mono ?_; rintro e w1 ⟨rfl, hb1⟩
    go_wp2_with fail
    go_ret
    exact ⟨rfl, hb1⟩

section
variable (b n cap : Nat) (xs ys : Nat → Int)
set_option maxRecDepth 100000 in
set_option maxHeartbeats 4000000 in
theorem l02Text_any (hn : n ≤ 12) (c : Crv n xs ys) (w : World) (hr : PtRow w b n xs ys) :
    Calls Tryd.prog 10 #[.slice (some ⟨b, 0, none⟩) n cap] w fun e w' => e = .returned (strV (ctxT xs ys n)) ∧ Below w.heap.size w w' := by
  have hlt := hr.lt
  have Hc := Lib.hid c; clear c
  go_enter Tryd.func10, Tryd.ntmps10
  go_wp2_with fail
  go_loopw [3, 4] (fun tv iv wr => ∃ k : Nat, k ≤ n ∧ iv = .int .i64 k ∧ tv = strV (ctxT xs ys k) ∧ Below w.heap.size w wr) (fun _ iv _ => n - (intOf iv).toNat)
  case atStart => exact ⟨0, Nat.zero_le _, rfl, rfl, Below.refl _ _⟩
  case round =>
    obtain ⟨k, hk, rfl, rfl, hB⟩ := hrel
    by_cases hkn : k < n
    rotate_left
    · obtain rfl : k = n := by omega
      go_wp2_with fail
      go_ret
      exact ⟨rfl, hB⟩
    have hrk := hr.below hB hlt
    have c0 := hrk.cell0 hkn
    have c1 := hrk.cell1 hkn
    have hsc := Hc.out.scale k hkn
    have lT := ctxT_len Hc.out k (by omega)
    have l1 := sgT_len (x := xs k) (by omega) (by omega)
    have l2 : (decI (ys k)).length ≤ 19 := decN_le _ (by omega)
    have k1 := fun W => l02Signed_any (xs k) (by omega) (by omega) W
    have k2 := fun W => decC_any (ys k) (by omega) (by omega) W
    have hone : k = 0 → ctxT xs ys (k + 1) = ctxT xs ys k ++ (sgT (xs k) ++ 58 :: decI (ys k)) := fun h => by subst h; rfl
    have hnext : 0 < k → ctxT xs ys (k + 1) = ctxT xs ys k ++ 32 :: (sgT (xs k) ++ 58 :: decI (ys k)) := fun h => ctxT_next xs ys h
    generalize ctxT xs ys k = T at *
    generalize sgT (xs k) = u1 at *
    generalize decI (ys k) = u2 at *
    have e1 : IntKind.i64.wrap (xs k) = xs k := IntWalk.i64_in _ (by omega)
    have e2 : IntKind.i64.wrap (ys k) = ys k := IntWalk.i64_in _ (by omega)
    generalize xs k = X at *
    generalize ys k = Y at *
    have K1 := Lib.hid k1; clear k1
    have K2 := Lib.hid k2; clear k2
    have Hone := Lib.hid hone; clear hone
    have Hnext := Lib.hid hnext; clear hnext
    have w3 : (k : Int) < n := by omega
    have a1 := fun W => run_string_add_lists (P := Tryd.prog) W u1 [58] (by omega) (by simp)
    have a2 := fun W => run_string_add_lists (P := Tryd.prog) W (u1 ++ [58]) u2 (by simp; omega) (by omega)
    have hzr := hB.size
    by_cases h0 : k = 0
    · have h1 := Hone.out h0
      have H1 := Lib.hid h1; clear h1
      subst h0
      rw [Nat.zero_mul] at c0 c1
      rw [Nat.zero_add] at c1
      have a3 := fun W => run_string_add_lists (P := Tryd.prog) W T (u1 ++ 58 :: u2) (by omega) (by simp; omega)
      go_wp2_with fail
      refine wp_region_quietD (Below wr.heap.size wr) (by kernel_rfl) (by kernel_rfl) (below_drew1 _) ?_
      have n0 := below_nonempty wr
      have f0 := inCell c0
      have f1 := inCell c1
      quiet_step (fail)
      quiet_step (fail)
      quiet_step (fail)
      quiet_step (fail)
      quiet_step (fail)
      quiet_step (fail)
      quiet_step (fail)
      quiet_step ((go_at_call 17; exact inCall _ (K1.out _)))
      quiet_step (fail)
      quiet_step (fail)
      quiet_step (fail)
      quiet_step (fail)
      quiet_step (fail)
      quiet_step (fail)
      quiet_step (fail)
      quiet_step ((go_at_call 18; exact inCall _ (K2.out _)))
      quiet_step (fail)
      quiet_step (fail)
      quiet_step (fail)
      refine wpQuiet_nil ?_
      rintro _ ⟨x, rfl⟩
      have k5 := hB.trans (x.ok.mono hzr)
      go_wp2
      go_roundw
      case rel => exact ⟨0 + 1, by omega, by go_num, by rw [H1.out], k5⟩
      case measure => simp [intOf]; omega
    · have h1 := Hnext.out (by omega)
      have H1 := Lib.hid h1; clear h1
      have a0 := fun W => run_string_add_lists (P := Tryd.prog) W T [32] (by omega) (by simp)
      have a3 := fun W => run_string_add_lists (P := Tryd.prog) W (T ++ [32]) (u1 ++ 58 :: u2) (by simp; omega) (by simp; omega)
      have hg : decide (0 < (k : Int)) = true := decide_eq_true (by omega)
      have hg1 : 0 < k := by omega
      clear h0
      go_wp2_with fail
      refine wp_region_quietD (Below wr.heap.size wr) (by kernel_rfl) (by kernel_rfl) (below_drew1 _) ?_
      have n0 := below_nonempty wr
      have f0 := inCell c0
      have f1 := inCell c1
      quiet_step (fail)
      quiet_step (fail)
      quiet_step (fail)
      quiet_step (fail)
      quiet_step (fail)
      quiet_step (fail)
      quiet_step (fail)
      quiet_step ((go_at_call 17; exact inCall _ (K1.out _)))
      quiet_step (fail)
      quiet_step (fail)
      quiet_step (fail)
      quiet_step (fail)
      quiet_step (fail)
      quiet_step (fail)
      quiet_step (fail)
      quiet_step ((go_at_call 18; exact inCall _ (K2.out _)))
      quiet_step (fail)
      quiet_step (fail)
      quiet_step (fail)
      refine wpQuiet_nil ?_
      rintro _ ⟨x, rfl⟩
      have k5 := hB.trans (x.ok.mono hzr)
      go_wp2
      go_roundw
      case rel => exact ⟨k + 1, by omega, by go_num, by rw [H1.out], k5⟩
      case measure => simp [intOf]; omega

set_option maxHeartbeats 1000000 in
theorem specCurveText_any (hn : n ≤ 1048576) (hs : SmallP n xs ys) (w : World) (hr : PtRow w b n xs ys) :
    Calls Tryd.prog 5 #[.slice (some ⟨b, 0, none⟩) n cap] w fun e w' => e = .returned (strV (crvT n xs ys)) ∧ Below w.heap.size w w' := by
  have hlt := hr.lt
  have hk := fun W hW => l02Ok_any b n cap xs ys hn hs W hW
  rcases h : validC n xs ys with _ | _
  · rw [crvT_no h]
    rw [h] at hk
    have Hk := Lib.hid hk; clear hk h
    go_enter Tryd.func5, Tryd.ntmps5
    go_wp2_with fail
    refine (Hk.out _ hr).mono ?_; rintro e w1 ⟨rfl, hb1⟩
    go_wp2_with fail
    go_ret
    exact ⟨rfl, hb1⟩
  rw [crvT_yes h]
  rw [h] at hk
  obtain ⟨c, hn12⟩ := validC_crv h
  have ht := fun W hW => l02Text_any b n cap xs ys hn12 c W hW
  generalize ctxT xs ys n = T at *
  have Hk := Lib.hid hk; clear hk h
  have Ht := Lib.hid ht; clear ht
  go_enter Tryd.func5, Tryd.ntmps5
  go_wp2_with fail
  refine (Hk.out _ hr).mono ?_; rintro e w1 ⟨rfl, hb1⟩
  go_wp2_with fail
  refine (Ht.out _ (hr.below hb1 hlt)).mono ?_; rintro e w2 ⟨rfl, hb2⟩
  go_wp2_with fail
  go_ret
  exact ⟨rfl, hb1.trans (hb2.mono hb1.size)⟩
end
end Go.Proofs.YtalpgamhiofeeaaDoor

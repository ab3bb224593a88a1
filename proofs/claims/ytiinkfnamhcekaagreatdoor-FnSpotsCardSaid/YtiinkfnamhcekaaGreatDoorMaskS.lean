/-
  Masks: the reference's function, for every rectangle. No condition.
-/
import Derived.Test.YtiinkfnamhcekaaGreatDoorMasks
namespace Go.Proofs.YtiinkfnamhcekaaGreatDoor
open Go.RowKit

/-- The rows that are done; the row under way. -/
def recB (W N E y j : Nat) : Bool := decide (N ≤ j / 8 ∧ j / 8 < y ∧ W ≤ j % 8 ∧ j % 8 ≤ E)
def rowB (W N E y x j : Nat) : Bool := decide ((N ≤ j / 8 ∧ j / 8 < y ∧ W ≤ j % 8 ∧ j % 8 ≤ E) ∨ (j / 8 = y ∧ W ≤ j % 8 ∧ j % 8 < x))
theorem rowB_0 (W N E y j : Nat) : rowB W N E y W j = recB W N E y j := by
  unfold rowB recB
  rw [Bool.eq_iff_iff, decide_eq_true_eq, decide_eq_true_eq]
  omega
theorem rowB_step {W N E y x j : Nat} (hx : x < 8) (hW : W ≤ x) : rowB W N E y (x + 1) j = (rowB W N E y x j || decide (x + 8 * y = j)) := by
  unfold rowB
  rw [Bool.eq_iff_iff, Bool.or_eq_true, decide_eq_true_eq, decide_eq_true_eq, decide_eq_true_eq]
  omega
theorem rowB_end {W N E y j : Nat} (hy : N ≤ y) : rowB W N E y (E + 1) j = recB W N E (y + 1) j := by
  unfold rowB recB
  rw [Bool.eq_iff_iff, decide_eq_true_eq, decide_eq_true_eq]
  omega
theorem recB_0 (W N E j : Nat) : recB W N E N j = false := by
  unfold recB
  rw [decide_eq_false_iff_not]
  omega
theorem recB_end {W N E S j : Nat} (hS : S ≤ 7) : recB W N E (S + 1) j = (decide (j < 64) && rctP W N E S j) := by
  unfold recB rctP
  rw [Bool.eq_iff_iff, Bool.and_eq_true, Bool.and_eq_true, inB_true, inB_true, decide_eq_true_eq, decide_eq_true_eq]
  omega

theorem l03Place_any (x : Int) (w : World) : Calls Tryz.prog 71 #[.int .i64 x] w fun e w' => e = .returned (.bool (inB x 0 7)) ∧ w = w' := by
  go_enter Tryz.func71, Tryz.ntmps71
  go_wp2_with (go_at_call 83; refine (l00In_any _ _ _ _).mono ?_; rintro e w' ⟨rfl, rfl⟩)
  go_ret
  exact ⟨rfl, rfl⟩

theorem l03Bit_any (x y : Int) (k : Nat) (hx : 0 ≤ x) (hx' : x ≤ 7) (hy : 0 ≤ y) (hy' : y ≤ 7) (hk : x + 8 * y = (k : Int)) (w : World) : Calls Tryz.prog 72 #[.int .i64 x, .int .i64 y] w fun e w' => e = .returned (.int .u64 ((2 ^ k : Nat) : Int)) ∧ w = w' := by
  have h64 : k < 64 := by omega
  go_enter Tryz.func72, Tryz.ntmps72
  go_wp2_with (refine wpList_shl1 (κ := .u64) (k := k) _ _ rfl rfl rfl rfl h64 ?_)
  go_ret
  exact ⟨rfl, rfl⟩

set_option maxRecDepth 100000 in
set_option maxHeartbeats 4000000 in
theorem specMaskOf_yes (W N E S : Nat) (hW : W ≤ 7) (hN : N ≤ 7) (hE : E ≤ 7) (hS : S ≤ 7) (hWE : W ≤ E) (hNS : N ≤ S) (w : World) :
    Calls Tryz.prog 55 #[.int .i64 W, .int .i64 N, .int .i64 E, .int .i64 S] w fun e w' => e = .returned (.tuple #[.int .u64 ((maskN (rctP W N E S) 64 : Nat) : Int), .int .i64 0]) ∧ w = w' := by
  have pl : ∀ (x : Nat) (V : World), x ≤ 7 → Calls Tryz.prog 71 #[.int .i64 (x : Int)] V fun e w' => e = .returned (.bool true) ∧ V = w' := fun x V h => by
    have h1 := l03Place_any (x : Int) V
    rwa [inB_true.2 ⟨by omega, by omega⟩] at h1
  have Pl := Lib.hid pl; clear pl
  have hbt := fun (x y : Nat) (V : World) (h1 : x ≤ 7) (h2 : y ≤ 7) => l03Bit_any (x : Int) (y : Int) (x + 8 * y) (by omega) (by omega) (by omega) (by omega) (by omega) V
  have Hbt := Lib.hid hbt; clear hbt
  have w1 : (W : Int) ≤ E := by omega
  have w2 : (N : Int) ≤ S := by omega
  have hfin : ∀ M : Nat, (∀ j, M.testBit j = recB W N E (S + 1) j) → M = maskN (rctP W N E S) 64 := fun M h => maskN_of_bits fun j => (h j).trans (recB_end hS)
  have Hfin := Lib.hid hfin; clear hfin
  generalize maskN (rctP W N E S) 64 = MM at *
  go_enter Tryz.func55, Tryz.ntmps55
  go_wp2_with (go_at_call 71; refine (Pl.out _ _ (by assumption)).mono ?_; rintro e w' ⟨rfl, rfl⟩)
  go_loop [10, 11] (fun m y => ∃ M Y : Nat, N ≤ Y ∧ Y ≤ S + 1 ∧ m = .int .u64 (M : Int) ∧ y = .int .i64 (Y : Int) ∧ M < 18446744073709551616 ∧ ∀ j, M.testBit j = recB W N E Y j) (fun _ y => S + 1 - (intOf y).toNat)
  case atStart => exact ⟨0, N, by omega, by omega, rfl, rfl, by decide, fun j => by rw [recB_0]; simp⟩
  case round =>
    obtain ⟨M, Y, hNY, hYS, rfl, rfl, hM, hj⟩ := hrel
    have HM := Lib.hid hM; clear hM
    have HJ := Lib.hid hj; clear hj
    by_cases hlt : Y ≤ S
    · have hY7 : Y ≤ 7 := by omega
      have w3 : (Y : Int) ≤ S := by omega
      go_wp2_with fail
      go_loop [10, 12] (fun m x => ∃ M X : Nat, W ≤ X ∧ X ≤ E + 1 ∧ m = .int .u64 (M : Int) ∧ x = .int .i64 (X : Int) ∧ M < 18446744073709551616 ∧ ∀ j, M.testBit j = rowB W N E Y X j) (fun _ x => E + 1 - (intOf x).toNat)
      case atStart => exact ⟨M, W, by omega, by omega, rfl, rfl, HM.out, fun j => by rw [rowB_0]; exact HJ.out j⟩
      case round =>
        clear HM HJ
        obtain ⟨M, X, hWX, hXE, rfl, rfl, hM, hj⟩ := hrel
        have HM := Lib.hid hM; clear hM
        have HJ := Lib.hid hj; clear hj
        by_cases hlx : X ≤ E
        · have hX7 : X ≤ 7 := by omega
          have w4 : (X : Int) ≤ E := by omega
          have h2 := Lib.hid (two_pow_lt64 (k := X + 8 * Y) (by omega))
          go_wp2_with (first | (go_at_call 72; refine (Hbt.out _ _ _ hX7 hY7).mono ?_; rintro e w' ⟨rfl, rfl⟩) | (refine wpList_or _ _ rfl rfl rfl rfl HM.out h2.out ?_))
          go_round
          case rel => exact ⟨M ||| 2 ^ (X + 8 * Y), X + 1, by omega, by omega, rfl, by go_num, Nat.or_lt_two_pow (n := 64) HM.out h2.out, fun j => by
            rw [Nat.testBit_or, HJ.out j, Nat.testBit_two_pow, rowB_step (by omega) hWX]⟩
          case measure => simp [intOf]; omega
        · have w4 : ¬ (X : Int) ≤ E := by omega
          obtain rfl : X = E + 1 := by omega
          go_wp2_with fail
          go_round
          case rel => exact ⟨M, Y + 1, by omega, by omega, rfl, by go_num, HM.out, fun j => by rw [HJ.out j, rowB_end hNY]⟩
          case measure => simp [intOf]; omega
    · have w3 : ¬ (Y : Int) ≤ S := by omega
      obtain rfl : Y = S + 1 := by omega
      obtain rfl := Hfin.out M HJ.out
      go_wp2_with fail
      go_ret2
      exact ⟨rfl, rfl⟩

set_option maxRecDepth 100000 in
set_option maxHeartbeats 4000000 in
theorem specMaskOf_no (W N E S : Int) (h : ¬ rctB W N E S = true) (w : World) :
    Calls Tryz.prog 55 #[.int .i64 W, .int .i64 N, .int .i64 E, .int .i64 S] w fun e w' => e = .returned (.tuple #[.int .u64 0, .int .i64 2]) ∧ w = w' := by
  rw [rctB_iff] at h
  have hW := fun V => l03Place_any W V
  have hN := fun V => l03Place_any N V
  have hE := fun V => l03Place_any E V
  have hS := fun V => l03Place_any S V
  by_cases g0 : inB W 0 7 = true
  rotate_left
  · have gz : inB W 0 7 = false := by simpa using g0
    rw [gz] at hW
    have HW := Lib.hid hW; clear hW
    clear h gz g0 hN hE hS
    go_enter Tryz.func55, Tryz.ntmps55
    go_wp2_with fail
    refine (HW.out _).mono ?_; rintro e w1 ⟨rfl, rfl⟩
    go_wp2_with fail
    go_ret2
    exact ⟨rfl, rfl⟩
  by_cases g1 : inB N 0 7 = true
  rotate_left
  · have gz : inB N 0 7 = false := by simpa using g1
    rw [g0] at hW
    rw [gz] at hN
    have HW := Lib.hid hW; clear hW
    have HN := Lib.hid hN; clear hN
    clear h gz g0 g1 hE hS
    go_enter Tryz.func55, Tryz.ntmps55
    go_wp2_with fail
    refine (HW.out _).mono ?_; rintro e w1 ⟨rfl, rfl⟩
    go_wp2_with fail
    refine (HN.out _).mono ?_; rintro e w1 ⟨rfl, rfl⟩
    go_wp2_with fail
    go_ret2
    exact ⟨rfl, rfl⟩
  by_cases g2 : inB E 0 7 = true
  rotate_left
  · have gz : inB E 0 7 = false := by simpa using g2
    rw [g0] at hW
    rw [g1] at hN
    rw [gz] at hE
    have HW := Lib.hid hW; clear hW
    have HN := Lib.hid hN; clear hN
    have HE := Lib.hid hE; clear hE
    clear h gz g0 g1 g2 hS
    go_enter Tryz.func55, Tryz.ntmps55
    go_wp2_with fail
    refine (HW.out _).mono ?_; rintro e w1 ⟨rfl, rfl⟩
    go_wp2_with fail
    refine (HN.out _).mono ?_; rintro e w1 ⟨rfl, rfl⟩
    go_wp2_with fail
    refine (HE.out _).mono ?_; rintro e w1 ⟨rfl, rfl⟩
    go_wp2_with fail
    go_ret2
    exact ⟨rfl, rfl⟩
  by_cases g3 : inB S 0 7 = true
  rotate_left
  · have gz : inB S 0 7 = false := by simpa using g3
    rw [g0] at hW
    rw [g1] at hN
    rw [g2] at hE
    rw [gz] at hS
    have HW := Lib.hid hW; clear hW
    have HN := Lib.hid hN; clear hN
    have HE := Lib.hid hE; clear hE
    have HS := Lib.hid hS; clear hS
    clear h gz g0 g1 g2 g3 
    go_enter Tryz.func55, Tryz.ntmps55
    go_wp2_with fail
    refine (HW.out _).mono ?_; rintro e w1 ⟨rfl, rfl⟩
    go_wp2_with fail
    refine (HN.out _).mono ?_; rintro e w1 ⟨rfl, rfl⟩
    go_wp2_with fail
    refine (HE.out _).mono ?_; rintro e w1 ⟨rfl, rfl⟩
    go_wp2_with fail
    refine (HS.out _).mono ?_; rintro e w1 ⟨rfl, rfl⟩
    go_wp2_with fail
    go_ret2
    exact ⟨rfl, rfl⟩
  by_cases b1 : W ≤ E
  rotate_left
  · rw [g0] at hW
    rw [g1] at hN
    rw [g2] at hE
    rw [g3] at hS
    have HW := Lib.hid hW; clear hW
    have HN := Lib.hid hN; clear hN
    have HE := Lib.hid hE; clear hE
    have HS := Lib.hid hS; clear hS
    have hgt : E < W := by omega
    clear h g0 g1 g2 g3 b1
    go_enter Tryz.func55, Tryz.ntmps55
    go_wp2_with fail
    refine (HW.out _).mono ?_; rintro e w1 ⟨rfl, rfl⟩
    go_wp2_with fail
    refine (HN.out _).mono ?_; rintro e w1 ⟨rfl, rfl⟩
    go_wp2_with fail
    refine (HE.out _).mono ?_; rintro e w1 ⟨rfl, rfl⟩
    go_wp2_with fail
    refine (HS.out _).mono ?_; rintro e w1 ⟨rfl, rfl⟩
    go_wp2_with fail
    go_ret2
    exact ⟨rfl, rfl⟩
  by_cases b2 : N ≤ S
  rotate_left
  · rw [g0] at hW
    rw [g1] at hN
    rw [g2] at hE
    rw [g3] at hS
    have HW := Lib.hid hW; clear hW
    have HN := Lib.hid hN; clear hN
    have HE := Lib.hid hE; clear hE
    have HS := Lib.hid hS; clear hS
    have hgt : S < N := by omega
    clear h g0 g1 g2 g3 b2
    go_enter Tryz.func55, Tryz.ntmps55
    go_wp2_with fail
    refine (HW.out _).mono ?_; rintro e w1 ⟨rfl, rfl⟩
    go_wp2_with fail
    refine (HN.out _).mono ?_; rintro e w1 ⟨rfl, rfl⟩
    go_wp2_with fail
    refine (HE.out _).mono ?_; rintro e w1 ⟨rfl, rfl⟩
    go_wp2_with fail
    refine (HS.out _).mono ?_; rintro e w1 ⟨rfl, rfl⟩
    go_wp2_with fail
    go_ret2
    exact ⟨rfl, rfl⟩
  · exact absurd ⟨g0, g1, g2, g3, b1, b2⟩ h

theorem specMaskOf_any (W N E S : Int) (w : World) :
    Calls Tryz.prog 55 #[.int .i64 W, .int .i64 N, .int .i64 E, .int .i64 S] w fun e w' => e = .returned (.tuple #[.int .u64 (rctV W N E S), .int .i64 (rctC W N E S)]) ∧ w = w' := by
  by_cases h : rctB W N E S = true
  · obtain ⟨g0, g1, g2, g3, b1, b2⟩ := rctB_iff.1 h
    have c0 := inB_true.1 g0
    have c1 := inB_true.1 g1
    have c2 := inB_true.1 g2
    have c3 := inB_true.1 g3
    have hy := specMaskOf_yes W.toNat N.toNat E.toNat S.toNat (by omega) (by omega) (by omega) (by omega) (by omega) (by omega) w
    rw [show ((W.toNat : Nat) : Int) = W by omega, show ((N.toNat : Nat) : Int) = N by omega, show ((E.toNat : Nat) : Int) = E by omega, show ((S.toNat : Nat) : Int) = S by omega] at hy
    rw [rctV, rctC, if_pos h, if_pos h]
    exact hy
  · rw [rctV, rctC, if_neg h, if_neg h]
    exact specMaskOf_no W N E S h w
end Go.Proofs.YtiinkfnamhcekaaGreatDoor

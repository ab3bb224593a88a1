/-
  The walk of the law FnExactDarkestFrame: it returns true for every argument. Condition: the listed variables hold what the row lists.
-/
import Derived.Test.YtgnnngaihaefmaaDoorOpenPr
import Derived.Test.YtgnnngaihaefmaaDoorDrkI
import Derived.Test.YtgnnngaihaefmaaDoorEachE
import Derived.Test.YtgnnngaihaefmaaDoorEnv
namespace Go.Proofs.YtgnnngaihaefmaaDoor
open Go.RowKit

set_option maxRecDepth 100000 in
set_option maxHeartbeats 4000000 in
theorem walk_FnExactDarkestFrame (X : Int) (A : Option Addr) (n cap : Nat) (g : Nat → Nat → Int) (w : World) (hL : laidMetH Tryd.prog Rows.fnExactDarkestFrameRow.laid w) (hX : -128 ≤ X ∧ X ≤ 127) (hr : PrsIn w A n g) (hm : n ≤ maxLen) (hs : ∀ i, i < n → S16 (g i)) :
    Calls Tryd.prog 4 #[.agg #[.int .i8 X, .slice A n cap]] w fun e w' => e = .returned (.bool true) ∧ Below w.heap.size w w' := by
  obtain ⟨s, hE⟩ := errEnv_of_row hL (by kernel_rfl) (by kernel_rfl)
  have hDb := Lib.hid (dbEnv_of_row hL (by kernel_rfl) (by kernel_rfl))
  clear hL
  unfold maxLen at hm
  have k0 := (Below.refl w.heap.size w).alloc (Nat.le_refl _) (.cells #[.int .i8 X, .slice A n cap] 34)
  by_cases hn : n ≤ 1048576
  rotate_left
  · clear hr
    have hz := fun W => szSheet_any X A n cap 1048576 (by omega) (by omega) hm W
    rw [if_neg (by omega)] at hz
    have Hz := Lib.hid hz; clear hz
    go_enter Tryd.func4, Tryd.ntmps4
    go_wp2_with fail
    refine (Hz.out _).mono ?_; rintro e w1 ⟨rfl, hb1⟩
    have k1 := k0.trans (hb1.mono k0.size)
    go_wp2
    go_ret
    exact ⟨rfl, k1⟩
  have hz := fun W => szSheet_any X A n cap 1048576 (by omega) (by omega) hm W
  rw [if_pos (by omega)] at hz
  have Hz := Lib.hid hz; clear hz
  have hto := fun W h => toSheet_any X A n cap g hn W h
  have hsp := fun b W h => specDarkestFrame_any X (some ⟨b, 0, none⟩) n n g hn hX hs W h
  have him := fun b W h hEW hDW => DarkestFrame_any s X (some ⟨b, 0, none⟩) n n g hn hX hs W h hEW hDW
  have heq := fun b b' W h h' => eqSheet_same X (some ⟨b, 0, none⟩) (some ⟨b', 0, none⟩) n n n g hn W h h'
  obtain ⟨R1, R2, R3, hT⟩ : ∃ R1 R2 R3 : Int, darT X n g = #[.int .i64 R1, .int .i64 R2, .int .i64 R3] := by
    unfold darT
    repeat' split
    all_goals exact ⟨_, _, _, rfl⟩
  simp only [hT] at hsp him
  clear hT
  have Hto := Lib.hid hto; clear hto
  have Hsp := Lib.hid hsp; clear hsp
  have Him := Lib.hid him; clear him
  have Heq := Lib.hid heq; clear heq
  clear hs hX
  have Hr := Lib.hid hr; clear hr
  have HE := Lib.hid hE; clear hE
  have c00 : (w.alloc (.cells #[.int .i8 X, .slice A n cap] 34)).cell? ⟨w.heap.size, 0, none⟩ = some (.int .i8 X) := by simp
  have c01 : (w.alloc (.cells #[.int .i8 X, .slice A n cap] 34)).cell? ⟨w.heap.size, 1, none⟩ = some (.slice A n cap) := by simp
  go_enter Tryd.func4, Tryd.ntmps4
  go_wp2_with fail
  refine (Hz.out _).mono ?_; rintro e w1 ⟨rfl, hb1⟩
  have k1 := k0.trans (hb1.mono k0.size)
  have c10 := below_cellOf hb1 c00 (Nat.le_refl _)
  have c11 := below_cellOf hb1 c01 (Nat.le_refl _)
  clear hb1 c00 c01 k0
  go_wp2_with fail
  refine (Hto.out _ (Hr.out.below k1 (Nat.le_refl _))).mono ?_; rintro e w2 ⟨b2, rfl, q2, r2, hb2⟩
  have k2 := k1.trans (hb2.mono k1.size)
  have c20 := below_cellOf hb2 c10 (Nat.le_refl _)
  have c21 := below_cellOf hb2 c11 (Nat.le_refl _)
  clear hb2 c10 c11 k1
  go_wp2_with fail
  refine (Hsp.out _ _ r2.prs).mono ?_; rintro e w3 ⟨rfl, hb3⟩
  have k3 := k2.trans (hb3.mono k2.size)
  have c30 := below_cellOf hb3 c20 (Nat.le_refl _)
  have c31 := below_cellOf hb3 c21 (Nat.le_refl _)
  clear hb3 c20 c21 k2 r2 q2
  go_wp2_with fail
  refine (Hto.out _ (Hr.out.below k3 (Nat.le_refl _))).mono ?_; rintro e w4 ⟨b4, rfl, q4, r4, hb4⟩
  have k4 := k3.trans (hb4.mono k3.size)
  have c40 := below_cellOf hb4 c30 (Nat.le_refl _)
  have c41 := below_cellOf hb4 c31 (Nat.le_refl _)
  clear hb4 c30 c31 k3
  have d40 : (w4.alloc (.cells #[.int .i8 X, .slice (some ⟨b4, 0, none⟩) n n] 40)).cell? ⟨w4.heap.size, 0, none⟩ = some (.int .i8 X) := by simp
  have d41 : (w4.alloc (.cells #[.int .i8 X, .slice (some ⟨b4, 0, none⟩) n n] 40)).cell? ⟨w4.heap.size, 1, none⟩ = some (.slice (some ⟨b4, 0, none⟩) n n) := by simp
  have k5 := k4.alloc k4.size (.cells #[.int .i8 X, .slice (some ⟨b4, 0, none⟩) n n] 40)
  have s4 := r4.below ((Below.refl w4.heap.size w4).alloc (Nat.le_refl _) (.cells #[.int .i8 X, .slice (some ⟨b4, 0, none⟩) n n] 40)) r4.lt
  clear r4 q4 k4
  go_wp2_with fail
  refine (Him.out _ _ s4.prs (HE.out.below k5 (Nat.le_refl _)) (hDb.out.below k5)).mono ?_; rintro e w6 ⟨rfl, hb6⟩
  have k6 := k5.trans (hb6.mono k5.size)
  have c60 := below_cellOf hb6 (below_cellOf ((Below.refl w4.heap.size w4).alloc (Nat.le_refl _) (.cells #[.int .i8 X, .slice (some ⟨b4, 0, none⟩) n n] 40)) c40 (Nat.le_refl _)) (Nat.le_refl _)
  have c61 := below_cellOf hb6 (below_cellOf ((Below.refl w4.heap.size w4).alloc (Nat.le_refl _) (.cells #[.int .i8 X, .slice (some ⟨b4, 0, none⟩) n n] 40)) c41 (Nat.le_refl _)) (Nat.le_refl _)
  have d60 := below_cellOf hb6 d40 (Nat.le_refl _)
  have d61 := below_cellOf hb6 d41 (Nat.le_refl _)
  have s6 := Lib.hid (s4.below hb6 s4.lt)
  have K6 := Lib.hid k6
  clear hb6 c40 c41 d40 d41 k5 k6 s4
  go_wp2_with fail
  go_region_with (first | (go_at_call 12; refine (Hto.out _ (Hr.out.below K6.out.drew (Nat.le_refl _))).mono ?_; rintro e w7 ⟨b7, rfl, q7, r7, hb7⟩; have e0 := below_cellOf hb7 (show w6.drew.cell? _ = _ from d60) (Nat.le_refl _); have e1 := below_cellOf hb7 (show w6.drew.cell? _ = _ from d61) (Nat.le_refl _)) | (go_at_call 14; refine (Heq.out _ _ _ (s6.out.prs.below ((below_drew1 w6).trans hb7) (Nat.le_refl _)) r7.prs).mono ?_; rintro e w8 ⟨rfl, hb8⟩))
  all_goals
    go_wp2
    go_ret
    exact ⟨rfl, (K6.out.trans (Below.mono ((below_drew1 w6).trans hb7) K6.out.size)).trans (hb8.mono (Nat.le_trans K6.out.size ((below_drew1 w6).trans hb7).size))⟩
end Go.Proofs.YtgnnngaihaefmaaDoor

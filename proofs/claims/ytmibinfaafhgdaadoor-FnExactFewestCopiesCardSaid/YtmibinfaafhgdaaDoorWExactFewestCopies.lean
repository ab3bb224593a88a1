/-
  The walk of the law FnExactFewestCopies: it returns true for every argument. Condition: the listed variables hold what the row lists.
-/
import Derived.Test.YtmibinfaafhgdaaDoorOpenA
import Derived.Test.YtmibinfaafhgdaaDoorOpenPr
import Derived.Test.YtmibinfaafhgdaaDoorFewV
import Derived.Test.YtmibinfaafhgdaaDoorFewS
import Derived.Test.YtmibinfaafhgdaaDoorEqNeg
import Derived.Test.YtmibinfaafhgdaaDoorMkPr
import Derived.Test.YtmibinfaafhgdaaDoorEnv
namespace Go.Proofs.YtmibinfaafhgdaaDoor
open Go.RowKit

theorem fewL_len {n : Nat} {g : Nat → Nat → Int} {x : Int} (hn : n ≤ 1048576) : (fewL n g x).length ≤ 1048576 := by
  unfold fewL
  split
  · cases h : fewB n (okB (cB g n x) n) (2 ^ n - 1) with
    | none => simp
    | some b => have := fewB_len h; simp; omega
  · simp

set_option maxRecDepth 100000 in
set_option maxHeartbeats 8000000 in
theorem walk_FnExactFewestCopies (A : Option Addr) (n cap : Nat) (g : Nat → Nat → Int) (x1 : Int) (_bl1 : -9223372036854775808 ≤ x1) (_bh1 : x1 ≤ 9223372036854775807) (w : World) (hL : laidMetH Tryd.prog Rows.fnExactFewestCopiesRow.laid w) (hr : PrsIn w A n g) (hm : n ≤ maxLen) (hs : ∀ i, i < n → S16 (g i)) :
    Calls Tryd.prog 3 #[.slice A n cap, .int .i64 x1] w fun e w' => e = .returned (.bool true) ∧ Below w.heap.size w w' := by
  clear _bl1 _bh1
  obtain ⟨s, hE⟩ := errEnv_of_row hL (by kernel_rfl) (by kernel_rfl)
  clear hL
  unfold maxLen at hm
  have k0 := Below.refl w.heap.size w
  by_cases hn : n ≤ 1048576
  rotate_left
  · clear hr
    have hz := fun W => szPrintS_any A n cap 1048576 (by omega) (by omega) hm W
    rw [if_neg (by omega)] at hz
    have Hz := Lib.hid hz; clear hz
    go_enter Tryd.func3, Tryd.ntmps3
    go_wp2_with fail
    refine (Hz.out _).mono ?_; rintro e w1 ⟨rfl, rfl⟩
    go_wp2
    go_ret
    exact ⟨rfl, k0⟩
  have hz := fun W => szPrintS_any A n cap 1048576 (by omega) (by omega) hm W
  rw [if_pos (by omega)] at hz
  have Hz := Lib.hid hz; clear hz
  have Hto := Lib.hid (fun W h => toPrintS_any A n cap g hn W h)
  have hsp := fun b W h => specFewestCopies_any (some ⟨b, 0, none⟩) n n g x1 hn hs W h
  have him := fun b W h hEW => FewestCopies_any s (some ⟨b, 0, none⟩) n n g x1 hn hs W h hEW
  have Heq := Lib.hid (fun b b' W h h' => eqPrintS_same (some ⟨b, 0, none⟩) (some ⟨b', 0, none⟩) n n n g hn W h h')
  have HLL := Lib.hid (fewL_len (g := g) (x := x1) hn)
  generalize fewL n g x1 = l at *
  generalize copC n g x1 = C at *
  have Hsp := Lib.hid hsp; clear hsp
  have Him := Lib.hid him; clear him
  have HN := Lib.hid hn
  clear hs
  have Hr := Lib.hid hr; clear hr
  have HE := Lib.hid hE; clear hE
  go_enter Tryd.func3, Tryd.ntmps3
  go_wp2_with fail
  refine (Hz.out _).mono ?_; rintro e w1 ⟨rfl, rfl⟩
  go_wp2_with fail
  refine (Hto.out _ Hr.out).mono ?_; rintro e w3 ⟨rfl, r3, hb3⟩
  have k3 := k0.trans (hb3.mono k0.size)
  clear hb3 k0
  go_wp2_with fail
  refine (Hsp.out _ _ r3.prs).mono ?_; rintro e w4 ⟨v4, rfl, m4, hb4⟩
  obtain ⟨A4, c4, rfl, _⟩ := m4.ints
  have k4 := k3.trans (hb4.mono k3.size)
  have l3 := k3.size
  have M4 := Lib.hid m4
  clear hb4 k3 r3 m4
  go_wp2_with fail
  refine (Hto.out _ (Hr.out.below k4 (Nat.le_refl _))).mono ?_; rintro e w5 ⟨rfl, r5, hb5⟩
  have k5 := k4.trans (hb5.mono k4.size)
  have l4 := k4.size
  have M5 := Lib.hid (M4.out.below hb5 (Nat.le_refl _))
  have l5 := r5.lt
  generalize w4.heap.size = b5 at *
  clear hb5 k4 M4
  go_wp2_with fail
  refine (Him.out _ _ r5.prs (HE.out.below k5 (Nat.le_refl _))).mono ?_; rintro e w6 ⟨v6, rfl, m6, hb6⟩
  obtain ⟨A6, c6, rfl, _⟩ := m6.ints
  have k6 := k5.trans (hb6.mono k5.size)
  have r6 := r5.below hb6 r5.lt
  have M6 := Lib.hid (M5.out.below hb6 (by omega))
  have G6 := Lib.hid m6
  have l6 := hb6.size
  clear hb6 k5 r5 M5 m6
  go_wp2_with fail
  refine (eqInt64S_mine _ _ _ _ _ _ _ (fun j => l.getD j 0) HLL.out _ G6.out M6.out).mono ?_; rintro e w7 ⟨rfl, hb7⟩
  have k7 := k6.trans (hb7.mono k6.size)
  have r7 := r6.below hb7 r6.lt
  have M7 := Lib.hid (M6.out.below hb7 (by omega))
  have G7 := Lib.hid (G6.out.below hb7 (Nat.le_refl _))
  have l7 := hb7.size
  clear hb7 k6 r6 M6 G6
  go_wp2_with fail
  refine (Hto.out _ (Hr.out.below k7 (Nat.le_refl _))).mono ?_; rintro e w9 ⟨rfl, r9, hb9⟩
  have k9 := k7.trans (hb9.mono k7.size)
  have r7' := r7.below hb9 r7.lt
  have M9 := Lib.hid (M7.out.below hb9 (by omega))
  have G9 := Lib.hid (G7.out.below hb9 (by omega))
  have l9 := hb9.size
  generalize w7.heap.size = b8 at *
  clear r7 hb9 k7 M7 G7
  go_wp2_with fail
  refine (Heq.out _ _ _ r7'.prs r9.prs).mono ?_; rintro e w10 ⟨rfl, hb10⟩
  have k10 := k9.trans (hb10.mono k9.size)
  have r10 := r7'.below hb10 r7'.lt
  have M10 := Lib.hid (M9.out.below hb10 (by omega))
  have G10 := Lib.hid (G9.out.below hb10 (by omega))
  have l10 := hb10.size
  clear r7' r9 hb10 k9 M9 G9
  go_wp2_with fail
  refine (markPrintS_mine _ _ n _ _ 1 (by omega) (by omega) HN.out _ (r10.mine n)).mono ?_; rintro e w11 ⟨rfl, _, ho11⟩
  have hb11 := ho11.below (by omega)
  have k11 := k10.trans (hb11.mono (by omega))
  have M11 := Lib.hid (M10.out.only ho11 (by omega))
  have G11 := Lib.hid (G10.out.only ho11 (by omega))
  have l11 := ho11.size
  clear r10 hb11 k10 M10 G10 ho11
  have h64 : ¬ (1 : Int) + 64 * n < 0 := by omega
  generalize (1 : Int) + 64 * n = K at *
  go_wp2_with fail
  refine (eqInt64S_mine _ _ _ _ _ _ _ (fun j => l.getD j 0) HLL.out _ G11.out M11.out).mono ?_; rintro e w12 ⟨rfl, hb12⟩
  have k12 := k11.trans (hb12.mono k11.size)
  have M12 := Lib.hid (M11.out.below hb12 (by omega))
  have G12 := Lib.hid (G11.out.below hb12 (by omega))
  have l12 := hb12.size
  clear hb12 k11 M11 G11
  go_wp2_with fail
  refine (markInt64S_mine _ _ _ _ _ 1 (by omega) (by omega) HLL.out _ G12.out).mono ?_; rintro e w13 ⟨rfl, m13, ho13⟩
  have hb13 := ho13.below (by omega)
  have k13 := k12.trans (hb13.mono (by omega))
  have M13 := Lib.hid (M12.out.only ho13 (by omega))
  have G13 := Lib.hid m13
  have l13 := ho13.size
  clear hb13 k12 M12 G12 ho13 m13
  go_wp2_with fail
  refine (heldInt64S_mine _ _ _ _ 1 (by omega) (by omega) HLL.out _ G13.out).mono ?_; rintro e w14 ⟨rfl, rfl⟩
  have hlen : ¬ (1 : Int) + l.length < 0 := by omega
  go_wp2_with fail
  refine (Hto.out _ (Hr.out.below k13 (Nat.le_refl _))).mono ?_; rintro e w15 ⟨rfl, r15, hb15⟩
  have k15 := k13.trans (hb15.mono k13.size)
  have M15 := Lib.hid (M13.out.below hb15 (by omega))
  have G15 := Lib.hid (G13.out.below hb15 (by omega))
  have l15 := hb15.size
  generalize w13.heap.size = b15 at *
  clear hb15 k13 M13 G13
  go_wp2_with fail
  refine (Him.out _ _ r15.prs (HE.out.below k15 (Nat.le_refl _))).mono ?_; rintro e w16 ⟨v16, rfl, m16, hb16⟩
  obtain ⟨A16, c16, rfl, _⟩ := m16.ints
  have k16 := k15.trans (hb16.mono k15.size)
  have M16 := Lib.hid (M15.out.below hb16 (by omega))
  have G16 := Lib.hid (G15.out.below hb16 (by omega))
  have H16 := Lib.hid m16
  have l16 := hb16.size
  clear hb16 k15 r15 M15 G15 m16
  go_wp2_with fail
  refine (eqInt64S_mine _ _ _ _ _ _ _ (fun j => l.getD j 0) HLL.out _ H16.out M16.out).mono ?_; rintro e w17 ⟨rfl, hb17⟩
  have k17 := k16.trans (hb17.mono k16.size)
  have G17 := Lib.hid (G16.out.below hb17 (by omega))
  clear hb17 k16 G16 M16 H16
  go_wp2_with fail
  refine (heldInt64S_mine _ _ _ _ 1 (by omega) (by omega) HLL.out _ G17.out).mono ?_; rintro e w18 ⟨rfl, rfl⟩
  go_wp2
  go_ret
  exact ⟨rfl, k17⟩
end Go.Proofs.YtmibinfaafhgdaaDoor

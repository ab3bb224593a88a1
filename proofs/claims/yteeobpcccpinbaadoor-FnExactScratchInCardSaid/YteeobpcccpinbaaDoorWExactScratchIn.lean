/-
  The walk of the law FnExactScratchIn: it returns true for every argument. Condition: the listed variables hold what the row lists.
-/
import Derived.Test.YteeobpcccpinbaaDoorOpenA
import Derived.Test.YteeobpcccpinbaaDoorOpenPr
import Derived.Test.YteeobpcccpinbaaDoorScrS
import Derived.Test.YteeobpcccpinbaaDoorEnv
namespace Go.Proofs.YteeobpcccpinbaaDoor
open Go.RowKit

set_option maxRecDepth 100000 in
set_option maxHeartbeats 4000000 in
theorem walk_FnExactScratchIn (f : Nat → Int) (A : Option Addr) (n cap : Nat) (g : Nat → Nat → Int) (x : Int) (_h1 : -9223372036854775808 ≤ x) (_h2 : x ≤ 9223372036854775807) (w : World) (hL : laidMetH Tryd.prog Rows.fnExactScratchInRow.laid w) (hf : Sm16 f) (hr : PrsIn w A n g) (hm : n ≤ maxLen) (hs : ∀ i, i < n → S16 (g i)) :
    Calls Tryd.prog 4 #[.agg (arrV .i16 64 f), .slice A n cap, .int .i64 x] w fun e w' => e = .returned (.bool true) ∧ Below w.heap.size w w' := by
  clear _h1 _h2
  obtain ⟨s, hE⟩ := errEnv_of_row hL (by kernel_rfl) (by kernel_rfl)
  clear hL
  unfold maxLen at hm
  have a0 := HasArr.new w 25 .i16 64 f
  have k0 := (Below.refl w.heap.size w).alloc (Nat.le_refl _) (.cells (arrV .i16 64 f) 25)
  by_cases hn : n ≤ 1048576
  rotate_left
  · clear hr
    have hz := fun W => szPrintS_any A n cap 1048576 (by omega) (by omega) hm W
    rw [if_neg (by omega)] at hz
    have Hz := Lib.hid hz; clear hz a0
    go_enter Tryd.func4, Tryd.ntmps4
    go_wp2_with fail
    refine (Hz.out _).mono ?_; rintro e w1 ⟨rfl, rfl⟩
    go_wp2
    go_ret
    exact ⟨rfl, k0⟩
  have hz := fun W => szPrintS_any A n cap 1048576 (by omega) (by omega) hm W
  rw [if_pos (by omega)] at hz
  have Hz := Lib.hid hz; clear hz
  have hto := fun W h => toPrintS_any A n cap g hn W h
  have hsp := fun b W h => specScratchIn_any f (some ⟨b, 0, none⟩) n n g x hn hf hs W h
  have him := fun b W h hEW => ScratchIn_any s f (some ⟨b, 0, none⟩) n n g x hn hf hs W h hEW
  have heq := fun b b' W h h' => eqPrintS_same (some ⟨b, 0, none⟩) (some ⟨b', 0, none⟩) n n n g hn W h h'
  obtain ⟨R1, _, R2, _, _, hT⟩ := scr_code s f n g x
  simp only [hT] at hsp him
  clear hT
  have Hto := Lib.hid hto; clear hto
  have Hsp := Lib.hid hsp; clear hsp
  have Him := Lib.hid him; clear him
  have Heq := Lib.hid heq; clear heq
  clear hs hf
  have Hr := Lib.hid hr; clear hr
  have HE := Lib.hid hE; clear hE
  go_enter Tryd.func4, Tryd.ntmps4
  go_wp2_with fail
  refine (Hz.out _).mono ?_; rintro e w1 ⟨rfl, rfl⟩
  go_wp2_with (refine wpList_load_arr a0 _ _ rfl rfl rfl Tryd.underlying25 sizeA64 ?_)
  refine (toPrint_16 _ _).mono ?_; rintro e w2 ⟨rfl, hb2⟩
  have k2 := k0.trans (hb2.mono k0.size)
  have a2 := a0.below hb2 a0.lt
  clear a0 hb2 k0
  go_wp2_with fail
  refine (Hto.out _ (Hr.out.below k2 (Nat.le_refl _))).mono ?_; rintro e w3 ⟨rfl, r3, hb3⟩
  have k3 := k2.trans (hb3.mono k2.size)
  have a3 := a2.below hb3 a2.lt
  generalize w2.heap.size = b3 at *
  clear a2 hb3 k2
  go_wp2_with fail
  refine (Hsp.out _ _ r3.prs).mono ?_; rintro e w4 ⟨rfl, hb4⟩
  have k4 := k3.trans (hb4.mono k3.size)
  have a4 := a3.below hb4 a3.lt
  clear a3 hb4 k3 r3
  go_wp2_with fail
  refine (Hto.out _ (Hr.out.below k4 (Nat.le_refl _))).mono ?_; rintro e w5 ⟨rfl, r5, hb5⟩
  have k5 := k4.trans (hb5.mono k4.size)
  have a5 := a4.below hb5 a4.lt
  generalize w4.heap.size = b5 at *
  clear a4 hb5 k4
  go_wp2_with (refine wpList_load_arr a5 _ _ rfl rfl rfl Tryd.underlying25 sizeA64 ?_)
  refine (toPrint_16 _ _).mono ?_; rintro e w6 ⟨rfl, hb6⟩
  have k6 := k5.trans (hb6.mono k5.size)
  have r6 := r5.below hb6 r5.lt
  clear a5 hb6 k5 r5
  go_wp2_with fail
  refine (Him.out _ _ r6.prs (HE.out.below k6 (Nat.le_refl _))).mono ?_; rintro e w7 ⟨rfl, hb7⟩
  have k7 := k6.trans (hb7.mono k6.size)
  have r7 := r6.below hb7 r6.lt
  clear r6 hb7 k6
  go_wp2_with fail
  refine (Hto.out _ (Hr.out.below k7 (Nat.le_refl _))).mono ?_; rintro e w8 ⟨rfl, r8, hb8⟩
  have k8 := k7.trans (hb8.mono k7.size)
  have r7' := r7.below hb8 r7.lt
  generalize w7.heap.size = b8 at *
  clear r7 hb8 k7
  go_wp2_with fail
  refine (Heq.out _ _ _ r7'.prs r8.prs).mono ?_; rintro e w9 ⟨rfl, hb9⟩
  go_wp2
  go_ret
  exact ⟨rfl, k8.trans (hb9.mono k8.size)⟩
end Go.Proofs.YteeobpcccpinbaaDoor

/-
  The walk of the law FnExactBestOfCopies: it returns true for every argument. Condition: the listed variables hold what the row lists.
-/
import Derived.Test.YtnohpkhaimmdmaaDoorOpenA
import Derived.Test.YtnohpkhaimmdmaaDoorOpenPr
import Derived.Test.YtnohpkhaimmdmaaDoorBstJ
import Derived.Test.YtnohpkhaimmdmaaDoorEqNeg
import Derived.Test.YtnohpkhaimmdmaaDoorEnv
import Derived.Test.YtnohpkhaimmdmaaDoorEachE
namespace Go.Proofs.YtnohpkhaimmdmaaDoor
open Go.RowKit

set_option maxRecDepth 100000 in
set_option maxHeartbeats 4000000 in
theorem walk_FnExactBestOfCopies (A : Option Addr) (n cap : Nat) (g : Nat → Nat → Int) (x : Int) (_bl : -9223372036854775808 ≤ x) (_bh : x ≤ 9223372036854775807) (w : World) (hL : laidMetH Tryd.prog Rows.fnExactBestOfCopiesRow.laid w) (hr : PrsIn w A n g) (hm : n ≤ maxLen) (hs : ∀ i, i < n → S16 (g i)) :
    Calls Tryd.prog 5 #[.slice A n cap, .int .i64 x] w fun e w' => e = .returned (.bool true) ∧ Below w.heap.size w w' := by
  clear _bl _bh
  obtain ⟨s, hE⟩ := errEnv_of_row hL (by kernel_rfl) (by kernel_rfl)
  have hDb := Lib.hid (dbEnv_of_row hL (by kernel_rfl) (by kernel_rfl))
  clear hL
  unfold maxLen at hm
  have k0 := Below.refl w.heap.size w
  by_cases hn : n ≤ 1048576
  rotate_left
  · clear hr
    have hz := fun W => szPrintS_any A n cap 1048576 (by omega) (by omega) hm W
    rw [if_neg (by omega)] at hz
    have Hz := Lib.hid hz; clear hz
    go_enter Tryd.func5, Tryd.ntmps5
    go_wp2_with fail
    refine (Hz.out _).mono ?_; rintro e w1 ⟨rfl, rfl⟩
    go_wp2
    go_ret
    exact ⟨rfl, k0⟩
  have hz := fun W => szPrintS_any A n cap 1048576 (by omega) (by omega) hm W
  rw [if_pos (by omega)] at hz
  have Hz := Lib.hid hz; clear hz
  have hto := fun W h => toPrintS_any A n cap g hn W h
  have hsp := fun b W h => specBestOfCopies_any (some ⟨b, 0, none⟩) n n g x hn hs W h
  have him := fun b W h hEW hDW => BestOfCopies_any s (some ⟨b, 0, none⟩) n n g x hn hs W h hEW hDW
  have heq := fun b b' W h h' => eqPrintS_same (some ⟨b, 0, none⟩) (some ⟨b', 0, none⟩) n n n g hn W h h'
  generalize bcF g n x = V at *
  generalize bcL g n x = LL at *
  generalize copC n g x = C at *
  have hq := fun W => eqPrint_same V W
  have Hto := Lib.hid hto; clear hto
  have Hsp := Lib.hid hsp; clear hsp
  have Him := Lib.hid him; clear him
  have Heq := Lib.hid heq; clear heq
  have Hq := Lib.hid hq; clear hq
  clear hs
  have Hr := Lib.hid hr; clear hr
  have HE := Lib.hid hE; clear hE
  go_enter Tryd.func5, Tryd.ntmps5
  go_wp2_with fail
  refine (Hz.out _).mono ?_; rintro e w1 ⟨rfl, rfl⟩
  go_wp2_with fail
  refine (Hto.out _ Hr.out).mono ?_; rintro e w3 ⟨rfl, r3, hb3⟩
  have k3 := k0.trans (hb3.mono k0.size)
  clear hb3 k0
  go_wp2_with fail
  refine (Hsp.out _ _ r3.prs).mono ?_; rintro e w4 ⟨rfl, hb4⟩
  have k4 := k3.trans (hb4.mono k3.size)
  clear hb4 k3 r3
  have z1 := (HasArr.zero w4 36 (b := w4.heap.size) rfl)
  have z2 := z1.setRow .i16 V
  have yB := below_setRow (k4.alloc k4.size (.cells #[.int .i16 0, .int .i16 0, .int .i16 0, .int .i16 0, .int .i16 0, .int .i16 0, .int .i16 0, .int .i16 0, .int .i16 0, .int .i16 0, .int .i16 0, .int .i16 0, .int .i16 0, .int .i16 0, .int .i16 0, .int .i16 0, .int .i16 0, .int .i16 0, .int .i16 0, .int .i16 0, .int .i16 0, .int .i16 0, .int .i16 0, .int .i16 0, .int .i16 0, .int .i16 0, .int .i16 0, .int .i16 0, .int .i16 0, .int .i16 0, .int .i16 0, .int .i16 0, .int .i16 0, .int .i16 0, .int .i16 0, .int .i16 0, .int .i16 0, .int .i16 0, .int .i16 0, .int .i16 0, .int .i16 0, .int .i16 0, .int .i16 0, .int .i16 0, .int .i16 0, .int .i16 0, .int .i16 0, .int .i16 0, .int .i16 0, .int .i16 0, .int .i16 0, .int .i16 0, .int .i16 0, .int .i16 0, .int .i16 0, .int .i16 0, .int .i16 0, .int .i16 0, .int .i16 0, .int .i16 0, .int .i16 0, .int .i16 0, .int .i16 0, .int .i16 0] 36)) (b := w4.heap.size) k4.size (arrV .i16 64 V)
  have Y := Lib.hid (And.intro yB z2); clear yB z2 k4
  go_wp2_with (refine wpList_store_arr z1 36 (.tmp 6) (.tmp 23) rfl rfl rfl rfl sizePrint ?_)
  clear z1
  refine (Hto.out _ (Hr.out.below Y.out.1 (Nat.le_refl _))).mono ?_; rintro e w5 ⟨rfl, r5, hb5⟩
  have k5 := Y.out.1.trans (hb5.mono Y.out.1.size)
  have q5 := Y.out.2.below hb5 Y.out.2.lt
  generalize ((w4.alloc (.cells #[.int .i16 0, .int .i16 0, .int .i16 0, .int .i16 0, .int .i16 0, .int .i16 0, .int .i16 0, .int .i16 0, .int .i16 0, .int .i16 0, .int .i16 0, .int .i16 0, .int .i16 0, .int .i16 0, .int .i16 0, .int .i16 0, .int .i16 0, .int .i16 0, .int .i16 0, .int .i16 0, .int .i16 0, .int .i16 0, .int .i16 0, .int .i16 0, .int .i16 0, .int .i16 0, .int .i16 0, .int .i16 0, .int .i16 0, .int .i16 0, .int .i16 0, .int .i16 0, .int .i16 0, .int .i16 0, .int .i16 0, .int .i16 0, .int .i16 0, .int .i16 0, .int .i16 0, .int .i16 0, .int .i16 0, .int .i16 0, .int .i16 0, .int .i16 0, .int .i16 0, .int .i16 0, .int .i16 0, .int .i16 0, .int .i16 0, .int .i16 0, .int .i16 0, .int .i16 0, .int .i16 0, .int .i16 0, .int .i16 0, .int .i16 0, .int .i16 0, .int .i16 0, .int .i16 0, .int .i16 0, .int .i16 0, .int .i16 0, .int .i16 0, .int .i16 0] 36)).setRow w4.heap.size (arrV .i16 64 V)).heap.size = b5 at *
  obtain ⟨B4, hB4⟩ : ∃ B, B = w4.heap.size := ⟨_, rfl⟩
  rw [← hB4] at q5 ⊢
  clear hb5 Y hB4
  go_wp2_with fail
  refine (Him.out _ _ r5.prs (HE.out.below k5 (Nat.le_refl _)) (hDb.out.below k5)).mono ?_; rintro e w6 ⟨rfl, hb6⟩
  have k6 := k5.trans (hb6.mono k5.size)
  have q6 := q5.below hb6 q5.lt
  have r6 := r5.below hb6 r5.lt
  clear hb6 k5 q5 r5
  have hlt := q6.lt
  have hltr := r6.lt
  have z1 := (HasArr.zero w6 36 (b := w6.heap.size) rfl)
  have z2 := z1.setRow .i16 V
  have kk := below_setRow ((Below.refl w6.heap.size w6).alloc (Nat.le_refl _) (.cells #[.int .i16 0, .int .i16 0, .int .i16 0, .int .i16 0, .int .i16 0, .int .i16 0, .int .i16 0, .int .i16 0, .int .i16 0, .int .i16 0, .int .i16 0, .int .i16 0, .int .i16 0, .int .i16 0, .int .i16 0, .int .i16 0, .int .i16 0, .int .i16 0, .int .i16 0, .int .i16 0, .int .i16 0, .int .i16 0, .int .i16 0, .int .i16 0, .int .i16 0, .int .i16 0, .int .i16 0, .int .i16 0, .int .i16 0, .int .i16 0, .int .i16 0, .int .i16 0, .int .i16 0, .int .i16 0, .int .i16 0, .int .i16 0, .int .i16 0, .int .i16 0, .int .i16 0, .int .i16 0, .int .i16 0, .int .i16 0, .int .i16 0, .int .i16 0, .int .i16 0, .int .i16 0, .int .i16 0, .int .i16 0, .int .i16 0, .int .i16 0, .int .i16 0, .int .i16 0, .int .i16 0, .int .i16 0, .int .i16 0, .int .i16 0, .int .i16 0, .int .i16 0, .int .i16 0, .int .i16 0, .int .i16 0, .int .i16 0, .int .i16 0, .int .i16 0] 36)) (b := w6.heap.size) (Nat.le_refl _) (arrV .i16 64 V)
  have y1 := q6.below kk q6.lt
  have r7 := r6.below kk r6.lt
  have yB := k6.trans (kk.mono k6.size)
  have Y := Lib.hid (And.intro yB r7); clear yB r7 kk q6 r6 k6
  go_wp2_with (first | (refine wpList_store_arr z1 36 (.tmp 10) (.tmp 32) rfl rfl rfl rfl sizePrint ?_) | (refine wpList_load_arr z2 36 (.tmp 10) rfl rfl rfl Tryd.underlying36 sizePrint ?_) | (refine wpList_load_arr y1 36 (.tmp 6) rfl rfl rfl Tryd.underlying36 sizePrint ?_))
  refine (Hq.out _).mono ?_; rintro e w8 ⟨rfl, hb8⟩
  have k8 := Y.out.1.trans (hb8.mono Y.out.1.size)
  have r8 := Y.out.2.below hb8 Y.out.2.lt
  clear z1 z2 y1 hb8 Y
  go_wp2_with fail
  refine (Hto.out _ (Hr.out.below k8 (Nat.le_refl _))).mono ?_; rintro e w9 ⟨rfl, r9, hb9⟩
  have k9 := k8.trans (hb9.mono k8.size)
  have r8' := r8.below hb9 r8.lt
  generalize w8.heap.size = b8 at *
  clear r8 hb9 k8
  go_wp2_with fail
  refine (Heq.out _ _ _ r8'.prs r9.prs).mono ?_; rintro e w10 ⟨rfl, hb10⟩
  go_wp2
  go_ret
  exact ⟨rfl, k9.trans (hb10.mono k9.size)⟩
end Go.Proofs.YtnohpkhaimmdmaaDoor

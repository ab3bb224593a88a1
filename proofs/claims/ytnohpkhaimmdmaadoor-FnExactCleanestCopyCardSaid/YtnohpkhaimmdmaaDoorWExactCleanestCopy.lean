/-
  The walk of the law FnExactCleanestCopy: it returns true for every argument. Condition: the listed variables hold what the row lists.
-/
import Derived.Test.YtnohpkhaimmdmaaDoorOpenA
import Derived.Test.YtnohpkhaimmdmaaDoorOpenPr
import Derived.Test.YtnohpkhaimmdmaaDoorClnJ
import Derived.Test.YtnohpkhaimmdmaaDoorEnv
namespace Go.Proofs.YtnohpkhaimmdmaaDoor
open Go.RowKit

set_option maxRecDepth 100000 in
set_option maxHeartbeats 4000000 in
theorem walk_FnExactCleanestCopy (A : Option Addr) (n cap : Nat) (g : Nat → Nat → Int) (x1 : Int) (_bl1 : -9223372036854775808 ≤ x1) (_bh1 : x1 ≤ 9223372036854775807) (w : World) (hL : laidMetH Tryd.prog Rows.fnExactCleanestCopyRow.laid w) (hr : PrsIn w A n g) (hm : n ≤ maxLen) (hs : ∀ i, i < n → S16 (g i)) :
    Calls Tryd.prog 4 #[.slice A n cap, .int .i64 x1] w fun e w' => e = .returned (.bool true) ∧ Below w.heap.size w w' := by
  clear _bl1 _bh1
  obtain ⟨s, hE⟩ := errEnv_of_row hL (by kernel_rfl) (by kernel_rfl)
  clear hL
  unfold maxLen at hm
  have k0 := Below.refl w.heap.size w
  by_cases hn : n ≤ 1048576
  rotate_left
  · clear hr
    have hz := fun W => szPrintS_any A n cap 1048576 (by omega) (by omega) hm W
    rw [if_neg (by omega)] at hz
    have Hz := Lib.hid hz; clear hz
    go_enter Tryd.func4, Tryd.ntmps4
    go_wp2_with fail
    refine (Hz.out _).mono ?_; rintro e w1 ⟨rfl, rfl⟩
    go_wp2
    go_ret
    exact ⟨rfl, k0⟩
  have hz := fun W => szPrintS_any A n cap 1048576 (by omega) (by omega) hm W
  rw [if_pos (by omega)] at hz
  have Hz := Lib.hid hz; clear hz
  have hto := fun W h => toPrintS_any A n cap g hn W h
  have hsp := fun b W h => specCleanestCopy_any (some ⟨b, 0, none⟩) n n g x1 hn hs W h
  have him := fun b W h hEW => CleanestCopy_any s (some ⟨b, 0, none⟩) n n g x1 hn hs W h hEW
  have heq := fun b b' W h h' => eqPrintS_same (some ⟨b, 0, none⟩) (some ⟨b', 0, none⟩) n n n g hn W h h'
  obtain ⟨R1, R2, R3, hT⟩ : ∃ R1 R2 R3 : Int, cleT n g x1 = #[.int .i64 R1, .int .i64 R2, .int .i64 R3] := by
    unfold cleT
    repeat' split
    all_goals exact ⟨_, _, _, rfl⟩
  simp only [hT] at hsp him
  clear hT
  have Hto := Lib.hid hto; clear hto
  have Hsp := Lib.hid hsp; clear hsp
  have Him := Lib.hid him; clear him
  have Heq := Lib.hid heq; clear heq
  clear hs
  have Hr := Lib.hid hr; clear hr
  have HE := Lib.hid hE; clear hE
  go_enter Tryd.func4, Tryd.ntmps4
  go_wp2_with fail
  refine (Hz.out _).mono ?_; rintro e w1 ⟨rfl, rfl⟩
  go_wp2_with fail
  refine (Hto.out _ Hr.out).mono ?_; rintro e w3 ⟨rfl, r3, hb3⟩
  have k3 := k0.trans (hb3.mono k0.size)
  clear hb3 k0
  go_wp2_with fail
  refine (Hsp.out _ _ r3.prs).mono ?_; rintro e w4 ⟨rfl, hb4⟩
  have k4 := k3.trans (hb4.mono k3.size)
  clear hb4 k3 r3
  go_wp2_with fail
  refine (Hto.out _ (Hr.out.below k4 (Nat.le_refl _))).mono ?_; rintro e w5 ⟨rfl, r5, hb5⟩
  have k5 := k4.trans (hb5.mono k4.size)
  generalize w4.heap.size = b5 at *
  clear hb5 k4
  go_wp2_with fail
  refine (Him.out _ _ r5.prs (HE.out.below k5 (Nat.le_refl _))).mono ?_; rintro e w6 ⟨rfl, hb6⟩
  have k6 := k5.trans (hb6.mono k5.size)
  have r6 := r5.below hb6 r5.lt
  clear hb6 k5 r5
  go_wp2_with fail
  refine (Hto.out _ (Hr.out.below k6 (Nat.le_refl _))).mono ?_; rintro e w9 ⟨rfl, r9, hb9⟩
  have k9 := k6.trans (hb9.mono k6.size)
  have r6' := r6.below hb9 r6.lt
  generalize w6.heap.size = b8 at *
  clear r6 hb9 k6
  go_wp2_with fail
  refine (Heq.out _ _ _ r6'.prs r9.prs).mono ?_; rintro e w10 ⟨rfl, hb10⟩
  go_wp2
  go_ret
  exact ⟨rfl, k9.trans (hb10.mono k9.size)⟩
end Go.Proofs.YtnohpkhaimmdmaaDoor

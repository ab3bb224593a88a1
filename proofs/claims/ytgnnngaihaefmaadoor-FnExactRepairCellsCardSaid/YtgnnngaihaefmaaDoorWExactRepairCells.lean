/-
  The walk of the law FnExactRepairCells: it returns true for every argument. Condition: the listed variables hold what the row lists.
-/
import Derived.Test.YtgnnngaihaefmaaDoorOpenA
import Derived.Test.YtgnnngaihaefmaaDoorRepD
import Derived.Test.YtgnnngaihaefmaaDoorEachE
import Derived.Test.YtgnnngaihaefmaaDoorEqNeg
namespace Go.Proofs.YtgnnngaihaefmaaDoor
open Go.RowKit

set_option maxRecDepth 100000 in
set_option maxHeartbeats 2000000 in
theorem walk_FnExactRepairCells (f : Nat → Int) (x : Int) (h1 : 0 ≤ x) (h2 : x ≤ 18446744073709551615) (w : World) (hL : laidMetH Tryd.prog Rows.fnExactRepairCellsRow.laid w) (hf : Sm16 f) :
    Calls Tryd.prog 3 #[.agg (arrV .i16 64 f), .int .u64 x] w fun e w' => e = .returned (.bool true) ∧ Below w.heap.size w w' := by
  obtain ⟨s, hE⟩ := errEnv_of_row hL (by kernel_rfl) (by kernel_rfl)
  have hT := dbEnv_of_row hL (by kernel_rfl) (by kernel_rfl)
  clear hL
  obtain ⟨m, rfl⟩ := bvI_of h1 h2
  clear h1 h2
  have a1 := HasArr.new w 23 .i16 64 f
  have k0 := (Below.refl w.heap.size w).alloc (Nat.le_refl _) (.cells (arrV .i16 64 f) 23)
  obtain ⟨V, R, C, hs, hi⟩ := repair_both s f hf m
  have hq := fun W => eqPrint_same V W
  have Hs := Lib.hid hs; clear hs
  have Hi := Lib.hid hi; clear hi
  have Hq := Lib.hid hq; clear hq
  have HE := Lib.hid hE; have HT := Lib.hid hT; clear hE hT
  have K0 := Lib.hid k0; clear k0 hf
  go_enter Tryd.func3, Tryd.ntmps3
  go_wp2_with (refine wpList_load_arr a1 23 (.tmp 2) rfl rfl rfl Tryd.underlying23 sizeA64 ?_)
  refine (toPrint_16 _ _).mono ?_; rintro e w1 ⟨rfl, hb1⟩
  have k1 := K0.out.trans (hb1.mono K0.out.size)
  have b1 := a1.below hb1 (by simp)
  clear a1 hb1
  go_wp2_with fail
  refine (Hs.out _).mono ?_; rintro e w2 ⟨rfl, hb2⟩
  have k2 := k1.trans (hb2.mono k1.size)
  have c1 := b1.below hb2 b1.lt
  clear k1 b1 hb2
  have hlt := c1.lt
  have z1 := (HasArr.zero w2 25 (b := w2.heap.size) rfl)
  have z2 := z1.setRow .i16 V
  have y1 := (c1.alloc (.cells #[.int .i16 0, .int .i16 0, .int .i16 0, .int .i16 0, .int .i16 0, .int .i16 0, .int .i16 0, .int .i16 0, .int .i16 0, .int .i16 0, .int .i16 0, .int .i16 0, .int .i16 0, .int .i16 0, .int .i16 0, .int .i16 0, .int .i16 0, .int .i16 0, .int .i16 0, .int .i16 0, .int .i16 0, .int .i16 0, .int .i16 0, .int .i16 0, .int .i16 0, .int .i16 0, .int .i16 0, .int .i16 0, .int .i16 0, .int .i16 0, .int .i16 0, .int .i16 0, .int .i16 0, .int .i16 0, .int .i16 0, .int .i16 0, .int .i16 0, .int .i16 0, .int .i16 0, .int .i16 0, .int .i16 0, .int .i16 0, .int .i16 0, .int .i16 0, .int .i16 0, .int .i16 0, .int .i16 0, .int .i16 0, .int .i16 0, .int .i16 0, .int .i16 0, .int .i16 0, .int .i16 0, .int .i16 0, .int .i16 0, .int .i16 0, .int .i16 0, .int .i16 0, .int .i16 0, .int .i16 0, .int .i16 0, .int .i16 0, .int .i16 0, .int .i16 0] 25)).rowOther (b' := w2.heap.size) (by omega) (arrV .i16 64 V)
  have yB := below_setRow (k2.alloc k2.size (.cells #[.int .i16 0, .int .i16 0, .int .i16 0, .int .i16 0, .int .i16 0, .int .i16 0, .int .i16 0, .int .i16 0, .int .i16 0, .int .i16 0, .int .i16 0, .int .i16 0, .int .i16 0, .int .i16 0, .int .i16 0, .int .i16 0, .int .i16 0, .int .i16 0, .int .i16 0, .int .i16 0, .int .i16 0, .int .i16 0, .int .i16 0, .int .i16 0, .int .i16 0, .int .i16 0, .int .i16 0, .int .i16 0, .int .i16 0, .int .i16 0, .int .i16 0, .int .i16 0, .int .i16 0, .int .i16 0, .int .i16 0, .int .i16 0, .int .i16 0, .int .i16 0, .int .i16 0, .int .i16 0, .int .i16 0, .int .i16 0, .int .i16 0, .int .i16 0, .int .i16 0, .int .i16 0, .int .i16 0, .int .i16 0, .int .i16 0, .int .i16 0, .int .i16 0, .int .i16 0, .int .i16 0, .int .i16 0, .int .i16 0, .int .i16 0, .int .i16 0, .int .i16 0, .int .i16 0, .int .i16 0, .int .i16 0, .int .i16 0, .int .i16 0, .int .i16 0] 25)) (b := w2.heap.size) k2.size (arrV .i16 64 V)
  obtain ⟨B1, hB1⟩ : ∃ B, B = w2.heap.size := ⟨_, rfl⟩
  have HB1 := Lib.hid hB1; clear hB1
  have Y := Lib.hid (And.intro yB z2); clear yB z2
  clear c1
  go_wp2_with (first | (refine wpList_store_arr z1 25 (.tmp 5) (.tmp 16) rfl rfl rfl rfl sizePrint ?_) | (refine wpList_load_arr y1 23 (.tmp 2) rfl rfl rfl Tryd.underlying23 sizeA64 ?_))
  refine (toPrint_16 _ _).mono ?_; rintro e w3 ⟨rfl, hb3⟩
  clear z1 y1 hlt k2
  have k3 := Y.out.1.trans (hb3.mono Y.out.1.size)
  have q1 := Y.out.2.below hb3 Y.out.2.lt
  clear hb3 Y
  go_wp2_with fail
  refine (Hi.out _ (HE.out.below k3 (Nat.le_refl _)) (HT.out.below k3)).mono ?_; rintro e w4 ⟨rfl, hb4⟩
  have k4 := k3.trans (hb4.mono k3.size)
  have q2 := q1.below hb4 q1.lt
  clear k3 q1 hb4
  have hlt := q2.lt
  have z1 := (HasArr.zero w4 25 (b := w4.heap.size) rfl)
  have z2 := z1.setRow .i16 V
  have y1 := (q2.alloc (.cells #[.int .i16 0, .int .i16 0, .int .i16 0, .int .i16 0, .int .i16 0, .int .i16 0, .int .i16 0, .int .i16 0, .int .i16 0, .int .i16 0, .int .i16 0, .int .i16 0, .int .i16 0, .int .i16 0, .int .i16 0, .int .i16 0, .int .i16 0, .int .i16 0, .int .i16 0, .int .i16 0, .int .i16 0, .int .i16 0, .int .i16 0, .int .i16 0, .int .i16 0, .int .i16 0, .int .i16 0, .int .i16 0, .int .i16 0, .int .i16 0, .int .i16 0, .int .i16 0, .int .i16 0, .int .i16 0, .int .i16 0, .int .i16 0, .int .i16 0, .int .i16 0, .int .i16 0, .int .i16 0, .int .i16 0, .int .i16 0, .int .i16 0, .int .i16 0, .int .i16 0, .int .i16 0, .int .i16 0, .int .i16 0, .int .i16 0, .int .i16 0, .int .i16 0, .int .i16 0, .int .i16 0, .int .i16 0, .int .i16 0, .int .i16 0, .int .i16 0, .int .i16 0, .int .i16 0, .int .i16 0, .int .i16 0, .int .i16 0, .int .i16 0, .int .i16 0] 25)).rowOther (b' := w4.heap.size) (by omega) (arrV .i16 64 V)
  have yB := below_setRow (k4.alloc k4.size (.cells #[.int .i16 0, .int .i16 0, .int .i16 0, .int .i16 0, .int .i16 0, .int .i16 0, .int .i16 0, .int .i16 0, .int .i16 0, .int .i16 0, .int .i16 0, .int .i16 0, .int .i16 0, .int .i16 0, .int .i16 0, .int .i16 0, .int .i16 0, .int .i16 0, .int .i16 0, .int .i16 0, .int .i16 0, .int .i16 0, .int .i16 0, .int .i16 0, .int .i16 0, .int .i16 0, .int .i16 0, .int .i16 0, .int .i16 0, .int .i16 0, .int .i16 0, .int .i16 0, .int .i16 0, .int .i16 0, .int .i16 0, .int .i16 0, .int .i16 0, .int .i16 0, .int .i16 0, .int .i16 0, .int .i16 0, .int .i16 0, .int .i16 0, .int .i16 0, .int .i16 0, .int .i16 0, .int .i16 0, .int .i16 0, .int .i16 0, .int .i16 0, .int .i16 0, .int .i16 0, .int .i16 0, .int .i16 0, .int .i16 0, .int .i16 0, .int .i16 0, .int .i16 0, .int .i16 0, .int .i16 0, .int .i16 0, .int .i16 0, .int .i16 0, .int .i16 0] 25)) (b := w4.heap.size) k4.size (arrV .i16 64 V)
  have Y := Lib.hid yB; clear yB q2 k4
  go_wp2_with (first | (refine wpList_store_arr z1 25 (.tmp 8) (.tmp 24) rfl rfl rfl rfl sizePrint ?_) | (refine wpList_load_arr z2 25 (.tmp 8) rfl rfl rfl Tryd.underlying25 sizePrint ?_) | (refine wpList_load_arr y1 25 (.tmp 5) rfl rfl rfl Tryd.underlying25 sizePrint ?_))
  refine (Hq.out _).mono ?_; rintro e w5 ⟨rfl, hb5⟩
  have k5 := Y.out.trans (hb5.mono Y.out.size)
  clear z1 z2 y1 hb5 Y
  go_wp2_with fail
  go_ret
  exact ⟨rfl, k5⟩
end Go.Proofs.YtgnnngaihaefmaaDoor

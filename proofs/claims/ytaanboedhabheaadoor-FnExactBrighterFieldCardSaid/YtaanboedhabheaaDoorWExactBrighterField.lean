/-
  The walk of the law FnExactBrighterField: it returns true for every argument. Condition: the listed variables hold what the row lists.
-/
import Derived.Test.YtaanboedhabheaaDoorOpenA
import Derived.Test.YtaanboedhabheaaDoorFldB
import Derived.Test.YtaanboedhabheaaDoorEnv
namespace Go.Proofs.YtaanboedhabheaaDoor
open Go.RowKit

set_option maxRecDepth 100000 in
set_option maxHeartbeats 1000000 in
theorem walk_FnExactBrighterField (f : Nat → Int) (a : Int) (ha0 : 0 ≤ a) (ha1 : a ≤ 4294967295) (b : Int) (hb0 : 0 ≤ b) (hb1 : b ≤ 4294967295) (w : World) (hL : laidMetH Tryd.prog Rows.fnExactBrighterFieldRow.laid w) (hf : S8 f) :
    Calls Tryd.prog 14 #[.agg (arrV .i8 24 f), .int .u32 a, .int .u32 b] w fun e w' => e = .returned (.bool true) ∧ Below w.heap.size w w' := by
  obtain ⟨a, rfl⟩ := Int.eq_ofNat_of_zero_le ha0
  have ha : a < 4294967296 := by omega
  clear ha0 ha1
  obtain ⟨b, rfl⟩ := Int.eq_ofNat_of_zero_le hb0
  have hb : b < 4294967296 := by omega
  clear hb0 hb1
  obtain ⟨s, hE⟩ := errEnv_of_row hL (by kernel_rfl) (by kernel_rfl)
  have a1 := HasArr.new w 23 .i8 24 f
  have k0 := (Below.refl w.heap.size w).alloc (Nat.le_refl _) (.cells (arrV .i8 24 f) 23)
  have hs := fun W => specBrighterField_any f hf a b ha hb W
  have hi := fun W h => BrighterField_any s f a b ha hb W h
  have HE := Lib.hid hE; clear hE hL
  generalize brV f a b = V0 at *
  generalize frC f a b = V1 at *
  have Hs := Lib.hid hs; clear hs
  have Hi := Lib.hid hi; clear hi
  have K0 := Lib.hid k0; clear k0 hf
  go_enter Tryd.func14, Tryd.ntmps14
  go_wp2_with (refine wpList_load_arr a1 _ _ rfl rfl rfl Tryd.underlying23 sizeA24 ?_)
  refine (toScene_any _ _).mono ?_; rintro e w1 ⟨rfl, hb1⟩
  have k1 := K0.out.trans (hb1.mono K0.out.size)
  have a2 := a1.below hb1 (by simp)
  go_wp2_with fail
  refine (Hs.out _).mono ?_; rintro e w2 ⟨rfl, hb2⟩
  have k2 := k1.trans (hb2.mono k1.size)
  have a3 := a2.below hb2 a2.lt
  clear a1 a2 hb1 hb2
  go_wp2_with (refine wpList_load_arr a3 _ _ rfl rfl rfl Tryd.underlying23 sizeA24 ?_)
  refine (toScene_any _ _).mono ?_; rintro e w3 ⟨rfl, hb3⟩
  have k3 := k2.trans (hb3.mono k2.size)
  go_wp2_with fail
  refine (Hi.out _ (HE.out.below k3 (Nat.le_refl _))).mono ?_; rintro e w4 ⟨rfl, hb4⟩
  have k4 := k3.trans (hb4.mono k3.size)
  clear a3
  go_wp2_with fail
  go_ret
  exact ⟨rfl, k4⟩
end Go.Proofs.YtaanboedhabheaaDoor

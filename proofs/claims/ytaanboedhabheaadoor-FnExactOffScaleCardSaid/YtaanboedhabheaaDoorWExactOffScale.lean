/-
  The walk of the law FnExactOffScale: it returns true for every argument. Condition: the listed variables hold what the row lists.
-/
import Derived.Test.YtaanboedhabheaaDoorOpenA
import Derived.Test.YtaanboedhabheaaDoorCnz
import Derived.Test.YtaanboedhabheaaDoorEnv
namespace Go.Proofs.YtaanboedhabheaaDoor
open Go.RowKit

set_option maxRecDepth 100000 in
set_option maxHeartbeats 4000000 in
theorem walk_FnExactOffScale (f : Nat → Int) (r z : Int) (hr : -128 ≤ r) (hr' : r ≤ 127) (hz : -128 ≤ z) (hz' : z ≤ 127) (w : World) (hL : laidMetH Tryd.prog Rows.fnExactOffScaleRow.laid w) (hf : S8 f) :
    Calls Tryd.prog 9 #[.agg (arrV .i8 24 f), plcV r z] w fun e w' => e = .returned (.bool true) ∧ Below w.heap.size w w' := by
  obtain ⟨s, hE⟩ := errEnv_of_row hL (by kernel_rfl) (by kernel_rfl)
  have hsp := fun W => specOffScale_any f hf r z hr hr' hz hz' W
  have him := fun W h => OffScale_any s f hf r z hr hr' hz hz' W h
  generalize osL f r z = M1 at *
  generalize osH f r z = M2 at *
  generalize bC f r z = C at *
  have Hsp := Lib.hid hsp; clear hsp
  have Him := Lib.hid him; clear him
  have k0 : Below w.heap.size w ((w.alloc (.cells (arrV .i8 24 f) 23)).alloc (.cells #[.int .i8 r, .int .i8 z] 35)) := ((Below.refl _ _).alloc (Nat.le_refl _) _).alloc (by simp) _
  have a0 := (HasArr.new w 23 .i8 24 f).alloc (.cells #[.int .i8 r, .int .i8 z] 35)
  have q0 := PlAt.new (w.alloc (.cells (arrV .i8 24 f) 23)) (g := w.heap.size + 1) (by simp) 35 r z
  go_enter Tryd.func9, Tryd.ntmps9
  go_wp2_with fail
  generalize ((w.alloc (.cells (arrV .i8 24 f) 23)).alloc (.cells #[.int .i8 r, .int .i8 z] 35)) = W at *
  have HE := Lib.hid (hE.below k0 (Nat.le_refl _)); clear hE
  have K0 := Lib.hid k0; clear k0
  have A0 := Lib.hid a0; clear a0
  have Q0 := Lib.hid q0; clear q0
  refine wp_region_quietD (Below W.heap.size W) (by kernel_rfl) (by kernel_rfl) (below_drew1 _) ?_
  have n0 := below_nonempty W
  have u0 := fun (x : WIn (Below W.heap.size W)) => inCell Q0.out.1 x
  have u1 := fun (x : WIn (Below W.heap.size W)) => inCell Q0.out.2 x
  have hi := Lib.hid (fun (x : WIn (Below W.heap.size W)) => Him.out x.w (HE.out.below x.ok (Nat.le_refl _)))
  refine wpQuiet_load_arr (fun V hW => by obtain ⟨x, rfl⟩ := hW; exact A0.out.below x.ok A0.out.lt) 23 (.tmp 2) rfl rfl rfl Tryd.underlying23 sizeA24 ?_
  go_frame
  quiet_step ((go_at_call 16; exact inCall _ (toScene_any _ _)))
  quiet_step (fail)
  quiet_step ((go_at_call 23; exact inCall _ (toPlacement_any _ _ _)))
  quiet_step ((go_at_call 31; exact inCall _ (Hsp.out _)))
  go_big_quiet_step (fail)
  refine wpQuiet_yield (.int .u32 (M1 : Int)) rfl (fun _ => rfl) ?_
  go_frame
  refine wpQuiet_yield (.int .u32 (M2 : Int)) rfl (fun _ => rfl) ?_
  go_frame
  refine wpQuiet_yield (.int .i64 C) rfl (fun _ => rfl) ?_
  go_frame
  refine wpQuiet_yield (.int .u32 (M1 : Int)) rfl (fun _ => rfl) ?_
  go_frame
  refine wpQuiet_yield (.int .u32 (M2 : Int)) rfl (fun _ => rfl) ?_
  go_frame
  refine wpQuiet_yield (.int .i64 C) rfl (fun _ => rfl) ?_
  go_frame
  refine wpQuiet_nil ?_
  rintro w2 ⟨⟨w3, hb2⟩, rfl⟩
  have A1 := Lib.hid (A0.out.below hb2 A0.out.lt)
  have Q1 := Lib.hid (Q0.out.below hb2 Q0.out.lt)
  have k1 := K0.out.trans (Below.mono hb2 K0.out.size)
  have E1 := Lib.hid (HE.out.below hb2 (Nat.le_refl _))
  clear A0 Q0 K0 HE hb2 n0 u0 u1 hi
  have K1 := Lib.hid k1; clear k1
  go_wp2_with fail
  refine wp_region_quietD (Below w2.heap.size w2) (by kernel_rfl) (by kernel_rfl) (below_drew1 _) ?_
  have n0 := below_nonempty w2
  have u0 := fun (x : WIn (Below w2.heap.size w2)) => inCell Q1.out.1 x
  have u1 := fun (x : WIn (Below w2.heap.size w2)) => inCell Q1.out.2 x
  have hi := Lib.hid (fun (x : WIn (Below w2.heap.size w2)) => Him.out x.w (E1.out.below x.ok (Nat.le_refl _)))
  refine wpQuiet_load_arr (fun V hW => by obtain ⟨x, rfl⟩ := hW; exact A1.out.below x.ok A1.out.lt) 23 (.tmp 2) rfl rfl rfl Tryd.underlying23 sizeA24 ?_
  go_frame
  quiet_step ((go_at_call 16; exact inCall _ (toScene_any _ _)))
  quiet_step (fail)
  quiet_step ((go_at_call 23; exact inCall _ (toPlacement_any _ _ _)))
  quiet_step ((go_at_call 32; exact inCall _ (hi.out _)))
  go_big_quiet_step (fail)
  refine wpQuiet_yield (.int .u32 (M1 : Int)) rfl (fun _ => rfl) ?_
  go_frame
  refine wpQuiet_yield (.int .u32 (M2 : Int)) rfl (fun _ => rfl) ?_
  go_frame
  refine wpQuiet_yield (.int .i64 C) rfl (fun _ => rfl) ?_
  go_frame
  refine wpQuiet_yield (.int .u32 (M1 : Int)) rfl (fun _ => rfl) ?_
  go_frame
  refine wpQuiet_yield (.int .u32 (M2 : Int)) rfl (fun _ => rfl) ?_
  go_frame
  refine wpQuiet_yield (.int .i64 C) rfl (fun _ => rfl) ?_
  go_frame
  refine wpQuiet_nil ?_
  rintro w4 ⟨⟨w5, hb4⟩, rfl⟩
  have k2 := K1.out.trans (Below.mono hb4 K1.out.size)
  clear A1 Q1 K1 hb4 n0 u0 u1 hi
  go_wp2_with fail
  go_ret
  exact ⟨rfl, k2⟩
end Go.Proofs.YtaanboedhabheaaDoor

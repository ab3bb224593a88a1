/-
  The walk of the law FnExactDifferIn: it returns true for every argument. Condition: the program's variables hold their own errors.
-/
import Derived.Test.YtbpiajnkfccndaaDoorOpenA
import Derived.Test.YtbpiajnkfccndaaDoorDiffer
import Derived.Test.YtbpiajnkfccndaaDoorEnv
import Derived.Test.YtbpiajnkfccndaaDoorRows
namespace Go.Proofs.YtbpiajnkfccndaaDoor
open Go.RowKit

set_option maxRecDepth 100000 in
set_option maxHeartbeats 4000000 in
theorem walk_FnExactDifferIn (f g : Nat → Int) (t : Int) (_h1 : -9223372036854775808 ≤ t) (_h2 : t ≤ 9223372036854775807) (w : World) (hL : laidMetH Tryd.prog Rows.fnExactDifferInRow.laid w) (hf : Sm16 f) (hg : Sm16 g) :
    Calls Tryd.prog 7 #[.agg (arrV .i16 64 f), .agg (arrV .i16 64 g), .int .i64 t] w fun e w' => e = .returned (.bool true) ∧ Below w.heap.size w w' := by
  clear _h1 _h2
  obtain ⟨s, hE⟩ := errEnv_of_row hL (by kernel_rfl) (by rfl)
  have a1 := (HasArr.new w 27 .i16 64 f).alloc (.cells (arrV .i16 64 g) 27)
  have a2 : HasArr ((w.alloc (.cells (arrV .i16 64 f) 27)).alloc (.cells (arrV .i16 64 g) 27)) (w.heap.size + 1) 27 .i16 64 g := by
    have h := HasArr.new (w.alloc (.cells (arrV .i16 64 f) 27)) 27 .i16 64 g
    simpa using h
  have k0 := ((Below.refl w.heap.size w).alloc (Nat.le_refl _) (.cells (arrV .i16 64 f) 27)).alloc (by simp) (.cells (arrV .i16 64 g) 27)
  have hs := fun W => specDifferIn_any f g t hf hg W
  have hi := fun W h => DifferIn_any s f g t hf hg W h
  clear hf hg hL
  generalize difV f g t = X at *
  generalize difC f g t = C at *
  have Hs := Lib.hid hs; clear hs
  have Hi := Lib.hid hi; clear hi
  have A1 := Lib.hid a1
  have A2 := Lib.hid a2
  have K0 := Lib.hid k0
  clear a1 a2 k0
  go_enter Tryd.func7, Tryd.ntmps7
  go_wp2_with fail
  refine wp_region_quietD (Below _ ((w.alloc (.cells (arrV .i16 64 f) 27)).alloc (.cells (arrV .i16 64 g) 27))) (by kernel_rfl) (by kernel_rfl) (below_drew1 _) ?_
  have n0 := below_nonempty ((w.alloc (.cells (arrV .i16 64 f) 27)).alloc (.cells (arrV .i16 64 g) 27))
  refine wpQuiet_load_arr (fun W hW => by obtain ⟨x, rfl⟩ := hW; exact A1.out.below x.ok A1.out.lt) 27 (.tmp 3) rfl rfl rfl Tryd.underlying27 sizeA64 ?_
  quiet_step ((go_at_call 20; exact inCall _ (toPrint_16 _ _)))
  refine wpQuiet_load_arr (fun W hW => by obtain ⟨x, rfl⟩ := hW; exact A2.out.below x.ok A2.out.lt) 27 (.tmp 4) rfl rfl rfl Tryd.underlying27 sizeA64 ?_
  quiet_step ((go_at_call 20; exact inCall _ (toPrint_16 _ _)))
  go_big_quiet_step (fail)
  quiet_step ((go_at_call 19; exact inCall _ (Hs.out _)))
  go_big_quiet_step (fail)
  refine wpQuiet_yield (.int .u64 X) rfl (fun _ => rfl) ?_
  refine wpQuiet_yield (.int .i64 C) rfl (fun _ => rfl) ?_
  refine wpQuiet_yield (.int .u64 X) rfl (fun _ => rfl) ?_
  refine wpQuiet_yield (.int .i64 C) rfl (fun _ => rfl) ?_
  refine wpQuiet_nil ?_
  rintro w2 ⟨⟨w3, hb2⟩, rfl⟩
  have B1 := Lib.hid (A1.out.below hb2 A1.out.lt)
  have B2 := Lib.hid (A2.out.below hb2 A2.out.lt)
  have k1 := K0.out.trans (Below.mono hb2 K0.out.size)
  have E1 := Lib.hid (hE.below k1 (Nat.le_refl _))
  clear A1 A2 K0 hb2 n0 hE
  go_wp2_with fail
  refine wp_region_quietD (Below w2.heap.size w2) (by kernel_rfl) (by kernel_rfl) (below_drew1 _) ?_
  have n0 := below_nonempty w2
  refine wpQuiet_load_arr (fun W hW => by obtain ⟨x, rfl⟩ := hW; exact B1.out.below x.ok B1.out.lt) 27 (.tmp 3) rfl rfl rfl Tryd.underlying27 sizeA64 ?_
  quiet_step ((go_at_call 20; exact inCall _ (toPrint_16 _ _)))
  refine wpQuiet_load_arr (fun W hW => by obtain ⟨x, rfl⟩ := hW; exact B2.out.below x.ok B2.out.lt) 27 (.tmp 4) rfl rfl rfl Tryd.underlying27 sizeA64 ?_
  quiet_step ((go_at_call 20; exact inCall _ (toPrint_16 _ _)))
  go_big_quiet_step (fail)
  quiet_step ((go_at_call 21; rename_i x0 <;> exact inCall _ (Hi.out _ (E1.out.below x0.ok (Nat.le_refl _)))))
  go_big_quiet_step (fail)
  refine wpQuiet_yield (.int .u64 X) rfl (fun _ => rfl) ?_
  refine wpQuiet_yield (.int .i64 C) rfl (fun _ => rfl) ?_
  refine wpQuiet_yield (.int .u64 X) rfl (fun _ => rfl) ?_
  refine wpQuiet_yield (.int .i64 C) rfl (fun _ => rfl) ?_
  refine wpQuiet_nil ?_
  rintro w4 ⟨⟨w5, hb4⟩, rfl⟩
  have k2 := k1.trans (Below.mono hb4 k1.size)
  clear B1 B2 k1 hb4 n0
  go_wp2_with fail
  go_ret
  exact ⟨rfl, k2⟩
end Go.Proofs.YtbpiajnkfccndaaDoor

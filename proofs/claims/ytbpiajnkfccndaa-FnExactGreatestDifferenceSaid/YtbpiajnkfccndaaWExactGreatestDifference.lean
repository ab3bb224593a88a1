/-
  The walk of the law FnExactGreatestDifference: it returns true for every argument. No condition.
-/
import Derived.Test.YtbpiajnkfccndaaOpenA
import Derived.Test.YtbpiajnkfccndaaGreatI
namespace Go.Proofs.Ytbpiajnkfccndaa
open Go.RowKit

set_option maxRecDepth 100000 in
set_option maxHeartbeats 4000000 in
theorem walk_FnExactGreatestDifference (f g : Nat → Int) (w : World) (hf : Sm16 f) (hg : Sm16 g) :
    Calls Try.prog 8 #[.agg (arrV .i16 64 f), .agg (arrV .i16 64 g)] w fun e w' => e = .returned (.bool true) ∧ Below w.heap.size w w' := by
  have a1 := (HasArr.new w 23 .i16 64 f).alloc (.cells (arrV .i16 64 g) 23)
  have a2 : HasArr ((w.alloc (.cells (arrV .i16 64 f) 23)).alloc (.cells (arrV .i16 64 g) 23)) (w.heap.size + 1) 23 .i16 64 g := by
    have h := HasArr.new (w.alloc (.cells (arrV .i16 64 f) 23)) 23 .i16 64 g
    simpa using h
  have k0 := ((Below.refl w.heap.size w).alloc (Nat.le_refl _) (.cells (arrV .i16 64 f) 23)).alloc (by simp) (.cells (arrV .i16 64 g) 23)
  have hs : ∀ W, Calls Try.prog 24 #[.agg (arrV .i16 64 f), .agg (arrV .i16 64 g)] W fun e w' => e = .returned (.tuple (grtT f g)) ∧ Below W.heap.size W w' := fun W => specGreatest_any f g hf hg W
  have hi := fun W => GreatestDifference_any f g hf hg W
  clear hf hg
  obtain ⟨X, Y, C, hT⟩ : ∃ X Y C : Int, grtT f g = #[.int .i64 X, .int .i64 Y, .int .i64 C] := by
    unfold grtT
    split
    · exact ⟨_, _, _, rfl⟩
    · exact ⟨_, _, _, rfl⟩
  rw [hT] at hs hi
  clear hT
  have Hs := Lib.hid hs; clear hs
  have Hi := Lib.hid hi; clear hi
  have A1 := Lib.hid a1
  have A2 := Lib.hid a2
  have K0 := Lib.hid k0
  clear a1 a2 k0
  go_enter Try.func8, Try.ntmps8
  go_wp2_with fail
  refine wp_region_quietD (Below _ ((w.alloc (.cells (arrV .i16 64 f) 23)).alloc (.cells (arrV .i16 64 g) 23))) (by kernel_rfl) (by kernel_rfl) (below_drew1 _) ?_
  have n0 := below_nonempty ((w.alloc (.cells (arrV .i16 64 f) 23)).alloc (.cells (arrV .i16 64 g) 23))
  refine wpQuiet_load_arr (fun W hW => by obtain ⟨x, rfl⟩ := hW; exact A1.out.below x.ok A1.out.lt) 23 (.tmp 2) rfl rfl rfl Try.underlying23 sizeA64 ?_
  quiet_step ((go_at_call 13; exact inCall _ (toPrint_16 _ _)))
  refine wpQuiet_load_arr (fun W hW => by obtain ⟨x, rfl⟩ := hW; exact A2.out.below x.ok A2.out.lt) 23 (.tmp 3) rfl rfl rfl Try.underlying23 sizeA64 ?_
  quiet_step ((go_at_call 13; exact inCall _ (toPrint_16 _ _)))
  quiet_step ((go_at_call 24; exact inCall _ (Hs.out _)))
  go_big_quiet_step (fail)
  refine wpQuiet_yield (.int .i64 X) rfl (fun _ => rfl) ?_
  refine wpQuiet_yield (.int .i64 Y) rfl (fun _ => rfl) ?_
  refine wpQuiet_yield (.int .i64 C) rfl (fun _ => rfl) ?_
  refine wpQuiet_yield (.int .i64 X) rfl (fun _ => rfl) ?_
  refine wpQuiet_yield (.int .i64 Y) rfl (fun _ => rfl) ?_
  refine wpQuiet_yield (.int .i64 C) rfl (fun _ => rfl) ?_
  refine wpQuiet_nil ?_
  rintro w2 ⟨⟨w3, hb2⟩, rfl⟩
  have B1 := Lib.hid (A1.out.below hb2 A1.out.lt)
  have B2 := Lib.hid (A2.out.below hb2 A2.out.lt)
  have k1 := K0.out.trans (Below.mono hb2 K0.out.size)
  clear A1 A2 K0 hb2 n0
  go_wp2_with fail
  refine wp_region_quietD (Below w2.heap.size w2) (by kernel_rfl) (by kernel_rfl) (below_drew1 _) ?_
  have n0 := below_nonempty w2
  refine wpQuiet_load_arr (fun W hW => by obtain ⟨x, rfl⟩ := hW; exact B1.out.below x.ok B1.out.lt) 23 (.tmp 2) rfl rfl rfl Try.underlying23 sizeA64 ?_
  quiet_step ((go_at_call 13; exact inCall _ (toPrint_16 _ _)))
  refine wpQuiet_load_arr (fun W hW => by obtain ⟨x, rfl⟩ := hW; exact B2.out.below x.ok B2.out.lt) 23 (.tmp 3) rfl rfl rfl Try.underlying23 sizeA64 ?_
  quiet_step ((go_at_call 13; exact inCall _ (toPrint_16 _ _)))
  quiet_step ((go_at_call 25; exact inCall _ (Hi.out _)))
  go_big_quiet_step (fail)
  refine wpQuiet_yield (.int .i64 X) rfl (fun _ => rfl) ?_
  refine wpQuiet_yield (.int .i64 Y) rfl (fun _ => rfl) ?_
  refine wpQuiet_yield (.int .i64 C) rfl (fun _ => rfl) ?_
  refine wpQuiet_yield (.int .i64 X) rfl (fun _ => rfl) ?_
  refine wpQuiet_yield (.int .i64 Y) rfl (fun _ => rfl) ?_
  refine wpQuiet_yield (.int .i64 C) rfl (fun _ => rfl) ?_
  refine wpQuiet_nil ?_
  rintro w4 ⟨⟨w5, hb4⟩, rfl⟩
  have k2 := k1.trans (Below.mono hb4 k1.size)
  clear B1 B2 k1 hb4 n0
  go_wp2_with fail
  go_ret
  exact ⟨rfl, k2⟩
end Go.Proofs.Ytbpiajnkfccndaa

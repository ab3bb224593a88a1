/-
  An enlarged part of a negative: what the program's functions return. Condition: its variables hold their own errors.
-/
import Derived.Test.YtfnefeaplghgcaaDoorArrange
namespace Go.Proofs.YtfnefeaplghgcaaDoor
open Go.RowKit

/-- The enlarged part, if there is one. -/
def enV (f : Nat → Int) (x y : Int) : Nat → Int := if (dnsB f && (inB x 0 4 && inB y 0 4)) = true then fun k => f (enlP x.toNat y.toNat k) else fun _ => 0

set_option maxRecDepth 100000 in
set_option maxHeartbeats 2000000 in
theorem enlargePart_inv (s : Ers) (f : Nat → Int) (x y : Int) (hv : dnsB f = false) (w : World) (hE : ErrEnv s w) :
    Calls Tryd.prog 26 #[.agg (arrV .i16 64 f), .int .i64 x, .int .i64 y] w (NegOut s w false (fun _ => 0) 1) := by
  have a1 := (((HasArr.new w 26 .i16 64 f).alloc (.cells #[.int .i64 x] 2)).alloc (.cells #[.int .i64 y] 2)).alloc (.cells #[.int .i16 0, .int .i16 0, .int .i16 0, .int .i16 0, .int .i16 0, .int .i16 0, .int .i16 0, .int .i16 0, .int .i16 0, .int .i16 0, .int .i16 0, .int .i16 0, .int .i16 0, .int .i16 0, .int .i16 0, .int .i16 0, .int .i16 0, .int .i16 0, .int .i16 0, .int .i16 0, .int .i16 0, .int .i16 0, .int .i16 0, .int .i16 0, .int .i16 0, .int .i16 0, .int .i16 0, .int .i16 0, .int .i16 0, .int .i16 0, .int .i16 0, .int .i16 0, .int .i16 0, .int .i16 0, .int .i16 0, .int .i16 0, .int .i16 0, .int .i16 0, .int .i16 0, .int .i16 0, .int .i16 0, .int .i16 0, .int .i16 0, .int .i16 0, .int .i16 0, .int .i16 0, .int .i16 0, .int .i16 0, .int .i16 0, .int .i16 0, .int .i16 0, .int .i16 0, .int .i16 0, .int .i16 0, .int .i16 0, .int .i16 0, .int .i16 0, .int .i16 0, .int .i16 0, .int .i16 0, .int .i16 0, .int .i16 0, .int .i16 0, .int .i16 0] 26)
  have a2 := HasArr.zero (((w.alloc (.cells (arrV .i16 64 f) 26)).alloc (.cells #[.int .i64 x] 2)).alloc (.cells #[.int .i64 y] 2)) 26 (b := w.heap.size + 1 + 1 + 1) (by simp)
  have k0 := ((((Below.refl w.heap.size w).alloc (Nat.le_refl _) (.cells (arrV .i16 64 f) 26)).alloc (by simp) (.cells #[.int .i64 x] 2)).alloc (by first | (simp; done) | (simp; omega)) (.cells #[.int .i64 y] 2)).alloc (by first | (simp; done) | (simp; omega)) (.cells #[.int .i16 0, .int .i16 0, .int .i16 0, .int .i16 0, .int .i16 0, .int .i16 0, .int .i16 0, .int .i16 0, .int .i16 0, .int .i16 0, .int .i16 0, .int .i16 0, .int .i16 0, .int .i16 0, .int .i16 0, .int .i16 0, .int .i16 0, .int .i16 0, .int .i16 0, .int .i16 0, .int .i16 0, .int .i16 0, .int .i16 0, .int .i16 0, .int .i16 0, .int .i16 0, .int .i16 0, .int .i16 0, .int .i16 0, .int .i16 0, .int .i16 0, .int .i16 0, .int .i16 0, .int .i16 0, .int .i16 0, .int .i16 0, .int .i16 0, .int .i16 0, .int .i16 0, .int .i16 0, .int .i16 0, .int .i16 0, .int .i16 0, .int .i16 0, .int .i16 0, .int .i16 0, .int .i16 0, .int .i16 0, .int .i16 0, .int .i16 0, .int .i16 0, .int .i16 0, .int .i16 0, .int .i16 0, .int .i16 0, .int .i16 0, .int .i16 0, .int .i16 0, .int .i16 0, .int .i16 0, .int .i16 0, .int .i16 0, .int .i16 0, .int .i16 0] 26)
  have x0 : ((((w.alloc (.cells (arrV .i16 64 f) 26)).alloc (.cells #[.int .i64 x] 2)).alloc (.cells #[.int .i64 y] 2)).alloc (.cells #[.int .i16 0, .int .i16 0, .int .i16 0, .int .i16 0, .int .i16 0, .int .i16 0, .int .i16 0, .int .i16 0, .int .i16 0, .int .i16 0, .int .i16 0, .int .i16 0, .int .i16 0, .int .i16 0, .int .i16 0, .int .i16 0, .int .i16 0, .int .i16 0, .int .i16 0, .int .i16 0, .int .i16 0, .int .i16 0, .int .i16 0, .int .i16 0, .int .i16 0, .int .i16 0, .int .i16 0, .int .i16 0, .int .i16 0, .int .i16 0, .int .i16 0, .int .i16 0, .int .i16 0, .int .i16 0, .int .i16 0, .int .i16 0, .int .i16 0, .int .i16 0, .int .i16 0, .int .i16 0, .int .i16 0, .int .i16 0, .int .i16 0, .int .i16 0, .int .i16 0, .int .i16 0, .int .i16 0, .int .i16 0, .int .i16 0, .int .i16 0, .int .i16 0, .int .i16 0, .int .i16 0, .int .i16 0, .int .i16 0, .int .i16 0, .int .i16 0, .int .i16 0, .int .i16 0, .int .i16 0, .int .i16 0, .int .i16 0, .int .i16 0, .int .i16 0] 26)).cell? ⟨w.heap.size + 1, 0, none⟩ = some (.int .i64 x) := by go_simp
  have y0 : ((((w.alloc (.cells (arrV .i16 64 f) 26)).alloc (.cells #[.int .i64 x] 2)).alloc (.cells #[.int .i64 y] 2)).alloc (.cells #[.int .i16 0, .int .i16 0, .int .i16 0, .int .i16 0, .int .i16 0, .int .i16 0, .int .i16 0, .int .i16 0, .int .i16 0, .int .i16 0, .int .i16 0, .int .i16 0, .int .i16 0, .int .i16 0, .int .i16 0, .int .i16 0, .int .i16 0, .int .i16 0, .int .i16 0, .int .i16 0, .int .i16 0, .int .i16 0, .int .i16 0, .int .i16 0, .int .i16 0, .int .i16 0, .int .i16 0, .int .i16 0, .int .i16 0, .int .i16 0, .int .i16 0, .int .i16 0, .int .i16 0, .int .i16 0, .int .i16 0, .int .i16 0, .int .i16 0, .int .i16 0, .int .i16 0, .int .i16 0, .int .i16 0, .int .i16 0, .int .i16 0, .int .i16 0, .int .i16 0, .int .i16 0, .int .i16 0, .int .i16 0, .int .i16 0, .int .i16 0, .int .i16 0, .int .i16 0, .int .i16 0, .int .i16 0, .int .i16 0, .int .i16 0, .int .i16 0, .int .i16 0, .int .i16 0, .int .i16 0, .int .i16 0, .int .i16 0, .int .i16 0, .int .i16 0] 26)).cell? ⟨w.heap.size + 1 + 1, 0, none⟩ = some (.int .i64 y) := by go_simp
  have hlx : w.heap.size + 1 < ((((w.alloc (.cells (arrV .i16 64 f) 26)).alloc (.cells #[.int .i64 x] 2)).alloc (.cells #[.int .i64 y] 2)).alloc (.cells #[.int .i16 0, .int .i16 0, .int .i16 0, .int .i16 0, .int .i16 0, .int .i16 0, .int .i16 0, .int .i16 0, .int .i16 0, .int .i16 0, .int .i16 0, .int .i16 0, .int .i16 0, .int .i16 0, .int .i16 0, .int .i16 0, .int .i16 0, .int .i16 0, .int .i16 0, .int .i16 0, .int .i16 0, .int .i16 0, .int .i16 0, .int .i16 0, .int .i16 0, .int .i16 0, .int .i16 0, .int .i16 0, .int .i16 0, .int .i16 0, .int .i16 0, .int .i16 0, .int .i16 0, .int .i16 0, .int .i16 0, .int .i16 0, .int .i16 0, .int .i16 0, .int .i16 0, .int .i16 0, .int .i16 0, .int .i16 0, .int .i16 0, .int .i16 0, .int .i16 0, .int .i16 0, .int .i16 0, .int .i16 0, .int .i16 0, .int .i16 0, .int .i16 0, .int .i16 0, .int .i16 0, .int .i16 0, .int .i16 0, .int .i16 0, .int .i16 0, .int .i16 0, .int .i16 0, .int .i16 0, .int .i16 0, .int .i16 0, .int .i16 0, .int .i16 0] 26)).heap.size := by first | (simp; done) | (simp; omega)
  have hd := fun W => ValidNegative_any f W
  rw [hv] at hd
  have Hd := Lib.hid hd; clear hd hv
  go_enter Tryd.func26, Tryd.ntmps26
  go_wp2_with (refine wpList_load_arr a1 _ _ rfl rfl rfl Tryd.underlying26 sizeNeg ?_)
  refine (Hd.out _).mono ?_; rintro e w1 ⟨rfl, hb1⟩
  clear Hd
  have b2 := a2.below hb1 a2.lt
  have k1 := k0.trans (hb1.mono k0.size)
  have ce := (hE.below k1 (Nat.le_refl _)).c_einvalid
  have hB := Lib.hid (below_setRow k1.drew (b := w.heap.size + 1 + 1 + 1) (by omega) (arrV .i16 64 fun _ => 0))
  have cg : (w1.drew.setRow (w.heap.size + 1 + 1 + 1) (arrV .i16 64 fun _ => 0)).cell? ⟨0, 0, none⟩ = some (errV s.einvalid) := (hE.below hB.out (Nat.le_refl _)).c_einvalid
  clear a1 a2 k0 hb1 k1 x0 y0
  go_wp2_with fail
  refine wp_region_any (by kernel_rfl) ?_
  refine wpAny_take (i := 0) (v := .agg #[.int .i16 0, .int .i16 0, .int .i16 0, .int .i16 0, .int .i16 0, .int .i16 0, .int .i16 0, .int .i16 0, .int .i16 0, .int .i16 0, .int .i16 0, .int .i16 0, .int .i16 0, .int .i16 0, .int .i16 0, .int .i16 0, .int .i16 0, .int .i16 0, .int .i16 0, .int .i16 0, .int .i16 0, .int .i16 0, .int .i16 0, .int .i16 0, .int .i16 0, .int .i16 0, .int .i16 0, .int .i16 0, .int .i16 0, .int .i16 0, .int .i16 0, .int .i16 0, .int .i16 0, .int .i16 0, .int .i16 0, .int .i16 0, .int .i16 0, .int .i16 0, .int .i16 0, .int .i16 0, .int .i16 0, .int .i16 0, .int .i16 0, .int .i16 0, .int .i16 0, .int .i16 0, .int .i16 0, .int .i16 0, .int .i16 0, .int .i16 0, .int .i16 0, .int .i16 0, .int .i16 0, .int .i16 0, .int .i16 0, .int .i16 0, .int .i16 0, .int .i16 0, .int .i16 0, .int .i16 0, .int .i16 0, .int .i16 0, .int .i16 0, .int .i16 0]) rfl (by kernel_rfl) (by kernel_rfl) (by kernel_rfl) (fun _ _ _ h => h) (Or.inl ⟨by rfl, by intro w; go_simp⟩) ?_
  change wpAny _ _ _ _ _ _ _ (World.drew _)
  refine wpAny_ready (rs := [1, 2]) (by kernel_rfl) (by simp) ?_
  refine AllReady.cons rfl (fun K hK => ?_) (AllReady.cons rfl (fun K hK => ?_) AllReady.nil)
  · go_simp
    refine hK _ _ ?_; clear hK K
    refine wpAny_ready (rs := [2]) (by kernel_rfl) (by simp) ?_
    refine AllReady.cons rfl (fun K hK => ?_) AllReady.nil
    refine step_store_z b2.drew rfl _ _ _ rfl rfl rfl sizeNeg ?_
    refine hK _ _ ?_; clear hK K
    refine wpAny_ready (rs := [3]) (by kernel_rfl) (by simp) ?_
    refine AllReady.cons rfl (fun K hK => ?_) AllReady.nil
    go_simp
    refine hK _ _ ?_; clear hK K
    refine wpAny_done (by kernel_rfl) ?_ _
    go_wp2
    refine bodyPost_ret (v := .tuple #[.agg (arrV .i16 64 (fun _ => 0)), errV s.einvalid]) ?_ rfl ⟨_, _, rfl, .einvalid, rfl, hB.out⟩
    exact results_row_tmp rfl _ _ _ _ _ _ _ rfl (b2.drew.setRow .i16 fun _ => 0) Tryd.underlying26 rfl (by rw [arrV_size]; exact sizeNeg) _ rfl
  · refine step_store_z b2.drew rfl _ _ _ rfl rfl rfl sizeNeg ?_
    refine hK _ _ ?_; clear hK K
    refine wpAny_ready (rs := [1]) (by kernel_rfl) (by simp) ?_
    refine AllReady.cons rfl (fun K hK => ?_) AllReady.nil
    go_simp
    refine hK _ _ ?_; clear hK K
    refine wpAny_ready (rs := [3]) (by kernel_rfl) (by simp) ?_
    refine AllReady.cons rfl (fun K hK => ?_) AllReady.nil
    go_simp
    refine hK _ _ ?_; clear hK K
    refine wpAny_done (by kernel_rfl) ?_ _
    go_wp2
    refine bodyPost_ret (v := .tuple #[.agg (arrV .i16 64 (fun _ => 0)), errV s.einvalid]) ?_ rfl ⟨_, _, rfl, .einvalid, rfl, hB.out⟩
    exact results_row_tmp rfl _ _ _ _ _ _ _ rfl (b2.drew.setRow .i16 fun _ => 0) Tryd.underlying26 rfl (by rw [arrV_size]; exact sizeNeg) _ rfl

set_option maxRecDepth 100000 in
set_option maxHeartbeats 4000000 in
theorem enlargePart_rng (s : Ers) (f : Nat → Int) (x y : Int) (hv : dnsB f = true) (hxy : ¬ (inB x 0 4 = true ∧ inB y 0 4 = true)) (w : World) (hE : ErrEnv s w) :
    Calls Tryd.prog 26 #[.agg (arrV .i16 64 f), .int .i64 x, .int .i64 y] w (NegOut s w false (fun _ => 0) 2) := by
  have a1 := (((HasArr.new w 26 .i16 64 f).alloc (.cells #[.int .i64 x] 2)).alloc (.cells #[.int .i64 y] 2)).alloc (.cells #[.int .i16 0, .int .i16 0, .int .i16 0, .int .i16 0, .int .i16 0, .int .i16 0, .int .i16 0, .int .i16 0, .int .i16 0, .int .i16 0, .int .i16 0, .int .i16 0, .int .i16 0, .int .i16 0, .int .i16 0, .int .i16 0, .int .i16 0, .int .i16 0, .int .i16 0, .int .i16 0, .int .i16 0, .int .i16 0, .int .i16 0, .int .i16 0, .int .i16 0, .int .i16 0, .int .i16 0, .int .i16 0, .int .i16 0, .int .i16 0, .int .i16 0, .int .i16 0, .int .i16 0, .int .i16 0, .int .i16 0, .int .i16 0, .int .i16 0, .int .i16 0, .int .i16 0, .int .i16 0, .int .i16 0, .int .i16 0, .int .i16 0, .int .i16 0, .int .i16 0, .int .i16 0, .int .i16 0, .int .i16 0, .int .i16 0, .int .i16 0, .int .i16 0, .int .i16 0, .int .i16 0, .int .i16 0, .int .i16 0, .int .i16 0, .int .i16 0, .int .i16 0, .int .i16 0, .int .i16 0, .int .i16 0, .int .i16 0, .int .i16 0, .int .i16 0] 26)
  have a2 := HasArr.zero (((w.alloc (.cells (arrV .i16 64 f) 26)).alloc (.cells #[.int .i64 x] 2)).alloc (.cells #[.int .i64 y] 2)) 26 (b := w.heap.size + 1 + 1 + 1) (by simp)
  have k0 := ((((Below.refl w.heap.size w).alloc (Nat.le_refl _) (.cells (arrV .i16 64 f) 26)).alloc (by simp) (.cells #[.int .i64 x] 2)).alloc (by first | (simp; done) | (simp; omega)) (.cells #[.int .i64 y] 2)).alloc (by first | (simp; done) | (simp; omega)) (.cells #[.int .i16 0, .int .i16 0, .int .i16 0, .int .i16 0, .int .i16 0, .int .i16 0, .int .i16 0, .int .i16 0, .int .i16 0, .int .i16 0, .int .i16 0, .int .i16 0, .int .i16 0, .int .i16 0, .int .i16 0, .int .i16 0, .int .i16 0, .int .i16 0, .int .i16 0, .int .i16 0, .int .i16 0, .int .i16 0, .int .i16 0, .int .i16 0, .int .i16 0, .int .i16 0, .int .i16 0, .int .i16 0, .int .i16 0, .int .i16 0, .int .i16 0, .int .i16 0, .int .i16 0, .int .i16 0, .int .i16 0, .int .i16 0, .int .i16 0, .int .i16 0, .int .i16 0, .int .i16 0, .int .i16 0, .int .i16 0, .int .i16 0, .int .i16 0, .int .i16 0, .int .i16 0, .int .i16 0, .int .i16 0, .int .i16 0, .int .i16 0, .int .i16 0, .int .i16 0, .int .i16 0, .int .i16 0, .int .i16 0, .int .i16 0, .int .i16 0, .int .i16 0, .int .i16 0, .int .i16 0, .int .i16 0, .int .i16 0, .int .i16 0, .int .i16 0] 26)
  have x0 : ((((w.alloc (.cells (arrV .i16 64 f) 26)).alloc (.cells #[.int .i64 x] 2)).alloc (.cells #[.int .i64 y] 2)).alloc (.cells #[.int .i16 0, .int .i16 0, .int .i16 0, .int .i16 0, .int .i16 0, .int .i16 0, .int .i16 0, .int .i16 0, .int .i16 0, .int .i16 0, .int .i16 0, .int .i16 0, .int .i16 0, .int .i16 0, .int .i16 0, .int .i16 0, .int .i16 0, .int .i16 0, .int .i16 0, .int .i16 0, .int .i16 0, .int .i16 0, .int .i16 0, .int .i16 0, .int .i16 0, .int .i16 0, .int .i16 0, .int .i16 0, .int .i16 0, .int .i16 0, .int .i16 0, .int .i16 0, .int .i16 0, .int .i16 0, .int .i16 0, .int .i16 0, .int .i16 0, .int .i16 0, .int .i16 0, .int .i16 0, .int .i16 0, .int .i16 0, .int .i16 0, .int .i16 0, .int .i16 0, .int .i16 0, .int .i16 0, .int .i16 0, .int .i16 0, .int .i16 0, .int .i16 0, .int .i16 0, .int .i16 0, .int .i16 0, .int .i16 0, .int .i16 0, .int .i16 0, .int .i16 0, .int .i16 0, .int .i16 0, .int .i16 0, .int .i16 0, .int .i16 0, .int .i16 0] 26)).cell? ⟨w.heap.size + 1, 0, none⟩ = some (.int .i64 x) := by go_simp
  have y0 : ((((w.alloc (.cells (arrV .i16 64 f) 26)).alloc (.cells #[.int .i64 x] 2)).alloc (.cells #[.int .i64 y] 2)).alloc (.cells #[.int .i16 0, .int .i16 0, .int .i16 0, .int .i16 0, .int .i16 0, .int .i16 0, .int .i16 0, .int .i16 0, .int .i16 0, .int .i16 0, .int .i16 0, .int .i16 0, .int .i16 0, .int .i16 0, .int .i16 0, .int .i16 0, .int .i16 0, .int .i16 0, .int .i16 0, .int .i16 0, .int .i16 0, .int .i16 0, .int .i16 0, .int .i16 0, .int .i16 0, .int .i16 0, .int .i16 0, .int .i16 0, .int .i16 0, .int .i16 0, .int .i16 0, .int .i16 0, .int .i16 0, .int .i16 0, .int .i16 0, .int .i16 0, .int .i16 0, .int .i16 0, .int .i16 0, .int .i16 0, .int .i16 0, .int .i16 0, .int .i16 0, .int .i16 0, .int .i16 0, .int .i16 0, .int .i16 0, .int .i16 0, .int .i16 0, .int .i16 0, .int .i16 0, .int .i16 0, .int .i16 0, .int .i16 0, .int .i16 0, .int .i16 0, .int .i16 0, .int .i16 0, .int .i16 0, .int .i16 0, .int .i16 0, .int .i16 0, .int .i16 0, .int .i16 0] 26)).cell? ⟨w.heap.size + 1 + 1, 0, none⟩ = some (.int .i64 y) := by go_simp
  have hlx : w.heap.size + 1 < ((((w.alloc (.cells (arrV .i16 64 f) 26)).alloc (.cells #[.int .i64 x] 2)).alloc (.cells #[.int .i64 y] 2)).alloc (.cells #[.int .i16 0, .int .i16 0, .int .i16 0, .int .i16 0, .int .i16 0, .int .i16 0, .int .i16 0, .int .i16 0, .int .i16 0, .int .i16 0, .int .i16 0, .int .i16 0, .int .i16 0, .int .i16 0, .int .i16 0, .int .i16 0, .int .i16 0, .int .i16 0, .int .i16 0, .int .i16 0, .int .i16 0, .int .i16 0, .int .i16 0, .int .i16 0, .int .i16 0, .int .i16 0, .int .i16 0, .int .i16 0, .int .i16 0, .int .i16 0, .int .i16 0, .int .i16 0, .int .i16 0, .int .i16 0, .int .i16 0, .int .i16 0, .int .i16 0, .int .i16 0, .int .i16 0, .int .i16 0, .int .i16 0, .int .i16 0, .int .i16 0, .int .i16 0, .int .i16 0, .int .i16 0, .int .i16 0, .int .i16 0, .int .i16 0, .int .i16 0, .int .i16 0, .int .i16 0, .int .i16 0, .int .i16 0, .int .i16 0, .int .i16 0, .int .i16 0, .int .i16 0, .int .i16 0, .int .i16 0, .int .i16 0, .int .i16 0, .int .i16 0, .int .i16 0] 26)).heap.size := by first | (simp; done) | (simp; omega)
  have hd := fun W => ValidNegative_any f W
  rw [hv] at hd
  have hx := fun W => inRange_any x 0 4 W
  have hy := fun W => inRange_any y 0 4 W
  have Hd := Lib.hid hd; clear hd hv
  rcases hvx : inB x 0 4 with _ | _ <;> rcases hvy : inB y 0 4 with _ | _
  rotate_right
  · exact absurd ⟨hvx, hvy⟩ hxy
  all_goals
    rw [hvx] at hx
    rw [hvy] at hy
    have Hx := Lib.hid hx; clear hx
    have Hy := Lib.hid hy; clear hy
    clear hvx hvy hxy
    go_enter Tryd.func26, Tryd.ntmps26
    go_wp2_with (refine wpList_load_arr a1 _ _ rfl rfl rfl Tryd.underlying26 sizeNeg ?_)
    refine (Hd.out _).mono ?_; rintro e w1 ⟨rfl, hb1⟩
    clear Hd
    have b2 := a2.below hb1 a2.lt
    have k1 := k0.trans (hb1.mono k0.size)
    have x1 := below_cellOf hb1 x0 (Nat.le_refl _)
    have y1 := below_cellOf hb1 y0 (Nat.le_refl _)
    have ce := (hE.below k1 (Nat.le_refl _)).c_erange
    have hB := Lib.hid (below_setRow k1.drew (b := w.heap.size + 1 + 1 + 1) (by omega) (arrV .i16 64 fun _ => 0))
    have cg : (w1.drew.setRow (w.heap.size + 1 + 1 + 1) (arrV .i16 64 fun _ => 0)).cell? ⟨1, 0, none⟩ = some (errV s.erange) := (hE.below hB.out (Nat.le_refl _)).c_erange
    clear a1 a2 k0 hb1 k1 x0 y0 hlx
    go_wp2_with (go_at_call 41; (first | (with_reducible refine (Hx.out _).mono ?_) | (with_reducible refine (Hy.out _).mono ?_)); rintro e w' ⟨rfl, rfl⟩)
    refine wp_region_any (by kernel_rfl) ?_
    refine wpAny_take (i := 0) (v := .agg #[.int .i16 0, .int .i16 0, .int .i16 0, .int .i16 0, .int .i16 0, .int .i16 0, .int .i16 0, .int .i16 0, .int .i16 0, .int .i16 0, .int .i16 0, .int .i16 0, .int .i16 0, .int .i16 0, .int .i16 0, .int .i16 0, .int .i16 0, .int .i16 0, .int .i16 0, .int .i16 0, .int .i16 0, .int .i16 0, .int .i16 0, .int .i16 0, .int .i16 0, .int .i16 0, .int .i16 0, .int .i16 0, .int .i16 0, .int .i16 0, .int .i16 0, .int .i16 0, .int .i16 0, .int .i16 0, .int .i16 0, .int .i16 0, .int .i16 0, .int .i16 0, .int .i16 0, .int .i16 0, .int .i16 0, .int .i16 0, .int .i16 0, .int .i16 0, .int .i16 0, .int .i16 0, .int .i16 0, .int .i16 0, .int .i16 0, .int .i16 0, .int .i16 0, .int .i16 0, .int .i16 0, .int .i16 0, .int .i16 0, .int .i16 0, .int .i16 0, .int .i16 0, .int .i16 0, .int .i16 0, .int .i16 0, .int .i16 0, .int .i16 0, .int .i16 0]) rfl (by kernel_rfl) (by kernel_rfl) (by kernel_rfl) (fun _ _ _ h => h) (Or.inl ⟨by rfl, by intro w; go_simp⟩) ?_
    change wpAny _ _ _ _ _ _ _ (World.drew _)
    refine wpAny_ready (rs := [1, 2]) (by kernel_rfl) (by simp) ?_
    refine AllReady.cons rfl (fun K hK => ?_) (AllReady.cons rfl (fun K hK => ?_) AllReady.nil)
    · go_simp
      refine hK _ _ ?_; clear hK K
      refine wpAny_ready (rs := [2]) (by kernel_rfl) (by simp) ?_
      refine AllReady.cons rfl (fun K hK => ?_) AllReady.nil
      refine step_store_z b2.drew rfl _ _ _ rfl rfl rfl sizeNeg ?_
      refine hK _ _ ?_; clear hK K
      refine wpAny_ready (rs := [3]) (by kernel_rfl) (by simp) ?_
      refine AllReady.cons rfl (fun K hK => ?_) AllReady.nil
      go_simp
      refine hK _ _ ?_; clear hK K
      refine wpAny_done (by kernel_rfl) ?_ _
      go_wp2
      refine bodyPost_ret (v := .tuple #[.agg (arrV .i16 64 (fun _ => 0)), errV s.erange]) ?_ rfl ⟨_, _, rfl, .erange, rfl, hB.out⟩
      exact results_row_tmp rfl _ _ _ _ _ _ _ rfl (b2.drew.setRow .i16 fun _ => 0) Tryd.underlying26 rfl (by rw [arrV_size]; exact sizeNeg) _ rfl
    · refine step_store_z b2.drew rfl _ _ _ rfl rfl rfl sizeNeg ?_
      refine hK _ _ ?_; clear hK K
      refine wpAny_ready (rs := [1]) (by kernel_rfl) (by simp) ?_
      refine AllReady.cons rfl (fun K hK => ?_) AllReady.nil
      go_simp
      refine hK _ _ ?_; clear hK K
      refine wpAny_ready (rs := [3]) (by kernel_rfl) (by simp) ?_
      refine AllReady.cons rfl (fun K hK => ?_) AllReady.nil
      go_simp
      refine hK _ _ ?_; clear hK K
      refine wpAny_done (by kernel_rfl) ?_ _
      go_wp2
      refine bodyPost_ret (v := .tuple #[.agg (arrV .i16 64 (fun _ => 0)), errV s.erange]) ?_ rfl ⟨_, _, rfl, .erange, rfl, hB.out⟩
      exact results_row_tmp rfl _ _ _ _ _ _ _ rfl (b2.drew.setRow .i16 fun _ => 0) Tryd.underlying26 rfl (by rw [arrV_size]; exact sizeNeg) _ rfl

set_option maxRecDepth 100000 in
set_option maxHeartbeats 4000000 in
theorem enlargePart_yes (s : Ers) (f : Nat → Int) (X Y : Nat) (hX : X ≤ 4) (hY : Y ≤ 4) (hv : dnsB f = true) (w : World) (hE : ErrEnv s w) :
    Calls Tryd.prog 26 #[.agg (arrV .i16 64 f), .int .i64 X, .int .i64 Y] w (NegOut s w true (fun k => f (enlP X Y k)) 0) := by
  obtain ⟨x, hx0⟩ : ∃ x : Int, x = (X : Int) := ⟨_, rfl⟩
  obtain ⟨y, hy0⟩ : ∃ y : Int, y = (Y : Int) := ⟨_, rfl⟩
  have hp : ∀ k : Nat, k < 64 → enlP X Y k < 64 ∧ (0 ≤ x + (k : Int) % 8 * 4 / 8 ∧ x + (k : Int) % 8 * 4 / 8 ≤ 7) ∧ (0 ≤ y + (k : Int) / 8 * 4 / 8 ∧ y + (k : Int) / 8 * 4 / 8 ≤ 7) ∧ x + (k : Int) % 8 * 4 / 8 + 8 * (y + (k : Int) / 8 * 4 / 8) = (enlP X Y k : Int) := by
    intro k hk
    subst hx0 hy0
    exact ⟨enlP_lt hX hY hk, by omega, by omega, by unfold enlP; omega⟩
  have bx0 : 0 ≤ x := by omega
  have bx4 : x ≤ 4 := by omega
  have by0 : 0 ≤ y := by omega
  have by4 : y ≤ 4 := by omega
  rw [← hx0, ← hy0]
  clear hx0 hy0
  have a1 := (((HasArr.new w 26 .i16 64 f).alloc (.cells #[.int .i64 x] 2)).alloc (.cells #[.int .i64 y] 2)).alloc (.cells #[.int .i16 0, .int .i16 0, .int .i16 0, .int .i16 0, .int .i16 0, .int .i16 0, .int .i16 0, .int .i16 0, .int .i16 0, .int .i16 0, .int .i16 0, .int .i16 0, .int .i16 0, .int .i16 0, .int .i16 0, .int .i16 0, .int .i16 0, .int .i16 0, .int .i16 0, .int .i16 0, .int .i16 0, .int .i16 0, .int .i16 0, .int .i16 0, .int .i16 0, .int .i16 0, .int .i16 0, .int .i16 0, .int .i16 0, .int .i16 0, .int .i16 0, .int .i16 0, .int .i16 0, .int .i16 0, .int .i16 0, .int .i16 0, .int .i16 0, .int .i16 0, .int .i16 0, .int .i16 0, .int .i16 0, .int .i16 0, .int .i16 0, .int .i16 0, .int .i16 0, .int .i16 0, .int .i16 0, .int .i16 0, .int .i16 0, .int .i16 0, .int .i16 0, .int .i16 0, .int .i16 0, .int .i16 0, .int .i16 0, .int .i16 0, .int .i16 0, .int .i16 0, .int .i16 0, .int .i16 0, .int .i16 0, .int .i16 0, .int .i16 0, .int .i16 0] 26)
  have a2 := HasArr.zero (((w.alloc (.cells (arrV .i16 64 f) 26)).alloc (.cells #[.int .i64 x] 2)).alloc (.cells #[.int .i64 y] 2)) 26 (b := w.heap.size + 1 + 1 + 1) (by simp)
  have k0 := ((((Below.refl w.heap.size w).alloc (Nat.le_refl _) (.cells (arrV .i16 64 f) 26)).alloc (by simp) (.cells #[.int .i64 x] 2)).alloc (by first | (simp; done) | (simp; omega)) (.cells #[.int .i64 y] 2)).alloc (by first | (simp; done) | (simp; omega)) (.cells #[.int .i16 0, .int .i16 0, .int .i16 0, .int .i16 0, .int .i16 0, .int .i16 0, .int .i16 0, .int .i16 0, .int .i16 0, .int .i16 0, .int .i16 0, .int .i16 0, .int .i16 0, .int .i16 0, .int .i16 0, .int .i16 0, .int .i16 0, .int .i16 0, .int .i16 0, .int .i16 0, .int .i16 0, .int .i16 0, .int .i16 0, .int .i16 0, .int .i16 0, .int .i16 0, .int .i16 0, .int .i16 0, .int .i16 0, .int .i16 0, .int .i16 0, .int .i16 0, .int .i16 0, .int .i16 0, .int .i16 0, .int .i16 0, .int .i16 0, .int .i16 0, .int .i16 0, .int .i16 0, .int .i16 0, .int .i16 0, .int .i16 0, .int .i16 0, .int .i16 0, .int .i16 0, .int .i16 0, .int .i16 0, .int .i16 0, .int .i16 0, .int .i16 0, .int .i16 0, .int .i16 0, .int .i16 0, .int .i16 0, .int .i16 0, .int .i16 0, .int .i16 0, .int .i16 0, .int .i16 0, .int .i16 0, .int .i16 0, .int .i16 0, .int .i16 0] 26)
  have x0 : ((((w.alloc (.cells (arrV .i16 64 f) 26)).alloc (.cells #[.int .i64 x] 2)).alloc (.cells #[.int .i64 y] 2)).alloc (.cells #[.int .i16 0, .int .i16 0, .int .i16 0, .int .i16 0, .int .i16 0, .int .i16 0, .int .i16 0, .int .i16 0, .int .i16 0, .int .i16 0, .int .i16 0, .int .i16 0, .int .i16 0, .int .i16 0, .int .i16 0, .int .i16 0, .int .i16 0, .int .i16 0, .int .i16 0, .int .i16 0, .int .i16 0, .int .i16 0, .int .i16 0, .int .i16 0, .int .i16 0, .int .i16 0, .int .i16 0, .int .i16 0, .int .i16 0, .int .i16 0, .int .i16 0, .int .i16 0, .int .i16 0, .int .i16 0, .int .i16 0, .int .i16 0, .int .i16 0, .int .i16 0, .int .i16 0, .int .i16 0, .int .i16 0, .int .i16 0, .int .i16 0, .int .i16 0, .int .i16 0, .int .i16 0, .int .i16 0, .int .i16 0, .int .i16 0, .int .i16 0, .int .i16 0, .int .i16 0, .int .i16 0, .int .i16 0, .int .i16 0, .int .i16 0, .int .i16 0, .int .i16 0, .int .i16 0, .int .i16 0, .int .i16 0, .int .i16 0, .int .i16 0, .int .i16 0] 26)).cell? ⟨w.heap.size + 1, 0, none⟩ = some (.int .i64 x) := by go_simp
  have y0 : ((((w.alloc (.cells (arrV .i16 64 f) 26)).alloc (.cells #[.int .i64 x] 2)).alloc (.cells #[.int .i64 y] 2)).alloc (.cells #[.int .i16 0, .int .i16 0, .int .i16 0, .int .i16 0, .int .i16 0, .int .i16 0, .int .i16 0, .int .i16 0, .int .i16 0, .int .i16 0, .int .i16 0, .int .i16 0, .int .i16 0, .int .i16 0, .int .i16 0, .int .i16 0, .int .i16 0, .int .i16 0, .int .i16 0, .int .i16 0, .int .i16 0, .int .i16 0, .int .i16 0, .int .i16 0, .int .i16 0, .int .i16 0, .int .i16 0, .int .i16 0, .int .i16 0, .int .i16 0, .int .i16 0, .int .i16 0, .int .i16 0, .int .i16 0, .int .i16 0, .int .i16 0, .int .i16 0, .int .i16 0, .int .i16 0, .int .i16 0, .int .i16 0, .int .i16 0, .int .i16 0, .int .i16 0, .int .i16 0, .int .i16 0, .int .i16 0, .int .i16 0, .int .i16 0, .int .i16 0, .int .i16 0, .int .i16 0, .int .i16 0, .int .i16 0, .int .i16 0, .int .i16 0, .int .i16 0, .int .i16 0, .int .i16 0, .int .i16 0, .int .i16 0, .int .i16 0, .int .i16 0, .int .i16 0] 26)).cell? ⟨w.heap.size + 1 + 1, 0, none⟩ = some (.int .i64 y) := by go_simp
  have hlx : w.heap.size + 1 < ((((w.alloc (.cells (arrV .i16 64 f) 26)).alloc (.cells #[.int .i64 x] 2)).alloc (.cells #[.int .i64 y] 2)).alloc (.cells #[.int .i16 0, .int .i16 0, .int .i16 0, .int .i16 0, .int .i16 0, .int .i16 0, .int .i16 0, .int .i16 0, .int .i16 0, .int .i16 0, .int .i16 0, .int .i16 0, .int .i16 0, .int .i16 0, .int .i16 0, .int .i16 0, .int .i16 0, .int .i16 0, .int .i16 0, .int .i16 0, .int .i16 0, .int .i16 0, .int .i16 0, .int .i16 0, .int .i16 0, .int .i16 0, .int .i16 0, .int .i16 0, .int .i16 0, .int .i16 0, .int .i16 0, .int .i16 0, .int .i16 0, .int .i16 0, .int .i16 0, .int .i16 0, .int .i16 0, .int .i16 0, .int .i16 0, .int .i16 0, .int .i16 0, .int .i16 0, .int .i16 0, .int .i16 0, .int .i16 0, .int .i16 0, .int .i16 0, .int .i16 0, .int .i16 0, .int .i16 0, .int .i16 0, .int .i16 0, .int .i16 0, .int .i16 0, .int .i16 0, .int .i16 0, .int .i16 0, .int .i16 0, .int .i16 0, .int .i16 0, .int .i16 0, .int .i16 0, .int .i16 0, .int .i16 0] 26)).heap.size := by first | (simp; done) | (simp; omega)
  have hd := fun W => ValidNegative_any f W
  rw [hv] at hd
  have har := fun W hW h => arrangedNeg_enlargePart s f (enlP X Y) (fun k => x + (k : Int) % 8 * 4 / 8) (fun k => y + (k : Int) / 8 * 4 / 8) (w.heap.size + 1) (w.heap.size + 1 + 1) W hW hp h
  rw [hv] at har
  have Har := Lib.hid har; clear har hp
  have hx := fun W => inRange_any x 0 4 W
  have hy := fun W => inRange_any y 0 4 W
  rw [inB_true.2 ⟨bx0, bx4⟩] at hx
  rw [inB_true.2 ⟨by0, by4⟩] at hy
  have Hx := Lib.hid hx; clear hx
  have Hy := Lib.hid hy; clear hy
  have Hd := Lib.hid hd; clear hd hv
  go_enter Tryd.func26, Tryd.ntmps26
  go_wp2_with (refine wpList_load_arr a1 _ _ rfl rfl rfl Tryd.underlying26 sizeNeg ?_)
  refine (Hd.out _).mono ?_; rintro e w1 ⟨rfl, hb1⟩
  clear Hd
  have b1 := a1.below hb1 a1.lt
  have b2 := a2.below hb1 a2.lt
  have k1 := k0.trans (hb1.mono k0.size)
  have x1 := below_cellOf hb1 x0 (Nat.le_refl _)
  have y1 := below_cellOf hb1 y0 (Nat.le_refl _)
  have hl1 := hb1.size
  have X1 := Lib.hid x1
  have Y1 := Lib.hid y1
  clear a1 a2 k0 hb1 x0 y0
  go_wp2_with (first | (refine wpList_load_arr b1 _ _ rfl rfl rfl Tryd.underlying26 sizeNeg ?_) | (go_at_call 41; (first | (with_reducible refine (Hx.out _).mono ?_) | (with_reducible refine (Hy.out _).mono ?_)); rintro e w' ⟨rfl, rfl⟩))
  refine (Har.out _ (hE.below k1 (Nat.le_refl _)) (fun k hk W hW => enlarge1_any _ _ x y (by omega) (by omega) (by omega) (by omega) bx0 bx4 by0 by4 _ _ W (below_cellOf hW X1.out (Nat.le_refl _)) (below_cellOf hW Y1.out (Nat.le_refl _)))).mono ?_; rintro e w2 ⟨h, v, rfl, hv, hh, hb2⟩
  obtain rfl : v = .nilIface := by cases hv; rfl
  have HH := Lib.hid hh; clear hh Har X1 Y1
  have c2 := b2.below hb2 b2.lt
  have k2 := k1.trans (hb2.mono k1.size)
  clear b1 b2 k1 hb2 hv
  go_wp2_with (refine wpList_store_arr c2 _ _ _ rfl rfl rfl rfl sizeNeg ?_)
  refine bodyPost_ret (v := .tuple #[.agg (arrV .i16 64 h), .nilIface]) ?_ rfl ⟨_, _, rfl, .ok, HH.out, below_setRow k2 (by omega) _⟩
  exact results_row_tmp rfl _ _ _ _ _ _ _ rfl (c2.setRow .i16 h) Tryd.underlying26 rfl (by rw [arrV_size]; exact sizeNeg) _ rfl

theorem enlargePart_any (s : Ers) (f : Nat → Int) (x y : Int) (w : World) (hE : ErrEnv s w) :
    Calls Tryd.prog 26 #[.agg (arrV .i16 64 f), .int .i64 x, .int .i64 y] w (NegOut s w true (enV f x y) (enC (dnsB f) (inB x 0 4) (inB y 0 4))) := by
  rcases hv : dnsB f with _ | _
  · refine (enlargePart_inv s f x y hv w hE).mono ?_
    rintro e w' ⟨h, v, he, hc, hh, hb⟩
    exact ⟨h, v, he, hc, by rw [hh, enV, hv]; rfl, hb⟩
  · by_cases h : inB x 0 4 = true ∧ inB y 0 4 = true
    · obtain ⟨hx, hy⟩ := h
      have bx := inB_true.1 hx
      have bY := inB_true.1 hy
      have h := enlargePart_yes s f x.toNat y.toNat (by omega) (by omega) hv w hE
      rw [show ((x.toNat : Nat) : Int) = x by omega, show ((y.toNat : Nat) : Int) = y by omega] at h
      refine h.mono ?_
      rintro e w' ⟨h, v, he, hc, hh, hb⟩
      exact ⟨h, v, he, by rw [hx, hy]; exact hc, by rw [hh, enV, hv, hx, hy]; rfl, hb⟩
    · refine (enlargePart_rng s f x y hv h w hE).mono ?_
      rintro e w' ⟨g, v, he, hc, hh, hb⟩
      have hn : ¬ (inB x 0 4 && inB y 0 4) = true := by simpa [Bool.and_eq_true] using h
      exact ⟨g, v, he, by unfold enC; rw [if_pos rfl, if_neg hn]; exact hc, by rw [hh, enV, hv, Bool.true_and, if_neg hn]; rfl, hb⟩

set_option maxRecDepth 100000 in
set_option maxHeartbeats 2000000 in
theorem EnlargePart_any (s : Ers) (f : Nat → Int) (x y : Int) (w : World) (hE : ErrEnv s w) :
    Calls Tryd.prog 11 #[.agg (arrV .i16 64 f), .int .i64 x, .int .i64 y] w fun e w' => e = .returned (.tuple #[.agg (arrV .i16 64 (enV f x y)), .int .i64 (enC (dnsB f) (inB x 0 4) (inB y 0 4))]) ∧ Below w.heap.size w w' := by
  have a1 := (HasArr.new w 26 .i16 64 f).alloc (.cells #[.int .i16 0, .int .i16 0, .int .i16 0, .int .i16 0, .int .i16 0, .int .i16 0, .int .i16 0, .int .i16 0, .int .i16 0, .int .i16 0, .int .i16 0, .int .i16 0, .int .i16 0, .int .i16 0, .int .i16 0, .int .i16 0, .int .i16 0, .int .i16 0, .int .i16 0, .int .i16 0, .int .i16 0, .int .i16 0, .int .i16 0, .int .i16 0, .int .i16 0, .int .i16 0, .int .i16 0, .int .i16 0, .int .i16 0, .int .i16 0, .int .i16 0, .int .i16 0, .int .i16 0, .int .i16 0, .int .i16 0, .int .i16 0, .int .i16 0, .int .i16 0, .int .i16 0, .int .i16 0, .int .i16 0, .int .i16 0, .int .i16 0, .int .i16 0, .int .i16 0, .int .i16 0, .int .i16 0, .int .i16 0, .int .i16 0, .int .i16 0, .int .i16 0, .int .i16 0, .int .i16 0, .int .i16 0, .int .i16 0, .int .i16 0, .int .i16 0, .int .i16 0, .int .i16 0, .int .i16 0, .int .i16 0, .int .i16 0, .int .i16 0, .int .i16 0] 26)
  have a2 := HasArr.zero (w.alloc (.cells (arrV .i16 64 f) 26)) 26 (b := w.heap.size + 1) (by simp)
  have k0 := ((Below.refl w.heap.size w).alloc (Nat.le_refl _) (.cells (arrV .i16 64 f) 26)).alloc (by simp) (.cells #[.int .i16 0, .int .i16 0, .int .i16 0, .int .i16 0, .int .i16 0, .int .i16 0, .int .i16 0, .int .i16 0, .int .i16 0, .int .i16 0, .int .i16 0, .int .i16 0, .int .i16 0, .int .i16 0, .int .i16 0, .int .i16 0, .int .i16 0, .int .i16 0, .int .i16 0, .int .i16 0, .int .i16 0, .int .i16 0, .int .i16 0, .int .i16 0, .int .i16 0, .int .i16 0, .int .i16 0, .int .i16 0, .int .i16 0, .int .i16 0, .int .i16 0, .int .i16 0, .int .i16 0, .int .i16 0, .int .i16 0, .int .i16 0, .int .i16 0, .int .i16 0, .int .i16 0, .int .i16 0, .int .i16 0, .int .i16 0, .int .i16 0, .int .i16 0, .int .i16 0, .int .i16 0, .int .i16 0, .int .i16 0, .int .i16 0, .int .i16 0, .int .i16 0, .int .i16 0, .int .i16 0, .int .i16 0, .int .i16 0, .int .i16 0, .int .i16 0, .int .i16 0, .int .i16 0, .int .i16 0, .int .i16 0, .int .i16 0, .int .i16 0, .int .i16 0] 26)
  have har := fun W hW => enlargePart_any s f x y W hW
  generalize enC (dnsB f) (inB x 0 4) (inB y 0 4) = C at *
  generalize enV f x y = V at *
  have Har := Lib.hid har; clear har
  go_enter Tryd.func11, Tryd.ntmps11
  go_wp2_with (refine wpList_load_arr a1 _ _ rfl rfl rfl Tryd.underlying26 sizeNeg ?_)
  refine (Har.out _ ((hE.alloc _).alloc _)).mono ?_; rintro e w1 ⟨h, v, rfl, hv, hh, hb1⟩
  have Hh := Lib.hid hh
  clear Har hh
  have b2 := a2.below hb1 a2.lt
  have k1 := k0.trans (hb1.mono k0.size)
  clear a1 a2 k0 hb1
  go_wp2_with fail
  refine (codedNeg_any hv _ _ (hE.below k1 (Nat.le_refl _))).mono ?_; rintro e w2 ⟨rfl, hb2⟩
  have c2 := b2.below hb2 b2.lt
  have k2 := k1.trans (hb2.mono k1.size)
  clear b2 k1 hb2
  go_wp2_with (refine wpList_store_arr c2 _ _ _ rfl rfl rfl rfl sizeNeg ?_)
  refine bodyPost_ret (v := .tuple #[.agg (arrV .i16 64 h), .int .i64 C]) ?_ rfl ⟨by rw [Hh.out]; rfl, below_setRow k2 (by omega) _⟩
  exact results_row_tmp rfl _ _ _ _ _ _ _ rfl (c2.setRow .i16 h) Tryd.underlying26 rfl (by rw [arrV_size]; exact sizeNeg) _ rfl
end Go.Proofs.YtfnefeaplghgcaaDoor

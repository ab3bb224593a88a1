/-
  The program's repair of cells. Condition: its variables hold their own errors, the library's table of de Bruijn what its text lays.
-/
import Derived.Test.YtiinkfnamhcekaaGreatDoorRepE
import Derived.Deep.RegionHeld3
namespace Go.Proofs.YtiinkfnamhcekaaGreatDoor
open Go.RowKit

/-- The cells of an own list of masks. -/
theorem cs_cells {w : World} {L n : Nat} {v : Value} {l : List (BitVec 64)} (h : w.ownsRow L 55 1 v n (csL l)) (hn : l.length = n) : ∃ A cap, v = .slice A n cap ∧ (n = 0 ∨ ∃ g, A = some ⟨g, 0, none⟩ ∧ L ≤ g ∧ g < w.heap.size ∧ ∀ j, j < n → w.cell? ⟨g, j, none⟩ = some (.int .u64 (bvI (l.getD j 0#64)))) := by
  obtain ⟨_, h⟩ := h
  rcases h with ⟨rfl, rfl⟩ | ⟨g, cap, cur, rfl, hb, hh, hn', hm, hs, ht⟩
  · exact ⟨none, 0, rfl, .inl rfl⟩
  · refine ⟨_, cap, rfl, .inr ⟨g, rfl, hb, (Array.getElem?_eq_some_iff.1 hh).1, fun j hj => ?_⟩⟩
    rw [cell_of_row w g j cur 55 (0, 0) hh]
    have h1 : (csL l)[j]? = some (.int .u64 (bvI (l.getD j 0#64))) := by
      have : j < l.length := by omega
      simp [csL, this]
    rw [← ht, Nat.mul_one, List.getElem?_take, if_pos hj] at h1
    simpa using h1
theorem rimL_len (m : BitVec 64) (n : Nat) : (rimL m n).length = n := by simp [rimL]
theorem rimL_at (m : BitVec 64) {n j : Nat} (h : j < n) : (rimL m n).getD j 0#64 = rimB (itR m j) := by simp [rimL, h]

set_option maxRecDepth 100000 in
set_option maxHeartbeats 2000000 in
theorem repairCells_bad (s : Ers) (f : Nat → Int) (hd : dnsB f = false) (m : BitVec 64) (w : World) (hE : ErrEnv s w) :
    Calls Tryz.prog 32 #[.agg (arrV .i16 64 f), .int .u64 (bvI m)] w fun e w' => e = .returned (.tuple #[.agg (arrV .i16 64 fun _ => 0), .int .i64 0, errV s.einvalid]) ∧ Below w.heap.size w w' := by
  have a1 := (HasArr.new w 37 .i16 64 f).alloc (.cells #[.int .i16 0, .int .i16 0, .int .i16 0, .int .i16 0, .int .i16 0, .int .i16 0, .int .i16 0, .int .i16 0, .int .i16 0, .int .i16 0, .int .i16 0, .int .i16 0, .int .i16 0, .int .i16 0, .int .i16 0, .int .i16 0, .int .i16 0, .int .i16 0, .int .i16 0, .int .i16 0, .int .i16 0, .int .i16 0, .int .i16 0, .int .i16 0, .int .i16 0, .int .i16 0, .int .i16 0, .int .i16 0, .int .i16 0, .int .i16 0, .int .i16 0, .int .i16 0, .int .i16 0, .int .i16 0, .int .i16 0, .int .i16 0, .int .i16 0, .int .i16 0, .int .i16 0, .int .i16 0, .int .i16 0, .int .i16 0, .int .i16 0, .int .i16 0, .int .i16 0, .int .i16 0, .int .i16 0, .int .i16 0, .int .i16 0, .int .i16 0, .int .i16 0, .int .i16 0, .int .i16 0, .int .i16 0, .int .i16 0, .int .i16 0, .int .i16 0, .int .i16 0, .int .i16 0, .int .i16 0, .int .i16 0, .int .i16 0, .int .i16 0, .int .i16 0] 37)
  have a2 := HasArr.zero (w.alloc (.cells (arrV .i16 64 f) 37)) 37 (b := w.heap.size + 1) (by simp)
  have k0 := ((Below.refl w.heap.size w).alloc (Nat.le_refl _) (.cells (arrV .i16 64 f) 37)).alloc (by simp) (.cells #[.int .i16 0, .int .i16 0, .int .i16 0, .int .i16 0, .int .i16 0, .int .i16 0, .int .i16 0, .int .i16 0, .int .i16 0, .int .i16 0, .int .i16 0, .int .i16 0, .int .i16 0, .int .i16 0, .int .i16 0, .int .i16 0, .int .i16 0, .int .i16 0, .int .i16 0, .int .i16 0, .int .i16 0, .int .i16 0, .int .i16 0, .int .i16 0, .int .i16 0, .int .i16 0, .int .i16 0, .int .i16 0, .int .i16 0, .int .i16 0, .int .i16 0, .int .i16 0, .int .i16 0, .int .i16 0, .int .i16 0, .int .i16 0, .int .i16 0, .int .i16 0, .int .i16 0, .int .i16 0, .int .i16 0, .int .i16 0, .int .i16 0, .int .i16 0, .int .i16 0, .int .i16 0, .int .i16 0, .int .i16 0, .int .i16 0, .int .i16 0, .int .i16 0, .int .i16 0, .int .i16 0, .int .i16 0, .int .i16 0, .int .i16 0, .int .i16 0, .int .i16 0, .int .i16 0, .int .i16 0, .int .i16 0, .int .i16 0, .int .i16 0, .int .i16 0] 37)
  have hv := fun W => ValidPrint_any f W
  rw [hd] at hv
  have Hv := Lib.hid hv; clear hv hd
  go_enter Tryz.func32, Tryz.ntmps32
  go_wp2_with (refine wpList_load_arr a1 _ _ rfl rfl rfl Tryz.underlying37 sizePrint ?_)
  refine (Hv.out _).mono ?_; rintro e w1 ⟨rfl, hb1⟩
  have b2 := a2.below hb1 a2.lt
  have k1 := k0.trans (hb1.mono k0.size)
  have ce := (hE.below k1 (Nat.le_refl _)).c_einvalid
  clear a1 a2 k0 hb1 Hv
  have B2 := Lib.hid b2; have K1 := Lib.hid k1; clear b2 k1
  go_wp2_with fail
  have hS5 : (w1.drew.setRow (w.heap.size + 1) (arrV .i16 64 fun _ => 0)).cell? ⟨2, 0, none⟩ = some (errV s.einvalid) := (hE.below (below_setRow K1.out.drew (b := w.heap.size + 1) (by omega) (arrV .i16 64 fun _ => 0)) (Nat.le_refl _)).c_einvalid
  clear hE
  refine wp_region_any (by kernel_rfl) ?_
  refine wpAny_take (i := 0) (v := .agg #[.int .i16 0, .int .i16 0, .int .i16 0, .int .i16 0, .int .i16 0, .int .i16 0, .int .i16 0, .int .i16 0, .int .i16 0, .int .i16 0, .int .i16 0, .int .i16 0, .int .i16 0, .int .i16 0, .int .i16 0, .int .i16 0, .int .i16 0, .int .i16 0, .int .i16 0, .int .i16 0, .int .i16 0, .int .i16 0, .int .i16 0, .int .i16 0, .int .i16 0, .int .i16 0, .int .i16 0, .int .i16 0, .int .i16 0, .int .i16 0, .int .i16 0, .int .i16 0, .int .i16 0, .int .i16 0, .int .i16 0, .int .i16 0, .int .i16 0, .int .i16 0, .int .i16 0, .int .i16 0, .int .i16 0, .int .i16 0, .int .i16 0, .int .i16 0, .int .i16 0, .int .i16 0, .int .i16 0, .int .i16 0, .int .i16 0, .int .i16 0, .int .i16 0, .int .i16 0, .int .i16 0, .int .i16 0, .int .i16 0, .int .i16 0, .int .i16 0, .int .i16 0, .int .i16 0, .int .i16 0, .int .i16 0, .int .i16 0, .int .i16 0, .int .i16 0]) rfl (by kernel_rfl) (by kernel_rfl) (by kernel_rfl) (fun _ _ _ h => h) (Or.inl ⟨by rfl, by intro w; go_simp⟩) ?_
  change wpAny _ _ _ _ _ _ _ (World.drew _)
  refine wpAny_ready (rs := [1, 2]) (by kernel_rfl) (by simp) ?_
  refine AllReady.cons rfl (fun K hK => ?_) (AllReady.cons rfl (fun K hK => ?_) AllReady.nil)
  · go_simp
    refine hK _ _ ?_; clear hK K
    refine wpAny_ready (rs := [2]) (by kernel_rfl) (by simp) ?_
    refine AllReady.cons rfl (fun K hK => ?_) AllReady.nil
    refine step_store_z B2.out.drew rfl _ _ _ rfl rfl rfl sizePrint ?_
    refine hK _ _ ?_; clear hK K
    refine wpAny_ready (rs := [3]) (by kernel_rfl) (by simp) ?_
    refine AllReady.cons rfl (fun K hK => ?_) AllReady.nil
    go_simp
    refine hK _ _ ?_; clear hK K
    refine wpAny_ready (rs := [4]) (by kernel_rfl) (by simp) ?_
    refine AllReady.cons rfl (fun K hK => ?_) AllReady.nil
    go_simp
    refine hK _ _ ?_; clear hK K
    refine wpAny_done (by kernel_rfl) ?_ _
    go_wp2
    refine bodyPost_ret (v := .tuple #[.agg (arrV .i16 64 fun _ => 0), .int .i64 0, errV s.einvalid]) ?_ rfl ⟨rfl, below_setRow K1.out.drew (b := w.heap.size + 1) (by omega) _⟩
    exact resultsRowTmp2 rfl _ _ _ _ _ _ _ rfl (B2.out.drew.setRow .i16 fun _ => 0) Tryz.underlying37 rfl (by rw [arrV_size]; exact sizePrint) _ _ rfl rfl
  · refine step_store_z B2.out.drew rfl _ _ _ rfl rfl rfl sizePrint ?_
    refine hK _ _ ?_; clear hK K
    refine wpAny_ready (rs := [1, 3]) (by kernel_rfl) (by simp) ?_
    refine AllReady.cons rfl (fun K hK => ?_) (AllReady.cons rfl (fun K hK => ?_) AllReady.nil)
    · go_simp
      refine hK _ _ ?_; clear hK K
      refine wpAny_ready (rs := [3]) (by kernel_rfl) (by simp) ?_
      refine AllReady.cons rfl (fun K hK => ?_) AllReady.nil
      go_simp
      refine hK _ _ ?_; clear hK K
      refine wpAny_ready (rs := [4]) (by kernel_rfl) (by simp) ?_
      refine AllReady.cons rfl (fun K hK => ?_) AllReady.nil
      go_simp
      refine hK _ _ ?_; clear hK K
      refine wpAny_done (by kernel_rfl) ?_ _
      go_wp2
      refine bodyPost_ret (v := .tuple #[.agg (arrV .i16 64 fun _ => 0), .int .i64 0, errV s.einvalid]) ?_ rfl ⟨rfl, below_setRow K1.out.drew (b := w.heap.size + 1) (by omega) _⟩
      exact resultsRowTmp2 rfl _ _ _ _ _ _ _ rfl (B2.out.drew.setRow .i16 fun _ => 0) Tryz.underlying37 rfl (by rw [arrV_size]; exact sizePrint) _ _ rfl rfl
    · go_simp
      refine hK _ _ ?_; clear hK K
      refine wpAny_ready (rs := [1]) (by kernel_rfl) (by simp) ?_
      refine AllReady.cons rfl (fun K hK => ?_) AllReady.nil
      go_simp
      refine hK _ _ ?_; clear hK K
      refine wpAny_ready (rs := [4]) (by kernel_rfl) (by simp) ?_
      refine AllReady.cons rfl (fun K hK => ?_) AllReady.nil
      go_simp
      refine hK _ _ ?_; clear hK K
      refine wpAny_done (by kernel_rfl) ?_ _
      go_wp2
      refine bodyPost_ret (v := .tuple #[.agg (arrV .i16 64 fun _ => 0), .int .i64 0, errV s.einvalid]) ?_ rfl ⟨rfl, below_setRow K1.out.drew (b := w.heap.size + 1) (by omega) _⟩
      exact resultsRowTmp2 rfl _ _ _ _ _ _ _ rfl (B2.out.drew.setRow .i16 fun _ => 0) Tryz.underlying37 rfl (by rw [arrV_size]; exact sizePrint) _ _ rfl rfl

set_option maxRecDepth 100000 in
set_option maxHeartbeats 2000000 in
theorem repairCells_all (s : Ers) (f : Nat → Int) (hd : dnsB f = true) (w : World) (hE : ErrEnv s w) :
    Calls Tryz.prog 32 #[.agg (arrV .i16 64 f), .int .u64 (bvI 18446744073709551615#64)] w fun e w' => e = .returned (.tuple #[.agg (arrV .i16 64 fun _ => 0), .int .i64 0, errV s.enotfound]) ∧ Below w.heap.size w w' := by
  have a1 := (HasArr.new w 37 .i16 64 f).alloc (.cells #[.int .i16 0, .int .i16 0, .int .i16 0, .int .i16 0, .int .i16 0, .int .i16 0, .int .i16 0, .int .i16 0, .int .i16 0, .int .i16 0, .int .i16 0, .int .i16 0, .int .i16 0, .int .i16 0, .int .i16 0, .int .i16 0, .int .i16 0, .int .i16 0, .int .i16 0, .int .i16 0, .int .i16 0, .int .i16 0, .int .i16 0, .int .i16 0, .int .i16 0, .int .i16 0, .int .i16 0, .int .i16 0, .int .i16 0, .int .i16 0, .int .i16 0, .int .i16 0, .int .i16 0, .int .i16 0, .int .i16 0, .int .i16 0, .int .i16 0, .int .i16 0, .int .i16 0, .int .i16 0, .int .i16 0, .int .i16 0, .int .i16 0, .int .i16 0, .int .i16 0, .int .i16 0, .int .i16 0, .int .i16 0, .int .i16 0, .int .i16 0, .int .i16 0, .int .i16 0, .int .i16 0, .int .i16 0, .int .i16 0, .int .i16 0, .int .i16 0, .int .i16 0, .int .i16 0, .int .i16 0, .int .i16 0, .int .i16 0, .int .i16 0, .int .i16 0] 37)
  have a2 := HasArr.zero (w.alloc (.cells (arrV .i16 64 f) 37)) 37 (b := w.heap.size + 1) (by simp)
  have k0 := ((Below.refl w.heap.size w).alloc (Nat.le_refl _) (.cells (arrV .i16 64 f) 37)).alloc (by simp) (.cells #[.int .i16 0, .int .i16 0, .int .i16 0, .int .i16 0, .int .i16 0, .int .i16 0, .int .i16 0, .int .i16 0, .int .i16 0, .int .i16 0, .int .i16 0, .int .i16 0, .int .i16 0, .int .i16 0, .int .i16 0, .int .i16 0, .int .i16 0, .int .i16 0, .int .i16 0, .int .i16 0, .int .i16 0, .int .i16 0, .int .i16 0, .int .i16 0, .int .i16 0, .int .i16 0, .int .i16 0, .int .i16 0, .int .i16 0, .int .i16 0, .int .i16 0, .int .i16 0, .int .i16 0, .int .i16 0, .int .i16 0, .int .i16 0, .int .i16 0, .int .i16 0, .int .i16 0, .int .i16 0, .int .i16 0, .int .i16 0, .int .i16 0, .int .i16 0, .int .i16 0, .int .i16 0, .int .i16 0, .int .i16 0, .int .i16 0, .int .i16 0, .int .i16 0, .int .i16 0, .int .i16 0, .int .i16 0, .int .i16 0, .int .i16 0, .int .i16 0, .int .i16 0, .int .i16 0, .int .i16 0, .int .i16 0, .int .i16 0, .int .i16 0, .int .i16 0] 37)
  have hv := fun W => ValidPrint_any f W
  rw [hd] at hv
  have Hv := Lib.hid hv; clear hv hd
  go_enter Tryz.func32, Tryz.ntmps32
  go_wp2_with (refine wpList_load_arr a1 _ _ rfl rfl rfl Tryz.underlying37 sizePrint ?_)
  refine (Hv.out _).mono ?_; rintro e w1 ⟨rfl, hb1⟩
  have b2 := a2.below hb1 a2.lt
  have k1 := k0.trans (hb1.mono k0.size)
  have Hr := Lib.hid (rimsOf_all s w1 (hE.below k1 (Nat.le_refl _)))
  clear a1 a2 k0 hb1 Hv hE
  have B2 := Lib.hid b2; have K1 := Lib.hid k1; clear b2 k1
  go_wp2_with fail
  refine Hr.out.mono ?_; rintro e w2 ⟨rfl, hb2⟩
  have b3 := B2.out.below hb2 B2.out.lt
  have k2 := K1.out.trans (hb2.mono K1.out.size)
  go_wp2_with (refine wpList_store_arr (g := fun _ => 0) b3 _ _ _ rfl rfl rfl (by rw [zeroArr16]; rfl) sizePrint ?_)
  refine bodyPost_ret (v := .tuple #[.agg (arrV .i16 64 fun _ => 0), .int .i64 0, errV s.enotfound]) ?_ rfl ⟨rfl, below_setRow k2 (b := w.heap.size + 1) (by omega) _⟩
  exact resultsRowTmp2 rfl _ _ _ _ _ _ _ rfl (b3.setRow .i16 fun _ => 0) Tryz.underlying37 rfl (by rw [arrV_size]; exact sizePrint) _ _ rfl rfl

set_option maxRecDepth 100000 in
set_option maxHeartbeats 4000000 in
theorem repairCells_ok (f : Nat → Int) (hf : S16 f) (hd : dnsB f = true) (m : BitVec 64) (N : Nat) (hN : N ≤ 64) (h0 : itR m N = 0#64) (hi : ∀ i, i < N → itR m i ≠ 0#64) (hm : m ≠ 18446744073709551615#64) (w : World) (hT : DbEnv w) :
    Calls Tryz.prog 32 #[.agg (arrV .i16 64 f), .int .u64 (bvI m)] w fun e w' => e = .returned (.tuple #[.agg (arrV .i16 64 (clF f m N)), .int .i64 (N : Int), .nilIface]) ∧ Below w.heap.size w w' := by
  have a1 := (HasArr.new w 37 .i16 64 f).alloc (.cells #[.int .i16 0, .int .i16 0, .int .i16 0, .int .i16 0, .int .i16 0, .int .i16 0, .int .i16 0, .int .i16 0, .int .i16 0, .int .i16 0, .int .i16 0, .int .i16 0, .int .i16 0, .int .i16 0, .int .i16 0, .int .i16 0, .int .i16 0, .int .i16 0, .int .i16 0, .int .i16 0, .int .i16 0, .int .i16 0, .int .i16 0, .int .i16 0, .int .i16 0, .int .i16 0, .int .i16 0, .int .i16 0, .int .i16 0, .int .i16 0, .int .i16 0, .int .i16 0, .int .i16 0, .int .i16 0, .int .i16 0, .int .i16 0, .int .i16 0, .int .i16 0, .int .i16 0, .int .i16 0, .int .i16 0, .int .i16 0, .int .i16 0, .int .i16 0, .int .i16 0, .int .i16 0, .int .i16 0, .int .i16 0, .int .i16 0, .int .i16 0, .int .i16 0, .int .i16 0, .int .i16 0, .int .i16 0, .int .i16 0, .int .i16 0, .int .i16 0, .int .i16 0, .int .i16 0, .int .i16 0, .int .i16 0, .int .i16 0, .int .i16 0, .int .i16 0] 37)
  have a2 := HasArr.zero (w.alloc (.cells (arrV .i16 64 f) 37)) 37 (b := w.heap.size + 1) (by simp)
  have k0 := ((Below.refl w.heap.size w).alloc (Nat.le_refl _) (.cells (arrV .i16 64 f) 37)).alloc (by simp) (.cells #[.int .i16 0, .int .i16 0, .int .i16 0, .int .i16 0, .int .i16 0, .int .i16 0, .int .i16 0, .int .i16 0, .int .i16 0, .int .i16 0, .int .i16 0, .int .i16 0, .int .i16 0, .int .i16 0, .int .i16 0, .int .i16 0, .int .i16 0, .int .i16 0, .int .i16 0, .int .i16 0, .int .i16 0, .int .i16 0, .int .i16 0, .int .i16 0, .int .i16 0, .int .i16 0, .int .i16 0, .int .i16 0, .int .i16 0, .int .i16 0, .int .i16 0, .int .i16 0, .int .i16 0, .int .i16 0, .int .i16 0, .int .i16 0, .int .i16 0, .int .i16 0, .int .i16 0, .int .i16 0, .int .i16 0, .int .i16 0, .int .i16 0, .int .i16 0, .int .i16 0, .int .i16 0, .int .i16 0, .int .i16 0, .int .i16 0, .int .i16 0, .int .i16 0, .int .i16 0, .int .i16 0, .int .i16 0, .int .i16 0, .int .i16 0, .int .i16 0, .int .i16 0, .int .i16 0, .int .i16 0, .int .i16 0, .int .i16 0, .int .i16 0, .int .i16 0] 37)
  have hv := fun W => ValidPrint_any f W
  rw [hd] at hv
  have Hv := Lib.hid hv; clear hv hd
  have Hr := Lib.hid (fun W => rimsOf_ok m N hN h0 hi hm W)
  have Hp := Lib.hid (fun i W hW => repairedIn_any (clF f m i) (clF_s hf m i) (itR m i) W hW)
  clear h0 hi hm hf
  have HT := Lib.hid hT; clear hT
  go_enter Tryz.func32, Tryz.ntmps32
  go_wp2_with (refine wpList_load_arr a1 _ _ rfl rfl rfl Tryz.underlying37 sizePrint ?_)
  refine (Hv.out _).mono ?_; rintro e w1 ⟨rfl, hb1⟩
  have b1 := a1.below hb1 a1.lt
  have b2 := a2.below hb1 a2.lt
  have k1 := k0.trans (hb1.mono k0.size)
  clear a1 a2 k0 hb1 Hv
  have B1 := Lib.hid b1; have B2 := Lib.hid b2; have K1 := Lib.hid k1; clear b1 b2 k1
  go_wp2_with fail
  refine (Hr.out _).mono ?_; rintro e w2 ⟨v, rfl, ho, hb2⟩
  have b3 := B1.out.below hb2 B1.out.lt
  have b4 := B2.out.below hb2 B2.out.lt
  have k2 := K1.out.trans (hb2.mono K1.out.size)
  obtain ⟨A, cap, rfl, hcs⟩ := cs_cells ho (rimL_len m N)
  have hlt1 := B2.out.lt
  clear ho hb2 B1 B2 K1 Hr
  have z9 := HasArr.zero w2 89 (b := w2.heap.size) rfl
  have b5 := b3.alloc (.cells #[.int .i16 0, .int .i16 0, .int .i16 0, .int .i16 0, .int .i16 0, .int .i16 0, .int .i16 0, .int .i16 0, .int .i16 0, .int .i16 0, .int .i16 0, .int .i16 0, .int .i16 0, .int .i16 0, .int .i16 0, .int .i16 0, .int .i16 0, .int .i16 0, .int .i16 0, .int .i16 0, .int .i16 0, .int .i16 0, .int .i16 0, .int .i16 0, .int .i16 0, .int .i16 0, .int .i16 0, .int .i16 0, .int .i16 0, .int .i16 0, .int .i16 0, .int .i16 0, .int .i16 0, .int .i16 0, .int .i16 0, .int .i16 0, .int .i16 0, .int .i16 0, .int .i16 0, .int .i16 0, .int .i16 0, .int .i16 0, .int .i16 0, .int .i16 0, .int .i16 0, .int .i16 0, .int .i16 0, .int .i16 0, .int .i16 0, .int .i16 0, .int .i16 0, .int .i16 0, .int .i16 0, .int .i16 0, .int .i16 0, .int .i16 0, .int .i16 0, .int .i16 0, .int .i16 0, .int .i16 0, .int .i16 0, .int .i16 0, .int .i16 0, .int .i16 0] 89)
  have b6 := b4.alloc (.cells #[.int .i16 0, .int .i16 0, .int .i16 0, .int .i16 0, .int .i16 0, .int .i16 0, .int .i16 0, .int .i16 0, .int .i16 0, .int .i16 0, .int .i16 0, .int .i16 0, .int .i16 0, .int .i16 0, .int .i16 0, .int .i16 0, .int .i16 0, .int .i16 0, .int .i16 0, .int .i16 0, .int .i16 0, .int .i16 0, .int .i16 0, .int .i16 0, .int .i16 0, .int .i16 0, .int .i16 0, .int .i16 0, .int .i16 0, .int .i16 0, .int .i16 0, .int .i16 0, .int .i16 0, .int .i16 0, .int .i16 0, .int .i16 0, .int .i16 0, .int .i16 0, .int .i16 0, .int .i16 0, .int .i16 0, .int .i16 0, .int .i16 0, .int .i16 0, .int .i16 0, .int .i16 0, .int .i16 0, .int .i16 0, .int .i16 0, .int .i16 0, .int .i16 0, .int .i16 0, .int .i16 0, .int .i16 0, .int .i16 0, .int .i16 0, .int .i16 0, .int .i16 0, .int .i16 0, .int .i16 0, .int .i16 0, .int .i16 0, .int .i16 0, .int .i16 0] 89)
  have k3 := k2.alloc k2.size (.cells #[.int .i16 0, .int .i16 0, .int .i16 0, .int .i16 0, .int .i16 0, .int .i16 0, .int .i16 0, .int .i16 0, .int .i16 0, .int .i16 0, .int .i16 0, .int .i16 0, .int .i16 0, .int .i16 0, .int .i16 0, .int .i16 0, .int .i16 0, .int .i16 0, .int .i16 0, .int .i16 0, .int .i16 0, .int .i16 0, .int .i16 0, .int .i16 0, .int .i16 0, .int .i16 0, .int .i16 0, .int .i16 0, .int .i16 0, .int .i16 0, .int .i16 0, .int .i16 0, .int .i16 0, .int .i16 0, .int .i16 0, .int .i16 0, .int .i16 0, .int .i16 0, .int .i16 0, .int .i16 0, .int .i16 0, .int .i16 0, .int .i16 0, .int .i16 0, .int .i16 0, .int .i16 0, .int .i16 0, .int .i16 0, .int .i16 0, .int .i16 0, .int .i16 0, .int .i16 0, .int .i16 0, .int .i16 0, .int .i16 0, .int .i16 0, .int .i16 0, .int .i16 0, .int .i16 0, .int .i16 0, .int .i16 0, .int .i16 0, .int .i16 0, .int .i16 0] 89)
  have h1b := b3.lt
  have h2b := b4.lt
  go_wp2_with (first
    | (refine wpList_load_arr b3 _ _ rfl rfl rfl Tryz.underlying37 sizePrint ?_)
    | (refine wpList_store_arr z9 _ _ _ rfl rfl rfl rfl sizeCells ?_))
  have b7 := b5.rowOther (b' := w2.heap.size) (by omega) (arrV .i16 64 f)
  have b8 := b6.rowOther (b' := w2.heap.size) (by omega) (arrV .i16 64 f)
  have z8 := z9.setRow .i16 f
  have k4 := below_setRow k3 (b := w2.heap.size) k2.size (arrV .i16 64 f)
  have hc4 : N = 0 ∨ ∃ g, A = some ⟨g, 0, none⟩ ∧ g < w2.heap.size ∧ w.heap.size + 1 < g ∧ ∀ j, j < N → ((w2.alloc (.cells #[.int .i16 0, .int .i16 0, .int .i16 0, .int .i16 0, .int .i16 0, .int .i16 0, .int .i16 0, .int .i16 0, .int .i16 0, .int .i16 0, .int .i16 0, .int .i16 0, .int .i16 0, .int .i16 0, .int .i16 0, .int .i16 0, .int .i16 0, .int .i16 0, .int .i16 0, .int .i16 0, .int .i16 0, .int .i16 0, .int .i16 0, .int .i16 0, .int .i16 0, .int .i16 0, .int .i16 0, .int .i16 0, .int .i16 0, .int .i16 0, .int .i16 0, .int .i16 0, .int .i16 0, .int .i16 0, .int .i16 0, .int .i16 0, .int .i16 0, .int .i16 0, .int .i16 0, .int .i16 0, .int .i16 0, .int .i16 0, .int .i16 0, .int .i16 0, .int .i16 0, .int .i16 0, .int .i16 0, .int .i16 0, .int .i16 0, .int .i16 0, .int .i16 0, .int .i16 0, .int .i16 0, .int .i16 0, .int .i16 0, .int .i16 0, .int .i16 0, .int .i16 0, .int .i16 0, .int .i16 0, .int .i16 0, .int .i16 0, .int .i16 0, .int .i16 0] 89)).setRow w2.heap.size (arrV .i16 64 f)).cell? ⟨g, j, none⟩ = some (.int .u64 (bvI (rimB (itR m j)))) := by
    rcases hcs with h | ⟨g, hA, hg1, hg2, hc⟩
    · exact .inl h
    · refine .inr ⟨g, hA, hg2, by omega, fun j hj => ?_⟩
      have h1 := hc j hj
      rw [rimL_at m hj] at h1
      rw [World.cell?_of_block (a := ⟨g, j, none⟩) (setRow_other _ _ _ _ (show g ≠ w2.heap.size by omega))]
      rw [World.cell?_of_block (a := ⟨g, j, none⟩) (Below.heap_alloc w2 _ g hg2)]
      exact h1
  clear hcs b3 b4 b5 b6 z9 k3
  have s4 : ((w2.alloc (.cells #[.int .i16 0, .int .i16 0, .int .i16 0, .int .i16 0, .int .i16 0, .int .i16 0, .int .i16 0, .int .i16 0, .int .i16 0, .int .i16 0, .int .i16 0, .int .i16 0, .int .i16 0, .int .i16 0, .int .i16 0, .int .i16 0, .int .i16 0, .int .i16 0, .int .i16 0, .int .i16 0, .int .i16 0, .int .i16 0, .int .i16 0, .int .i16 0, .int .i16 0, .int .i16 0, .int .i16 0, .int .i16 0, .int .i16 0, .int .i16 0, .int .i16 0, .int .i16 0, .int .i16 0, .int .i16 0, .int .i16 0, .int .i16 0, .int .i16 0, .int .i16 0, .int .i16 0, .int .i16 0, .int .i16 0, .int .i16 0, .int .i16 0, .int .i16 0, .int .i16 0, .int .i16 0, .int .i16 0, .int .i16 0, .int .i16 0, .int .i16 0, .int .i16 0, .int .i16 0, .int .i16 0, .int .i16 0, .int .i16 0, .int .i16 0, .int .i16 0, .int .i16 0, .int .i16 0, .int .i16 0, .int .i16 0, .int .i16 0, .int .i16 0, .int .i16 0] 89)).setRow w2.heap.size (arrV .i16 64 f)).heap.size = w2.heap.size + 1 := by simp
  generalize ((w2.alloc (.cells #[.int .i16 0, .int .i16 0, .int .i16 0, .int .i16 0, .int .i16 0, .int .i16 0, .int .i16 0, .int .i16 0, .int .i16 0, .int .i16 0, .int .i16 0, .int .i16 0, .int .i16 0, .int .i16 0, .int .i16 0, .int .i16 0, .int .i16 0, .int .i16 0, .int .i16 0, .int .i16 0, .int .i16 0, .int .i16 0, .int .i16 0, .int .i16 0, .int .i16 0, .int .i16 0, .int .i16 0, .int .i16 0, .int .i16 0, .int .i16 0, .int .i16 0, .int .i16 0, .int .i16 0, .int .i16 0, .int .i16 0, .int .i16 0, .int .i16 0, .int .i16 0, .int .i16 0, .int .i16 0, .int .i16 0, .int .i16 0, .int .i16 0, .int .i16 0, .int .i16 0, .int .i16 0, .int .i16 0, .int .i16 0, .int .i16 0, .int .i16 0, .int .i16 0, .int .i16 0, .int .i16 0, .int .i16 0, .int .i16 0, .int .i16 0, .int .i16 0, .int .i16 0, .int .i16 0, .int .i16 0, .int .i16 0, .int .i16 0, .int .i16 0, .int .i16 0] 89)).setRow w2.heap.size (arrV .i16 64 f)) = W3 at *
  obtain ⟨R, hR⟩ : ∃ R, R = w2.heap.size := ⟨_, rfl⟩
  rw [← hR] at z8 hc4 s4 h1b h2b ⊢
  clear hR
  have HC := Lib.hid hc4; clear hc4 hlt1
  have hmm : bvI (itR m 0) = bvI m := rfl
  go_loopw [10, 31] (fun lv iv wr => ∃ i : Nat, i ≤ N ∧ iv = .int .i64 (i : Int) ∧ lv = .int .u64 (bvI (itR m i)) ∧ HasArr wr R 89 .i16 64 (clF f m i) ∧ HasArr wr (w.heap.size + 1) 37 .i16 64 (fun _ => 0) ∧ Hid (N = 0 ∨ ∃ g, A = some ⟨g, 0, none⟩ ∧ g < R ∧ ∀ j, j < N → wr.cell? ⟨g, j, none⟩ = some (.int .u64 (bvI (rimB (itR m j))))) ∧ Below w.heap.size w wr) (fun _ iv _ => N - (intOf iv).toNat)
  case atStart => exact ⟨0, by omega, rfl, rfl, z8, b8, Lib.hid (HC.out.imp id fun ⟨g, h1, h2, _, h3⟩ => ⟨g, h1, h2, h3⟩), k4⟩
  case round =>
    clear z8 b8 b7 k4 HC s4
    obtain ⟨i, hin, rfl, rfl, hz, hq, HC, hB⟩ := hrel
    have hzl := hz.lt
    by_cases hiN : i < N
    · obtain ⟨g, rfl, hg, hc⟩ := HC.out.resolve_left (by omega)
      have c1 := hc i hiN
      have hN2 : (i : Int) < N := by omega
      have hp := Lib.hid (Hp.out i wr (HT.out.below hB))
      have HZ := Lib.hid hz; have HQ := Lib.hid hq; have HB := Lib.hid hB; have HCC := Lib.hid hc; clear hz hq hB hc HC
      have hn2 : Hid (itR m i &&& ~~~rimB (itR m i) = itR m (i + 1)) := Lib.hid rfl
      have hn3 : Hid (nwF (clF f m i) (itR m i) 64 = clF f m (i + 1)) := Lib.hid rfl
      generalize hX : itR m i = X at *
      generalize hG : clF f m i = G at *
      go_wp2_with (refine wpList_load_arr HZ.out 89 (.tmp 9) rfl rfl rfl Tryz.underlying89 sizeCells ?_)
      refine hp.out.mono ?_; rintro e w4 ⟨rfl, hb4⟩
      have z4 := HZ.out.below hb4 HZ.out.lt
      have q4 := HQ.out.below hb4 HQ.out.lt
      have k4 := HB.out.trans (hb4.mono HB.out.size)
      have c4 : Hid (∀ j, j < N → w4.cell? ⟨g, j, none⟩ = some (.int .u64 (bvI (rimB (itR m j))))) := Lib.hid fun j hj => below_cellOf hb4 (HCC.out j hj) (Nat.le_refl _)
      clear hb4 HZ HQ HB HCC c1
      have hn4 := hn3.out
      rw [hn4]
      go_wp2_with (first
        | (refine wpList_store_arr z4 89 (.tmp 9) (.tmp 38) rfl rfl rfl rfl sizeCells ?_)
        | (refine wpList_yield rfl (run_andNot_bv (a := X) (b := rimB X) rfl rfl rfl) ?_))
      go_roundw
      case rel => exact ⟨i + 1, by omega, by go_num, by rw [hn2.out], z4.setRow _ _, q4.rowOther (by omega) _, Lib.hid (.inr ⟨g, rfl, hg, fun j hj => by rw [World.cell?_of_block (a := ⟨g, j, none⟩) (setRow_other _ _ _ _ (show g ≠ R by omega))]; exact c4.out j hj⟩), below_setRow k4 (by omega) _⟩
      case measure => simp [intOf]; omega
    · obtain rfl : i = N := by omega
      have KB := Lib.hid hB; clear hB
      go_wp2_with (first | (refine wpList_load_arr hz _ _ rfl rfl rfl Tryz.underlying89 sizeCells ?_) | (refine wpList_store_arr hq _ _ _ rfl rfl rfl rfl sizePrint ?_))
      refine bodyPost_ret (v := .tuple #[.agg (arrV .i16 64 (clF f m i)), .int .i64 (i : Int), .nilIface]) ?_ rfl ⟨rfl, below_setRow KB.out (by omega) _⟩
      exact resultsRowTmp2 rfl _ _ _ _ _ _ _ rfl (hq.setRow .i16 (clF f m i)) Tryz.underlying37 rfl (by rw [arrV_size]; exact sizePrint) _ _ rfl rfl
end Go.Proofs.YtiinkfnamhcekaaGreatDoor

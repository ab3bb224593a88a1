/-
  The repair of cells, both sides. Condition of the program's: its variables hold their own errors, the library's table of de Bruijn what its text lays.
-/
import Derived.Test.YtiinkfnamhcekaaGreatDoorRepC
namespace Go.Proofs.YtiinkfnamhcekaaGreatDoor
open Go.RowKit

theorem step_load_arrR {P : Program} {ops : Array Oper} {o : Oper} {a : Act} {w : World} {K : Act → World → Prop} {Q : Exit → Act → World → Prop} {E : Prop} {b : Nat} {T : TypeId} {κ : IntKind} {n : Nat} {f : Nat → Int} {m : Nat} {e : TypeId}
    (h : HasArr w b T κ n f) (hg : o.guard = none) (ty : TypeId) (x : Operand) (ho : o.op = .load ty x) (hx : a.eval x = .pointer (some ⟨b, 0, none⟩)) (hu : P.underlying ty = some (.array m e)) (hi : (P.info? ty).map (·.size) = some n)
    (hK : K (a.put o.dst (.agg (arrV κ n f))) w) : if Region.wanted o (yielded ops a.tmps) = true then Oper.wp P o a w K Q else E := by
  have hw : Region.wanted o (yielded ops a.tmps) = true := by simp [Region.wanted, hg]
  rw [if_pos hw]
  exact wp_load_row ty x ho b hx T _ (0, 0) _ h hu rfl (by rw [arrV_size]; exact hi) hK

set_option maxRecDepth 100000 in
set_option maxHeartbeats 2000000 in
theorem RepairCells_ex (s : Ers) (f : Nat → Int) (m : BitVec 64) (G : Nat → Int) (R c : Int) (v : Value) (hv : IsCode s v c) (w : World) (hE : ErrEnv s w)
    (h : ∀ W, Below w.heap.size w W → Calls Tryz.prog 32 #[.agg (arrV .i16 64 f), .int .u64 (bvI m)] W fun e w' => e = .returned (.tuple #[.agg (arrV .i16 64 G), .int .i64 R, v]) ∧ Below W.heap.size W w') :
    Calls Tryz.prog 16 #[.agg (arrV .i16 64 f), .int .u64 (bvI m)] w fun e w' => e = .returned (.tuple #[.agg (arrV .i16 64 G), .int .i64 R, .int .i64 c]) ∧ Below w.heap.size w w' := by
  have a1 := (HasArr.new w 37 .i16 64 f).alloc (.cells #[.int .i16 0, .int .i16 0, .int .i16 0, .int .i16 0, .int .i16 0, .int .i16 0, .int .i16 0, .int .i16 0, .int .i16 0, .int .i16 0, .int .i16 0, .int .i16 0, .int .i16 0, .int .i16 0, .int .i16 0, .int .i16 0, .int .i16 0, .int .i16 0, .int .i16 0, .int .i16 0, .int .i16 0, .int .i16 0, .int .i16 0, .int .i16 0, .int .i16 0, .int .i16 0, .int .i16 0, .int .i16 0, .int .i16 0, .int .i16 0, .int .i16 0, .int .i16 0, .int .i16 0, .int .i16 0, .int .i16 0, .int .i16 0, .int .i16 0, .int .i16 0, .int .i16 0, .int .i16 0, .int .i16 0, .int .i16 0, .int .i16 0, .int .i16 0, .int .i16 0, .int .i16 0, .int .i16 0, .int .i16 0, .int .i16 0, .int .i16 0, .int .i16 0, .int .i16 0, .int .i16 0, .int .i16 0, .int .i16 0, .int .i16 0, .int .i16 0, .int .i16 0, .int .i16 0, .int .i16 0, .int .i16 0, .int .i16 0, .int .i16 0, .int .i16 0] 37)
  have a2 := HasArr.zero (w.alloc (.cells (arrV .i16 64 f) 37)) 37 (b := w.heap.size + 1) (by simp)
  have k0 := ((Below.refl w.heap.size w).alloc (Nat.le_refl _) (.cells (arrV .i16 64 f) 37)).alloc (by simp) (.cells #[.int .i16 0, .int .i16 0, .int .i16 0, .int .i16 0, .int .i16 0, .int .i16 0, .int .i16 0, .int .i16 0, .int .i16 0, .int .i16 0, .int .i16 0, .int .i16 0, .int .i16 0, .int .i16 0, .int .i16 0, .int .i16 0, .int .i16 0, .int .i16 0, .int .i16 0, .int .i16 0, .int .i16 0, .int .i16 0, .int .i16 0, .int .i16 0, .int .i16 0, .int .i16 0, .int .i16 0, .int .i16 0, .int .i16 0, .int .i16 0, .int .i16 0, .int .i16 0, .int .i16 0, .int .i16 0, .int .i16 0, .int .i16 0, .int .i16 0, .int .i16 0, .int .i16 0, .int .i16 0, .int .i16 0, .int .i16 0, .int .i16 0, .int .i16 0, .int .i16 0, .int .i16 0, .int .i16 0, .int .i16 0, .int .i16 0, .int .i16 0, .int .i16 0, .int .i16 0, .int .i16 0, .int .i16 0, .int .i16 0, .int .i16 0, .int .i16 0, .int .i16 0, .int .i16 0, .int .i16 0, .int .i16 0, .int .i16 0, .int .i16 0, .int .i16 0] 37)
  have H := Lib.hid (h _ k0); clear h
  go_enter Tryz.func16, Tryz.ntmps16
  go_wp2_with (refine wpList_load_arr a1 37 (.tmp 2) rfl rfl rfl Tryz.underlying37 sizePrint ?_)
  refine H.out.mono ?_; rintro e w2 ⟨rfl, hb2⟩
  have b2 := a2.below hb2 a2.lt
  have k2 := k0.trans (hb2.mono k0.size)
  have hl2 := b2.lt
  clear a1 a2 hb2 H k0
  have z9 := HasArr.zero w2 37 (b := w2.heap.size) rfl
  have b3 := b2.alloc (.cells #[.int .i16 0, .int .i16 0, .int .i16 0, .int .i16 0, .int .i16 0, .int .i16 0, .int .i16 0, .int .i16 0, .int .i16 0, .int .i16 0, .int .i16 0, .int .i16 0, .int .i16 0, .int .i16 0, .int .i16 0, .int .i16 0, .int .i16 0, .int .i16 0, .int .i16 0, .int .i16 0, .int .i16 0, .int .i16 0, .int .i16 0, .int .i16 0, .int .i16 0, .int .i16 0, .int .i16 0, .int .i16 0, .int .i16 0, .int .i16 0, .int .i16 0, .int .i16 0, .int .i16 0, .int .i16 0, .int .i16 0, .int .i16 0, .int .i16 0, .int .i16 0, .int .i16 0, .int .i16 0, .int .i16 0, .int .i16 0, .int .i16 0, .int .i16 0, .int .i16 0, .int .i16 0, .int .i16 0, .int .i16 0, .int .i16 0, .int .i16 0, .int .i16 0, .int .i16 0, .int .i16 0, .int .i16 0, .int .i16 0, .int .i16 0, .int .i16 0, .int .i16 0, .int .i16 0, .int .i16 0, .int .i16 0, .int .i16 0, .int .i16 0, .int .i16 0] 37)
  have k3 := k2.alloc k2.size (.cells #[.int .i16 0, .int .i16 0, .int .i16 0, .int .i16 0, .int .i16 0, .int .i16 0, .int .i16 0, .int .i16 0, .int .i16 0, .int .i16 0, .int .i16 0, .int .i16 0, .int .i16 0, .int .i16 0, .int .i16 0, .int .i16 0, .int .i16 0, .int .i16 0, .int .i16 0, .int .i16 0, .int .i16 0, .int .i16 0, .int .i16 0, .int .i16 0, .int .i16 0, .int .i16 0, .int .i16 0, .int .i16 0, .int .i16 0, .int .i16 0, .int .i16 0, .int .i16 0, .int .i16 0, .int .i16 0, .int .i16 0, .int .i16 0, .int .i16 0, .int .i16 0, .int .i16 0, .int .i16 0, .int .i16 0, .int .i16 0, .int .i16 0, .int .i16 0, .int .i16 0, .int .i16 0, .int .i16 0, .int .i16 0, .int .i16 0, .int .i16 0, .int .i16 0, .int .i16 0, .int .i16 0, .int .i16 0, .int .i16 0, .int .i16 0, .int .i16 0, .int .i16 0, .int .i16 0, .int .i16 0, .int .i16 0, .int .i16 0, .int .i16 0, .int .i16 0] 37)
  go_wp2_with (refine wpList_store_arr z9 37 (.tmp 7) (.tmp 14) rfl rfl rfl rfl sizePrint ?_)
  have z8 := z9.setRow .i16 G
  have b8 := b3.rowOther (b' := w2.heap.size) (by omega) (arrV .i16 64 G)
  have k4 := below_setRow k3 (b := w2.heap.size) k2.size (arrV .i16 64 G)
  clear z9 b3 k3
  generalize ((w2.alloc (.cells #[.int .i16 0, .int .i16 0, .int .i16 0, .int .i16 0, .int .i16 0, .int .i16 0, .int .i16 0, .int .i16 0, .int .i16 0, .int .i16 0, .int .i16 0, .int .i16 0, .int .i16 0, .int .i16 0, .int .i16 0, .int .i16 0, .int .i16 0, .int .i16 0, .int .i16 0, .int .i16 0, .int .i16 0, .int .i16 0, .int .i16 0, .int .i16 0, .int .i16 0, .int .i16 0, .int .i16 0, .int .i16 0, .int .i16 0, .int .i16 0, .int .i16 0, .int .i16 0, .int .i16 0, .int .i16 0, .int .i16 0, .int .i16 0, .int .i16 0, .int .i16 0, .int .i16 0, .int .i16 0, .int .i16 0, .int .i16 0, .int .i16 0, .int .i16 0, .int .i16 0, .int .i16 0, .int .i16 0, .int .i16 0, .int .i16 0, .int .i16 0, .int .i16 0, .int .i16 0, .int .i16 0, .int .i16 0, .int .i16 0, .int .i16 0, .int .i16 0, .int .i16 0, .int .i16 0, .int .i16 0, .int .i16 0, .int .i16 0, .int .i16 0, .int .i16 0] 37)).setRow w2.heap.size (arrV .i16 64 G)) = W3 at *
  have HE := hE.below k4 (Nat.le_refl _)
  have HED : ErrEnv s W3.drew := HE.below ((Below.refl _ W3).drew) (Nat.le_refl _)
  refine wp_region_any (by kernel_rfl) ?_
  change wpAny _ _ _ _ _ _ _ (World.drew _)
  refine wpAny_take (i := 1) (v := .int .i64 R) rfl (by kernel_rfl) (by kernel_rfl) (by kernel_rfl) (fun _ _ _ h => h) (Or.inl ⟨by rfl, by intro w; go_simp⟩) ?_
  refine wpAny_take (i := 2) (v := v) rfl (by kernel_rfl) (by kernel_rfl) (by kernel_rfl) (fun _ _ _ h => h) (Or.inl ⟨by rfl, by intro w; go_simp⟩) ?_
  refine wpAny_ready (rs := [0, 3]) (by kernel_rfl) (by simp) ?_
  refine AllReady.cons rfl (fun K hK => ?_) (AllReady.cons rfl (fun K hK => ?_) AllReady.nil)
  · refine step_load_arrR (w := W3.drew) z8.drew rfl 37 (.tmp 7) rfl rfl Tryz.underlying37 sizePrint ?_
    refine hK _ _ ?_; clear hK K
    refine wpAny_ready (rs := [3]) (by kernel_rfl) (by simp) ?_
    refine AllReady.cons rfl (fun K hK => ?_) AllReady.nil
    go_simp
    refine (codeOf_any hv _ HED).mono ?_; rintro e w' ⟨rfl, rfl⟩
    refine hK _ _ ?_; clear hK K
    try go_frame
    refine wpAny_of_seq _ 4 _ _ _ (fun j => match j with | 0 => rfl | 1 => rfl | 2 => rfl | _ + 3 => by simp; omega) (by kernel_rfl) ?_
    go_wp2_with (refine wpList_store_arr (b8.drew) 37 (.tmp 4) (.tmp 17) rfl rfl rfl rfl sizePrint ?_)
    refine bodyPost_ret (v := .tuple #[.agg (arrV .i16 64 G), .int .i64 R, .int .i64 c]) ?_ rfl ⟨rfl, below_setRow k4.drew (b := w.heap.size + 1) (by omega) _⟩
    exact resultsRowTmp2 rfl _ _ _ _ _ _ _ rfl (b8.drew.setRow .i16 G) Tryz.underlying37 rfl (by rw [arrV_size]; exact sizePrint) _ _ rfl rfl
  · go_simp
    refine (codeOf_any hv _ HED).mono ?_; rintro e w' ⟨rfl, rfl⟩
    refine hK _ _ ?_; clear hK K
    refine wpAny_ready (rs := [0]) (by kernel_rfl) (by simp) ?_
    refine AllReady.cons rfl (fun K hK => ?_) AllReady.nil
    refine step_load_arrR (w := W3.drew) z8.drew rfl 37 (.tmp 7) rfl rfl Tryz.underlying37 sizePrint ?_
    refine hK _ _ ?_; clear hK K
    try go_frame
    refine wpAny_of_seq _ 4 _ _ _ (fun j => match j with | 0 => rfl | 1 => rfl | 2 => rfl | _ + 3 => by simp; omega) (by kernel_rfl) ?_
    go_wp2_with (refine wpList_store_arr (b8.drew) 37 (.tmp 4) (.tmp 17) rfl rfl rfl rfl sizePrint ?_)
    refine bodyPost_ret (v := .tuple #[.agg (arrV .i16 64 G), .int .i64 R, .int .i64 c]) ?_ rfl ⟨rfl, below_setRow k4.drew (b := w.heap.size + 1) (by omega) _⟩
    exact resultsRowTmp2 rfl _ _ _ _ _ _ _ rfl (b8.drew.setRow .i16 G) Tryz.underlying37 rfl (by rw [arrV_size]; exact sizePrint) _ _ rfl rfl

set_option maxRecDepth 100000 in
set_option maxHeartbeats 2000000 in
theorem specRepairCells_bad (f : Nat → Int) (hf : S16 f) (hd : dnsB f = false) (m : BitVec 64) (w : World) :
    Calls Tryz.prog 17 #[.agg (arrV .i16 64 f), .int .u64 (bvI m)] w fun e w' => e = .returned (.tuple #[.agg (arrV .i16 64 fun _ => 0), .int .i64 0, .int .i64 1]) ∧ Below w.heap.size w w' := by
  have a1 := (HasArr.new w 37 .i16 64 f).alloc (.cells #[.int .i16 0, .int .i16 0, .int .i16 0, .int .i16 0, .int .i16 0, .int .i16 0, .int .i16 0, .int .i16 0, .int .i16 0, .int .i16 0, .int .i16 0, .int .i16 0, .int .i16 0, .int .i16 0, .int .i16 0, .int .i16 0, .int .i16 0, .int .i16 0, .int .i16 0, .int .i16 0, .int .i16 0, .int .i16 0, .int .i16 0, .int .i16 0, .int .i16 0, .int .i16 0, .int .i16 0, .int .i16 0, .int .i16 0, .int .i16 0, .int .i16 0, .int .i16 0, .int .i16 0, .int .i16 0, .int .i16 0, .int .i16 0, .int .i16 0, .int .i16 0, .int .i16 0, .int .i16 0, .int .i16 0, .int .i16 0, .int .i16 0, .int .i16 0, .int .i16 0, .int .i16 0, .int .i16 0, .int .i16 0, .int .i16 0, .int .i16 0, .int .i16 0, .int .i16 0, .int .i16 0, .int .i16 0, .int .i16 0, .int .i16 0, .int .i16 0, .int .i16 0, .int .i16 0, .int .i16 0, .int .i16 0, .int .i16 0, .int .i16 0, .int .i16 0] 37)
  have a2 := HasArr.zero (w.alloc (.cells (arrV .i16 64 f) 37)) 37 (b := w.heap.size + 1) (by simp)
  have k0 := ((Below.refl w.heap.size w).alloc (Nat.le_refl _) (.cells (arrV .i16 64 f) 37)).alloc (by simp) (.cells #[.int .i16 0, .int .i16 0, .int .i16 0, .int .i16 0, .int .i16 0, .int .i16 0, .int .i16 0, .int .i16 0, .int .i16 0, .int .i16 0, .int .i16 0, .int .i16 0, .int .i16 0, .int .i16 0, .int .i16 0, .int .i16 0, .int .i16 0, .int .i16 0, .int .i16 0, .int .i16 0, .int .i16 0, .int .i16 0, .int .i16 0, .int .i16 0, .int .i16 0, .int .i16 0, .int .i16 0, .int .i16 0, .int .i16 0, .int .i16 0, .int .i16 0, .int .i16 0, .int .i16 0, .int .i16 0, .int .i16 0, .int .i16 0, .int .i16 0, .int .i16 0, .int .i16 0, .int .i16 0, .int .i16 0, .int .i16 0, .int .i16 0, .int .i16 0, .int .i16 0, .int .i16 0, .int .i16 0, .int .i16 0, .int .i16 0, .int .i16 0, .int .i16 0, .int .i16 0, .int .i16 0, .int .i16 0, .int .i16 0, .int .i16 0, .int .i16 0, .int .i16 0, .int .i16 0, .int .i16 0, .int .i16 0, .int .i16 0, .int .i16 0, .int .i16 0] 37)
  have hp := fun W (h : HasArr W w.heap.size 37 .i16 64 f) => l03PrintAt_any w.heap.size 0 f hf W (PartA.of_arr h)
  rw [hd] at hp
  have Hp := Lib.hid hp; clear hp hd hf
  go_enter Tryz.func17, Tryz.ntmps17
  go_wp2_with fail
  refine (Hp.out _ a1).mono ?_; rintro e w2 ⟨rfl, hb2⟩
  have k2 := k0.trans (hb2.mono k0.size)
  have q2 := a2.below hb2 a2.lt
  clear a1 a2 hb2 k0
  go_wp2_with (refine wpList_store_arr (g := fun _ => 0) q2 _ _ _ rfl rfl rfl (by rw [zeroArr16]; rfl) sizePrint ?_)
  refine bodyPost_ret (v := .tuple #[.agg (arrV .i16 64 fun _ => 0), .int .i64 0, .int .i64 1]) ?_ rfl ⟨rfl, below_setRow k2 (by omega) _⟩
  exact resultsRowTmp2 rfl _ _ _ _ _ _ _ rfl (q2.setRow .i16 fun _ => 0) Tryz.underlying37 rfl (by rw [arrV_size]; exact sizePrint) _ _ rfl rfl

/-- There are cells, a number of rounds and a code that both return. -/
theorem repair_both (s : Ers) (f : Nat → Int) (hf : S16 f) (m : BitVec 64) : ∃ (G : Nat → Int) (R c : Int), (∀ w : World, Calls Tryz.prog 17 #[.agg (arrV .i16 64 f), .int .u64 (bvI m)] w fun e w' => e = .returned (.tuple #[.agg (arrV .i16 64 G), .int .i64 R, .int .i64 c]) ∧ Below w.heap.size w w') ∧
    ∀ (w : World), ErrEnv s w → DbEnv w → Calls Tryz.prog 16 #[.agg (arrV .i16 64 f), .int .u64 (bvI m)] w fun e w' => e = .returned (.tuple #[.agg (arrV .i16 64 G), .int .i64 R, .int .i64 c]) ∧ Below w.heap.size w w' := by
  rcases hd : dnsB f with _ | _
  · exact ⟨_, 0, 1, fun w => specRepairCells_bad f hf hd m w, fun w hE _ => RepairCells_ex s f m _ 0 1 _ .einvalid w hE fun W hW => repairCells_bad s f hd m W (hE.below hW (Nat.le_refl _))⟩
  · by_cases hm : m = 18446744073709551615#64
    · subst hm
      exact ⟨_, 0, 6, fun w => specRepairCells_all f hf hd w, fun w hE _ => RepairCells_ex s f _ _ 0 6 _ .enotfound w hE fun W hW => repairCells_all s f hd W (hE.below hW (Nat.le_refl _))⟩
    · obtain ⟨N, hN, h0, hi⟩ := rounds_ex (not_all hm)
      exact ⟨_, N, 0, fun w => specRepairCells_ok f hf hd m N hN h0 hi hm w, fun w hE hT => RepairCells_ex s f m _ N 0 _ .ok w hE fun W hW => repairCells_ok f hf hd m N hN h0 hi hm W (hT.below hW)⟩
end Go.Proofs.YtiinkfnamhcekaaGreatDoor

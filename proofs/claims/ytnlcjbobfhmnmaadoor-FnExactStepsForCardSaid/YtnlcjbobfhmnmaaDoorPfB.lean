/-
  A print in the making that is exposed: all its cells. Condition: densities, a curve, lights that are valid.
-/
import Derived.Test.YtnlcjbobfhmnmaaDoorPfA
import Derived.Test.YtnlcjbobfhmnmaaDoorLightS2
import Derived.Test.YtnlcjbobfhmnmaaDoorQuietTail
namespace Go.Proofs.YtnlcjbobfhmnmaaDoor
open Go.RowKit

set_option maxRecDepth 100000 in
set_option maxHeartbeats 2000000 in
theorem exposed_any (f : Nat → Int) (hf : ∀ k, k < 64 → 0 ≤ f k ∧ f k ≤ 400) (b n cap : Nat) (xs ys : Nat → Int) (hn : n ≤ 1048576) (cv : Crv n xs ys) (T : Nat → Int) (hT : ∀ c, c < 64 → -1 ≤ T c ∧ T c ≤ 36) (w : World) (hr : PtRow w b n xs ys) :
    Calls Tryd.prog 43 #[.agg (prnW f b n cap), .agg (arrV .i64 64 T)] w fun e w' => e = .returned (.agg (arrV .i16 64 fun c => dens n xs ys (plc (T c) (f c)))) ∧ Below w.heap.size w w' := by
  have hF : ∀ c, (fun c => dens n xs ys (plc (T c) (f c))) c = dens n xs ys (plc (T c) (f c)) := fun _ => rfl
  generalize (fun c => dens n xs ys (plc (T c) (f c))) = G at *
  have hde := fun c hc W h => densityBy_any f b n cap xs ys hn cv c hc (hf c hc) (T c) (hT c hc).1 (hT c hc).2 W h
  have hdb := fun c => dens_400 cv (plc (T c) (f c))
  have HG : Hid (∀ c, c < 64 → (0 ≤ G c ∧ G c ≤ 400) ∧ ∀ W, PtRow W b n xs ys → Calls Tryd.prog 60 #[.agg (prnW f b n cap), .int .i64 (c : Int), .int .i64 (T c)] W fun e w' => e = .returned (.int .i64 (G c)) ∧ Below W.heap.size W w') := Lib.hid (fun c hc => by
    rw [hF c]
    exact ⟨hdb c, fun W h => hde c hc W h⟩)
  clear hF hde hdb hf hT cv
  have p0 := ((PrnAt.new w f b n cap).alloc (.cells (arrV .i64 64 T) 80)).alloc (.cells #[.int .i16 0, .int .i16 0, .int .i16 0, .int .i16 0, .int .i16 0, .int .i16 0, .int .i16 0, .int .i16 0, .int .i16 0, .int .i16 0, .int .i16 0, .int .i16 0, .int .i16 0, .int .i16 0, .int .i16 0, .int .i16 0, .int .i16 0, .int .i16 0, .int .i16 0, .int .i16 0, .int .i16 0, .int .i16 0, .int .i16 0, .int .i16 0, .int .i16 0, .int .i16 0, .int .i16 0, .int .i16 0, .int .i16 0, .int .i16 0, .int .i16 0, .int .i16 0, .int .i16 0, .int .i16 0, .int .i16 0, .int .i16 0, .int .i16 0, .int .i16 0, .int .i16 0, .int .i16 0, .int .i16 0, .int .i16 0, .int .i16 0, .int .i16 0, .int .i16 0, .int .i16 0, .int .i16 0, .int .i16 0, .int .i16 0, .int .i16 0, .int .i16 0, .int .i16 0, .int .i16 0, .int .i16 0, .int .i16 0, .int .i16 0, .int .i16 0, .int .i16 0, .int .i16 0, .int .i16 0, .int .i16 0, .int .i16 0, .int .i16 0, .int .i16 0] 86)
  have p0 := p0.alloc (.cells #[.int .i16 0, .int .i16 0, .int .i16 0, .int .i16 0, .int .i16 0, .int .i16 0, .int .i16 0, .int .i16 0, .int .i16 0, .int .i16 0, .int .i16 0, .int .i16 0, .int .i16 0, .int .i16 0, .int .i16 0, .int .i16 0, .int .i16 0, .int .i16 0, .int .i16 0, .int .i16 0, .int .i16 0, .int .i16 0, .int .i16 0, .int .i16 0, .int .i16 0, .int .i16 0, .int .i16 0, .int .i16 0, .int .i16 0, .int .i16 0, .int .i16 0, .int .i16 0, .int .i16 0, .int .i16 0, .int .i16 0, .int .i16 0, .int .i16 0, .int .i16 0, .int .i16 0, .int .i16 0, .int .i16 0, .int .i16 0, .int .i16 0, .int .i16 0, .int .i16 0, .int .i16 0, .int .i16 0, .int .i16 0, .int .i16 0, .int .i16 0, .int .i16 0, .int .i16 0, .int .i16 0, .int .i16 0, .int .i16 0, .int .i16 0, .int .i16 0, .int .i16 0, .int .i16 0, .int .i16 0, .int .i16 0, .int .i16 0, .int .i16 0, .int .i16 0] 86)
  have q0 : HasArr ((w.alloc (.cells (prnW f b n cap) 88)).alloc (.cells (arrV .i64 64 T) 80)) (w.heap.size + 1) 80 .i64 64 T := by
    have h := HasArr.new (w.alloc (.cells (prnW f b n cap) 88)) 80 .i64 64 T
    simpa using h
  have q0 := (q0.alloc (.cells #[.int .i16 0, .int .i16 0, .int .i16 0, .int .i16 0, .int .i16 0, .int .i16 0, .int .i16 0, .int .i16 0, .int .i16 0, .int .i16 0, .int .i16 0, .int .i16 0, .int .i16 0, .int .i16 0, .int .i16 0, .int .i16 0, .int .i16 0, .int .i16 0, .int .i16 0, .int .i16 0, .int .i16 0, .int .i16 0, .int .i16 0, .int .i16 0, .int .i16 0, .int .i16 0, .int .i16 0, .int .i16 0, .int .i16 0, .int .i16 0, .int .i16 0, .int .i16 0, .int .i16 0, .int .i16 0, .int .i16 0, .int .i16 0, .int .i16 0, .int .i16 0, .int .i16 0, .int .i16 0, .int .i16 0, .int .i16 0, .int .i16 0, .int .i16 0, .int .i16 0, .int .i16 0, .int .i16 0, .int .i16 0, .int .i16 0, .int .i16 0, .int .i16 0, .int .i16 0, .int .i16 0, .int .i16 0, .int .i16 0, .int .i16 0, .int .i16 0, .int .i16 0, .int .i16 0, .int .i16 0, .int .i16 0, .int .i16 0, .int .i16 0, .int .i16 0] 86)).alloc (.cells #[.int .i16 0, .int .i16 0, .int .i16 0, .int .i16 0, .int .i16 0, .int .i16 0, .int .i16 0, .int .i16 0, .int .i16 0, .int .i16 0, .int .i16 0, .int .i16 0, .int .i16 0, .int .i16 0, .int .i16 0, .int .i16 0, .int .i16 0, .int .i16 0, .int .i16 0, .int .i16 0, .int .i16 0, .int .i16 0, .int .i16 0, .int .i16 0, .int .i16 0, .int .i16 0, .int .i16 0, .int .i16 0, .int .i16 0, .int .i16 0, .int .i16 0, .int .i16 0, .int .i16 0, .int .i16 0, .int .i16 0, .int .i16 0, .int .i16 0, .int .i16 0, .int .i16 0, .int .i16 0, .int .i16 0, .int .i16 0, .int .i16 0, .int .i16 0, .int .i16 0, .int .i16 0, .int .i16 0, .int .i16 0, .int .i16 0, .int .i16 0, .int .i16 0, .int .i16 0, .int .i16 0, .int .i16 0, .int .i16 0, .int .i16 0, .int .i16 0, .int .i16 0, .int .i16 0, .int .i16 0, .int .i16 0, .int .i16 0, .int .i16 0, .int .i16 0] 86)
  have r0 := (HasArr.zero ((w.alloc (.cells (prnW f b n cap) 88)).alloc (.cells (arrV .i64 64 T) 80)) 86 (b := w.heap.size + 1 + 1) (by simp)).alloc (.cells #[.int .i16 0, .int .i16 0, .int .i16 0, .int .i16 0, .int .i16 0, .int .i16 0, .int .i16 0, .int .i16 0, .int .i16 0, .int .i16 0, .int .i16 0, .int .i16 0, .int .i16 0, .int .i16 0, .int .i16 0, .int .i16 0, .int .i16 0, .int .i16 0, .int .i16 0, .int .i16 0, .int .i16 0, .int .i16 0, .int .i16 0, .int .i16 0, .int .i16 0, .int .i16 0, .int .i16 0, .int .i16 0, .int .i16 0, .int .i16 0, .int .i16 0, .int .i16 0, .int .i16 0, .int .i16 0, .int .i16 0, .int .i16 0, .int .i16 0, .int .i16 0, .int .i16 0, .int .i16 0, .int .i16 0, .int .i16 0, .int .i16 0, .int .i16 0, .int .i16 0, .int .i16 0, .int .i16 0, .int .i16 0, .int .i16 0, .int .i16 0, .int .i16 0, .int .i16 0, .int .i16 0, .int .i16 0, .int .i16 0, .int .i16 0, .int .i16 0, .int .i16 0, .int .i16 0, .int .i16 0, .int .i16 0, .int .i16 0, .int .i16 0, .int .i16 0] 86)
  have s0 := HasArr.zero (((w.alloc (.cells (prnW f b n cap) 88)).alloc (.cells (arrV .i64 64 T) 80)).alloc (.cells #[.int .i16 0, .int .i16 0, .int .i16 0, .int .i16 0, .int .i16 0, .int .i16 0, .int .i16 0, .int .i16 0, .int .i16 0, .int .i16 0, .int .i16 0, .int .i16 0, .int .i16 0, .int .i16 0, .int .i16 0, .int .i16 0, .int .i16 0, .int .i16 0, .int .i16 0, .int .i16 0, .int .i16 0, .int .i16 0, .int .i16 0, .int .i16 0, .int .i16 0, .int .i16 0, .int .i16 0, .int .i16 0, .int .i16 0, .int .i16 0, .int .i16 0, .int .i16 0, .int .i16 0, .int .i16 0, .int .i16 0, .int .i16 0, .int .i16 0, .int .i16 0, .int .i16 0, .int .i16 0, .int .i16 0, .int .i16 0, .int .i16 0, .int .i16 0, .int .i16 0, .int .i16 0, .int .i16 0, .int .i16 0, .int .i16 0, .int .i16 0, .int .i16 0, .int .i16 0, .int .i16 0, .int .i16 0, .int .i16 0, .int .i16 0, .int .i16 0, .int .i16 0, .int .i16 0, .int .i16 0, .int .i16 0, .int .i16 0, .int .i16 0, .int .i16 0] 86)) 86 (b := w.heap.size + 1 + 1 + 1) (by simp)
  have k0 := (((Below.refl w.heap.size w).alloc (Nat.le_refl _) (.cells (prnW f b n cap) 88)).alloc (by simp) (.cells (arrV .i64 64 T) 80)).alloc (by simp; omega) (.cells #[.int .i16 0, .int .i16 0, .int .i16 0, .int .i16 0, .int .i16 0, .int .i16 0, .int .i16 0, .int .i16 0, .int .i16 0, .int .i16 0, .int .i16 0, .int .i16 0, .int .i16 0, .int .i16 0, .int .i16 0, .int .i16 0, .int .i16 0, .int .i16 0, .int .i16 0, .int .i16 0, .int .i16 0, .int .i16 0, .int .i16 0, .int .i16 0, .int .i16 0, .int .i16 0, .int .i16 0, .int .i16 0, .int .i16 0, .int .i16 0, .int .i16 0, .int .i16 0, .int .i16 0, .int .i16 0, .int .i16 0, .int .i16 0, .int .i16 0, .int .i16 0, .int .i16 0, .int .i16 0, .int .i16 0, .int .i16 0, .int .i16 0, .int .i16 0, .int .i16 0, .int .i16 0, .int .i16 0, .int .i16 0, .int .i16 0, .int .i16 0, .int .i16 0, .int .i16 0, .int .i16 0, .int .i16 0, .int .i16 0, .int .i16 0, .int .i16 0, .int .i16 0, .int .i16 0, .int .i16 0, .int .i16 0, .int .i16 0, .int .i16 0, .int .i16 0] 86)
  have k0 := k0.alloc (by simp; omega) (.cells #[.int .i16 0, .int .i16 0, .int .i16 0, .int .i16 0, .int .i16 0, .int .i16 0, .int .i16 0, .int .i16 0, .int .i16 0, .int .i16 0, .int .i16 0, .int .i16 0, .int .i16 0, .int .i16 0, .int .i16 0, .int .i16 0, .int .i16 0, .int .i16 0, .int .i16 0, .int .i16 0, .int .i16 0, .int .i16 0, .int .i16 0, .int .i16 0, .int .i16 0, .int .i16 0, .int .i16 0, .int .i16 0, .int .i16 0, .int .i16 0, .int .i16 0, .int .i16 0, .int .i16 0, .int .i16 0, .int .i16 0, .int .i16 0, .int .i16 0, .int .i16 0, .int .i16 0, .int .i16 0, .int .i16 0, .int .i16 0, .int .i16 0, .int .i16 0, .int .i16 0, .int .i16 0, .int .i16 0, .int .i16 0, .int .i16 0, .int .i16 0, .int .i16 0, .int .i16 0, .int .i16 0, .int .i16 0, .int .i16 0, .int .i16 0, .int .i16 0, .int .i16 0, .int .i16 0, .int .i16 0, .int .i16 0, .int .i16 0, .int .i16 0, .int .i16 0] 86)
  have p1 := p0.rowOther (b' := w.heap.size + 1 + 1 + 1) (by omega) (arrV .i16 64 fun _ => 0)
  have q1 := q0.rowOther (b' := w.heap.size + 1 + 1 + 1) (by omega) (arrV .i16 64 fun _ => 0)
  have r1 := r0.rowOther (b' := w.heap.size + 1 + 1 + 1) (by omega) (arrV .i16 64 fun _ => 0)
  have s1 := (s0.setRow .i16 fun _ => 0).congr (fun j _ => mixG_0 (fun _ => 0) G j)
  have k1 := below_setRow k0 (b := w.heap.size + 1 + 1 + 1) (by omega) (arrV .i16 64 fun _ => 0)
  have K0 := Lib.hid (And.intro p1 (And.intro q1 (And.intro r1 (And.intro s1 k1))))
  clear p0 q0 r0 k0 p1 q1 r1 s1 k1
  have hPs := prnW_size f b n cap
  go_enter Tryd.func43, Tryd.ntmps43
  go_wp2_with (refine wpList_store_zA s0 _ _ _ rfl rfl rfl rfl sizeCells ?_)
  clear s0
  go_loopw [8] (fun i wr => ∃ c : Nat, c ≤ 64 ∧ i = .int .i64 (c : Int) ∧ PrnAt wr w.heap.size f b n cap ∧ HasArr wr (w.heap.size + 1) 80 .i64 64 T ∧ HasArr wr (w.heap.size + 1 + 1) 86 .i16 64 (fun _ => 0) ∧ HasArr wr (w.heap.size + 1 + 1 + 1) 86 .i16 64 (mixG (fun _ => 0) G c) ∧ Below w.heap.size w wr) (fun i _ => 64 - (intOf i).toNat)
  case atStart => exact ⟨0, by omega, rfl, K0.out⟩
  case round =>
    obtain ⟨c, hc, rfl, h0, h1, h2, h3, hB⟩ := hrel
    clear K0
    by_cases hcn : c < 64
    · have w4 : (c : Int) < 64 := by omega
      obtain ⟨hgb, hcl⟩ := HG.out c hcn
      have hst := fun (W : World) (h : HasArr W (w.heap.size + 1 + 1 + 1) 86 .i16 64 (mixG (fun _ => 0) G c)) => (h.set c (G c)).congr (fun j _ => mixG_step (fun _ => 0) G c j)
      have ct := h1.cell hcn
      have cal := h0.all
      have hlt0 := h0.lt
      have hrw := hr.below hB hr.lt
      generalize G c = V at *
      generalize T c = L at *
      have i1 : IntKind.i16.wrap V = V := IntWalk.i16_in _ (by omega)
      have Hcl := Lib.hid (fun (x : WIn (Below wr.heap.size wr)) => hcl x.w (hrw.below x.ok hrw.lt)); clear hcl hrw
      have Hst := Lib.hid hst; clear hst
      have H0 := Lib.hid h0; clear h0
      have H1 := Lib.hid h1; clear h1
      have H2 := Lib.hid h2; clear h2
      have H3 := Lib.hid h3; clear h3
      have HB := Lib.hid hB; clear hB
      have Hca := Lib.hid cal; clear cal
      generalize prnW f b n cap = PV at *
      clear hgb
      go_wp2_with fail
      refine wp_region_quiet_tail 9 (fun w' => ∃ x : WIn (Below wr.heap.size wr), w' = x.w) (by kernel_rfl) (by kernel_rfl) ⟨⟨_, below_drew1 _⟩, rfl⟩ ?_
      simp only [List.take_succ_cons, List.take_zero, List.drop_succ_cons, List.drop_zero]
      have n0 := below_nonempty wr
      have f1 := inCell ct
      refine wpQuiet_yield (.int .i64 (c : Int)) rfl (fun _ => rfl) ?_
      go_frame
      refine wpQuiet_load_mid (cs := PV) (b := w.heap.size) (o := 0) (fun W hW => by obtain ⟨x, rfl⟩ := hW; exact fun j v hv => by rw [x.ok.cell (p := ⟨w.heap.size, 0 + j, none⟩) (by show w.heap.size < wr.heap.size; omega)]; exact Hca.out j v hv) 88 (.tmp 2) rfl rfl rfl Tryd.underlying88 rfl (by rw [hPs]; exact sizePrn) ?_
      go_frame
      refine wpQuiet_yield (.int .i64 (c : Int)) rfl (fun _ => rfl) ?_
      go_frame
      refine wpQuiet_yield (.int .i64 (c : Int)) rfl (fun _ => rfl) ?_
      go_frame
      quiet_step (fail)
      quiet_step (fail)
      quiet_step ((go_at_call 60; exact inCall _ (Hcl.out _)))
      quiet_step (fail)
      quiet_step (fail)
      refine wpQuiet_nil ?_
      rintro w2 ⟨⟨w3, hb2⟩, rfl⟩
      have g0 := H0.out.below hb2 H0.out.lt
      have g1 := H1.out.below hb2 H1.out.lt
      have g2 := H2.out.below hb2 H2.out.lt
      have g3 := H3.out.below hb2 H3.out.lt
      have gB := HB.out.trans (hb2.mono HB.out.size)
      have d0 := g3.cell hcn
      have e0 := g3.free c
      have K := Lib.hid (And.intro (g0.other (a := ⟨w.heap.size + 1 + 1 + 1, c, none⟩) (by simp; omega) (.int .i16 V)) (And.intro (g1.other (a := ⟨w.heap.size + 1 + 1 + 1, c, none⟩) (by simp) (.int .i16 V)) (And.intro (g2.other (a := ⟨w.heap.size + 1 + 1 + 1, c, none⟩) (by simp) (.int .i16 V)) (And.intro (Hst.out _ g3) (gB.setCell (p := ⟨w.heap.size + 1 + 1 + 1, c, none⟩) (by simp; omega) (.int .i16 V))))))
      clear g0 g1 g2 g3 gB f1 n0 ct
      go_wp2_with fail
      go_roundw
      case rel => exact ⟨c + 1, by omega, by go_num, K.out⟩
      case measure => simp [intOf]; omega
    · obtain rfl : c = 64 := by omega
      have h3 := h3.congr (g := G) (fun j hj => mixG_64 hj)
      have h2' := h2.setRow .i16 G
      have hB' := below_setRow hB (b := w.heap.size + 1 + 1) (by omega) (arrV .i16 64 G)
      go_wp2_with (first | (refine wpList_load_arr h3 _ _ rfl rfl rfl Tryd.underlying86 sizeCells ?_) | (refine wpList_store_arr h2 _ _ _ rfl rfl rfl rfl sizeCells ?_))
      refine bodyPost_ret (v := .agg (arrV .i16 64 G)) ?_ rfl ⟨rfl, hB'⟩
      exact results_cell_row rfl _ _ _ _ _ _ _ rfl h2' Tryd.underlying86 rfl (by rw [arrV_size]; exact sizeCells)
end Go.Proofs.YtnlcjbobfhmnmaaDoor

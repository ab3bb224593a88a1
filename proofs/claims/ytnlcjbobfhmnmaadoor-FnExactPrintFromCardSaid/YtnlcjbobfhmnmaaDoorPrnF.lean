/-
  The print of a negative: what the reference's function returns. Condition: a curve, densities, steps that are valid; at most 1048576 of them.
-/
import Derived.Test.YtnlcjbobfhmnmaaDoorPrnS
import Derived.Test.YtnlcjbobfhmnmaaDoorArrTools
namespace Go.Proofs.YtnlcjbobfhmnmaaDoor
open Go.RowKit

set_option maxRecDepth 100000 in
set_option maxHeartbeats 4000000 in
theorem l03From_any (g : Nat) (TN : TypeId) (f : Nat → Int) (hf : ∀ k, k < 64 → 0 ≤ f k ∧ f k ≤ 400) (b n cap : Nat) (xs ys : Nat → Int) (hn : n ≤ 1048576) (cv : Crv n xs ys) (b' m cap' : Nat) (fs es : Nat → Int) (hm : m ≤ 1048576) (hs : SmallS m fs es) (hl : ∀ k, k < m → inB (es k) 0 36 = true)
    (w : World) (ha : HasArr w g TN .i16 64 f) (hr : PtRow w b n xs ys) (hr' : StRow w b' m fs es) :
    Calls Tryd.prog 24 #[.pointer (some ⟨g, 0, none⟩), .slice (some ⟨b, 0, none⟩) n cap, .slice (some ⟨b', 0, none⟩) m cap'] w fun e w' => e = .returned (.agg (arrV .i16 64 fun c => dens n xs ys (plc (thin (addT fs es m c)) (f c)))) ∧ Below w.heap.size w w' := by
  have a0 := HasArr.zero w 28 (b := w.heap.size) rfl
  have k0 := (Below.refl w.heap.size w).alloc (Nat.le_refl _) (.cells #[.int .i16 0, .int .i16 0, .int .i16 0, .int .i16 0, .int .i16 0, .int .i16 0, .int .i16 0, .int .i16 0, .int .i16 0, .int .i16 0, .int .i16 0, .int .i16 0, .int .i16 0, .int .i16 0, .int .i16 0, .int .i16 0, .int .i16 0, .int .i16 0, .int .i16 0, .int .i16 0, .int .i16 0, .int .i16 0, .int .i16 0, .int .i16 0, .int .i16 0, .int .i16 0, .int .i16 0, .int .i16 0, .int .i16 0, .int .i16 0, .int .i16 0, .int .i16 0, .int .i16 0, .int .i16 0, .int .i16 0, .int .i16 0, .int .i16 0, .int .i16 0, .int .i16 0, .int .i16 0, .int .i16 0, .int .i16 0, .int .i16 0, .int .i16 0, .int .i16 0, .int .i16 0, .int .i16 0, .int .i16 0, .int .i16 0, .int .i16 0, .int .i16 0, .int .i16 0, .int .i16 0, .int .i16 0, .int .i16 0, .int .i16 0, .int .i16 0, .int .i16 0, .int .i16 0, .int .i16 0, .int .i16 0, .int .i16 0, .int .i16 0, .int .i16 0] 28)
  have hlt := hr.lt
  have hal := ha.lt
  have hli := fun W h => l03Light_any b' m cap' fs es hm hs hl W h
  have hpr := fun D L h0 h1 hL hL2 W h => l03Printed_any b n cap xs ys hn cv D L h0 h1 hL hL2 W h
  have htb := fun c => thin_bd (addT fs es m c)
  have hrk := hr'.below k0 hr'.lt
  have hF : ∀ c, (fun c => dens n xs ys (plc (thin (addT fs es m c)) (f c))) c = dens n xs ys (plc (thin (addT fs es m c)) (f c)) := fun _ => rfl
  generalize hG : (fun c => dens n xs ys (plc (thin (addT fs es m c)) (f c))) = G at *
  clear hG
  have hT : ∀ c, (fun c => thin (addT fs es m c)) c = thin (addT fs es m c) := fun _ => rfl
  generalize (fun c => thin (addT fs es m c)) = T at *
  have hF2 : ∀ c, G c = dens n xs ys (plc (T c) (f c)) := fun c => by rw [hF c, hT c]
  have htb2 : ∀ c, -1 ≤ T c ∧ T c ≤ 36 := fun c => by rw [hT c]; exact htb c
  clear hF hT htb
  have Hli := Lib.hid hli; clear hli hl hs
  have Hpr := Lib.hid hpr; clear hpr cv
  have HF := Lib.hid hF2; clear hF2
  have Htb := Lib.hid htb2; clear htb2
  have Hf := Lib.hid hf; clear hf
  go_enter Tryd.func24, Tryd.ntmps24
  go_wp2_with fail
  refine (Hli.out _ hrk).mono ?_; rintro e w1 ⟨rfl, hb1⟩
  have b0 := a0.below hb1 a0.lt
  have k1 := k0.trans (hb1.mono k0.size)
  have z1 : w.heap.size < w1.heap.size := b0.lt
  have a1 := HasArr.zeroI w1 (b := w1.heap.size) rfl
  have kk := below_setRow (k1.alloc k1.size (.cells #[.int .i64 0, .int .i64 0, .int .i64 0, .int .i64 0, .int .i64 0, .int .i64 0, .int .i64 0, .int .i64 0, .int .i64 0, .int .i64 0, .int .i64 0, .int .i64 0, .int .i64 0, .int .i64 0, .int .i64 0, .int .i64 0, .int .i64 0, .int .i64 0, .int .i64 0, .int .i64 0, .int .i64 0, .int .i64 0, .int .i64 0, .int .i64 0, .int .i64 0, .int .i64 0, .int .i64 0, .int .i64 0, .int .i64 0, .int .i64 0, .int .i64 0, .int .i64 0, .int .i64 0, .int .i64 0, .int .i64 0, .int .i64 0, .int .i64 0, .int .i64 0, .int .i64 0, .int .i64 0, .int .i64 0, .int .i64 0, .int .i64 0, .int .i64 0, .int .i64 0, .int .i64 0, .int .i64 0, .int .i64 0, .int .i64 0, .int .i64 0, .int .i64 0, .int .i64 0, .int .i64 0, .int .i64 0, .int .i64 0, .int .i64 0, .int .i64 0, .int .i64 0, .int .i64 0, .int .i64 0, .int .i64 0, .int .i64 0, .int .i64 0, .int .i64 0] 80)) (b := w1.heap.size) k1.size (arrV .i64 64 T)
  have c1 := (b0.alloc (.cells #[.int .i64 0, .int .i64 0, .int .i64 0, .int .i64 0, .int .i64 0, .int .i64 0, .int .i64 0, .int .i64 0, .int .i64 0, .int .i64 0, .int .i64 0, .int .i64 0, .int .i64 0, .int .i64 0, .int .i64 0, .int .i64 0, .int .i64 0, .int .i64 0, .int .i64 0, .int .i64 0, .int .i64 0, .int .i64 0, .int .i64 0, .int .i64 0, .int .i64 0, .int .i64 0, .int .i64 0, .int .i64 0, .int .i64 0, .int .i64 0, .int .i64 0, .int .i64 0, .int .i64 0, .int .i64 0, .int .i64 0, .int .i64 0, .int .i64 0, .int .i64 0, .int .i64 0, .int .i64 0, .int .i64 0, .int .i64 0, .int .i64 0, .int .i64 0, .int .i64 0, .int .i64 0, .int .i64 0, .int .i64 0, .int .i64 0, .int .i64 0, .int .i64 0, .int .i64 0, .int .i64 0, .int .i64 0, .int .i64 0, .int .i64 0, .int .i64 0, .int .i64 0, .int .i64 0, .int .i64 0, .int .i64 0, .int .i64 0, .int .i64 0, .int .i64 0] 80)).rowOther (b' := w1.heap.size) (by omega) (arrV .i64 64 T)
  have a6 := HasArr.zero ((w1.alloc (.cells #[.int .i64 0, .int .i64 0, .int .i64 0, .int .i64 0, .int .i64 0, .int .i64 0, .int .i64 0, .int .i64 0, .int .i64 0, .int .i64 0, .int .i64 0, .int .i64 0, .int .i64 0, .int .i64 0, .int .i64 0, .int .i64 0, .int .i64 0, .int .i64 0, .int .i64 0, .int .i64 0, .int .i64 0, .int .i64 0, .int .i64 0, .int .i64 0, .int .i64 0, .int .i64 0, .int .i64 0, .int .i64 0, .int .i64 0, .int .i64 0, .int .i64 0, .int .i64 0, .int .i64 0, .int .i64 0, .int .i64 0, .int .i64 0, .int .i64 0, .int .i64 0, .int .i64 0, .int .i64 0, .int .i64 0, .int .i64 0, .int .i64 0, .int .i64 0, .int .i64 0, .int .i64 0, .int .i64 0, .int .i64 0, .int .i64 0, .int .i64 0, .int .i64 0, .int .i64 0, .int .i64 0, .int .i64 0, .int .i64 0, .int .i64 0, .int .i64 0, .int .i64 0, .int .i64 0, .int .i64 0, .int .i64 0, .int .i64 0, .int .i64 0, .int .i64 0] 80)).setRow w1.heap.size (arrV .i64 64 T)) 28 (b := w1.heap.size + 1) (by simp)
  have d0 := (c1.alloc (.cells #[.int .i16 0, .int .i16 0, .int .i16 0, .int .i16 0, .int .i16 0, .int .i16 0, .int .i16 0, .int .i16 0, .int .i16 0, .int .i16 0, .int .i16 0, .int .i16 0, .int .i16 0, .int .i16 0, .int .i16 0, .int .i16 0, .int .i16 0, .int .i16 0, .int .i16 0, .int .i16 0, .int .i16 0, .int .i16 0, .int .i16 0, .int .i16 0, .int .i16 0, .int .i16 0, .int .i16 0, .int .i16 0, .int .i16 0, .int .i16 0, .int .i16 0, .int .i16 0, .int .i16 0, .int .i16 0, .int .i16 0, .int .i16 0, .int .i16 0, .int .i16 0, .int .i16 0, .int .i16 0, .int .i16 0, .int .i16 0, .int .i16 0, .int .i16 0, .int .i16 0, .int .i16 0, .int .i16 0, .int .i16 0, .int .i16 0, .int .i16 0, .int .i16 0, .int .i16 0, .int .i16 0, .int .i16 0, .int .i16 0, .int .i16 0, .int .i16 0, .int .i16 0, .int .i16 0, .int .i16 0, .int .i16 0, .int .i16 0, .int .i16 0, .int .i16 0] 28)).rowOther (b' := w1.heap.size + 1) (by omega) (arrV .i16 64 fun _ => 0)
  have d1 := ((a1.setRow .i64 T).alloc (.cells #[.int .i16 0, .int .i16 0, .int .i16 0, .int .i16 0, .int .i16 0, .int .i16 0, .int .i16 0, .int .i16 0, .int .i16 0, .int .i16 0, .int .i16 0, .int .i16 0, .int .i16 0, .int .i16 0, .int .i16 0, .int .i16 0, .int .i16 0, .int .i16 0, .int .i16 0, .int .i16 0, .int .i16 0, .int .i16 0, .int .i16 0, .int .i16 0, .int .i16 0, .int .i16 0, .int .i16 0, .int .i16 0, .int .i16 0, .int .i16 0, .int .i16 0, .int .i16 0, .int .i16 0, .int .i16 0, .int .i16 0, .int .i16 0, .int .i16 0, .int .i16 0, .int .i16 0, .int .i16 0, .int .i16 0, .int .i16 0, .int .i16 0, .int .i16 0, .int .i16 0, .int .i16 0, .int .i16 0, .int .i16 0, .int .i16 0, .int .i16 0, .int .i16 0, .int .i16 0, .int .i16 0, .int .i16 0, .int .i16 0, .int .i16 0, .int .i16 0, .int .i16 0, .int .i16 0, .int .i16 0, .int .i16 0, .int .i16 0, .int .i16 0, .int .i16 0] 28)).rowOther (b' := w1.heap.size + 1) (by omega) (arrV .i16 64 fun _ => 0)
  have d6 := (a6.setRow .i16 fun _ => 0).congr (fun j _ => mixG_0 (fun _ => 0) G j)
  have kz : w.heap.size ≤ ((w1.alloc (.cells #[.int .i64 0, .int .i64 0, .int .i64 0, .int .i64 0, .int .i64 0, .int .i64 0, .int .i64 0, .int .i64 0, .int .i64 0, .int .i64 0, .int .i64 0, .int .i64 0, .int .i64 0, .int .i64 0, .int .i64 0, .int .i64 0, .int .i64 0, .int .i64 0, .int .i64 0, .int .i64 0, .int .i64 0, .int .i64 0, .int .i64 0, .int .i64 0, .int .i64 0, .int .i64 0, .int .i64 0, .int .i64 0, .int .i64 0, .int .i64 0, .int .i64 0, .int .i64 0, .int .i64 0, .int .i64 0, .int .i64 0, .int .i64 0, .int .i64 0, .int .i64 0, .int .i64 0, .int .i64 0, .int .i64 0, .int .i64 0, .int .i64 0, .int .i64 0, .int .i64 0, .int .i64 0, .int .i64 0, .int .i64 0, .int .i64 0, .int .i64 0, .int .i64 0, .int .i64 0, .int .i64 0, .int .i64 0, .int .i64 0, .int .i64 0, .int .i64 0, .int .i64 0, .int .i64 0, .int .i64 0, .int .i64 0, .int .i64 0, .int .i64 0, .int .i64 0] 80)).setRow w1.heap.size (arrV .i64 64 T)).heap.size := by simp; omega
  have k6 := below_setRow (kk.alloc kz (.cells #[.int .i16 0, .int .i16 0, .int .i16 0, .int .i16 0, .int .i16 0, .int .i16 0, .int .i16 0, .int .i16 0, .int .i16 0, .int .i16 0, .int .i16 0, .int .i16 0, .int .i16 0, .int .i16 0, .int .i16 0, .int .i16 0, .int .i16 0, .int .i16 0, .int .i16 0, .int .i16 0, .int .i16 0, .int .i16 0, .int .i16 0, .int .i16 0, .int .i16 0, .int .i16 0, .int .i16 0, .int .i16 0, .int .i16 0, .int .i16 0, .int .i16 0, .int .i16 0, .int .i16 0, .int .i16 0, .int .i16 0, .int .i16 0, .int .i16 0, .int .i16 0, .int .i16 0, .int .i16 0, .int .i16 0, .int .i16 0, .int .i16 0, .int .i16 0, .int .i16 0, .int .i16 0, .int .i16 0, .int .i16 0, .int .i16 0, .int .i16 0, .int .i16 0, .int .i16 0, .int .i16 0, .int .i16 0, .int .i16 0, .int .i16 0, .int .i16 0, .int .i16 0, .int .i16 0, .int .i16 0, .int .i16 0, .int .i16 0, .int .i16 0, .int .i16 0] 28)) (b := w1.heap.size + 1) (by omega) (arrV .i16 64 fun _ => 0)
  have K0 := Lib.hid (And.intro d0 (And.intro d1 (And.intro d6 k6)))
  clear a0 k0 hrk hb1 b0 k1 kk c1 d0 d1 d6 k6 kz
  go_wp2_with (first | (refine wpList_store_arr a1 _ _ _ rfl rfl rfl rfl sizeI64 ?_) | (refine wpList_store_zS a6 _ _ _ rfl rfl rfl rfl sizePrint ?_))
  clear a1 a6
  go_loopw [9] (fun i wr => ∃ c : Nat, c ≤ 64 ∧ i = .int .i64 (c : Int) ∧ HasArr wr w.heap.size 28 .i16 64 (fun _ => 0) ∧ HasArr wr w1.heap.size 80 .i64 64 T ∧ HasArr wr (w1.heap.size + 1) 28 .i16 64 (mixG (fun _ => 0) G c) ∧ Below w.heap.size w wr) (fun i _ => 64 - (intOf i).toNat)
  case atStart => exact ⟨0, by omega, rfl, K0.out⟩
  case round =>
    obtain ⟨c, hc, rfl, h0, h1, h2, hB⟩ := hrel
    clear K0
    by_cases hcn : c < 64
    · have w4 : (c : Int) < 64 := by omega
      have cn := (ha.below hB ha.lt).cell hcn
      have cl := h1.cell hcn
      have hb := Hf.out c hcn
      have ht := Htb.out c
      have hFc := HF.out c
      have hpr := fun W h => Hpr.out (f c) (T c) hb.1 hb.2 ht.1 ht.2 W h
      rw [← hFc] at hpr
      have hst := fun (W : World) (h : HasArr W (w1.heap.size + 1) 28 .i16 64 (mixG (fun _ => 0) G c)) => (h.set c (G c)).congr (fun j _ => mixG_step (fun _ => 0) G c j)
      clear hFc
      generalize G c = V at *
      generalize T c = L at *
      generalize f c = D at *
      have hrw := hr.below hB hr.lt
      have Hp := Lib.hid (fun (x : WIn (Below wr.heap.size wr)) => hpr x.w (hrw.below x.ok hrw.lt)); clear hpr hrw
      have Hst := Lib.hid hst; clear hst
      have HR0 := Lib.hid h0; clear h0
      have HR1 := Lib.hid h1; clear h1
      have HR2 := Lib.hid h2; clear h2
      have HB := Lib.hid hB; clear hB
      go_wp2_with fail
      refine wp_region_quiet_tail 12 (fun w' => ∃ x : WIn (Below wr.heap.size wr), w' = x.w) (by kernel_rfl) (by kernel_rfl) ⟨⟨_, below_drew1 _⟩, rfl⟩ ?_
      simp only [List.take_succ_cons, List.take_zero, List.drop_succ_cons, List.drop_zero]
      have n0 := below_nonempty wr
      have f0 := inCell cn
      have f1 := inCell cl
      refine wpQuiet_yield (.int .i64 (c : Int)) rfl (fun _ => rfl) ?_
      go_frame
      refine wpQuiet_yield (.pointer (some ⟨g, 0, none⟩)) rfl (fun _ => rfl) ?_
      go_frame
      refine wpQuiet_yield (.int .i64 (c : Int)) rfl (fun _ => rfl) ?_
      go_frame
      refine wpQuiet_yield (.pointer (some ⟨g, 0, none⟩)) rfl (fun _ => rfl) ?_
      go_frame
      quiet_step (fail)
      quiet_step (fail)
      refine wpQuiet_yield (.slice (some ⟨b, 0, none⟩) n cap) rfl (fun _ => rfl) ?_
      go_frame
      refine wpQuiet_yield (.int .i64 (c : Int)) rfl (fun _ => rfl) ?_
      go_frame
      quiet_step (fail)
      quiet_step (fail)
      quiet_step ((go_at_call 32; exact inCall _ (Hp.out _)))
      quiet_step (fail)
      refine wpQuiet_nil ?_
      rintro w2 ⟨⟨w3, hb2⟩, rfl⟩
      have g0 := HR0.out.below hb2 HR0.out.lt
      have g1 := HR1.out.below hb2 HR1.out.lt
      have g2 := HR2.out.below hb2 HR2.out.lt
      have gB := HB.out.trans (hb2.mono HB.out.size)
      have d0 := g2.cell hcn
      have e0 := g2.free c
      have K := Lib.hid (And.intro (g0.other (a := ⟨w1.heap.size + 1, c, none⟩) (by simp; omega) (.int .i16 V)) (And.intro (g1.other (a := ⟨w1.heap.size + 1, c, none⟩) (by simp) (.int .i16 V)) (And.intro (Hst.out _ g2) (gB.setCell (p := ⟨w1.heap.size + 1, c, none⟩) (by simp; omega) (.int .i16 V)))))
      clear g0 g1 g2 gB f0 f1 n0 cn cl
      go_wp2_with fail
      go_roundw
      case rel => exact ⟨c + 1, by omega, by go_num, K.out⟩
      case measure => simp [intOf]; omega
    · obtain rfl : c = 64 := by omega
      have h2 := h2.congr (g := G) (fun j hj => mixG_64 hj)
      have h2' := h0.setRow .i16 G
      have hB' := below_setRow hB (b := w.heap.size) (by omega) (arrV .i16 64 G)
      go_wp2_with (first | (refine wpList_load_arr h2 _ _ rfl rfl rfl Tryd.underlying28 sizePrint ?_) | (refine wpList_store_arr h0 _ _ _ rfl rfl rfl rfl sizePrint ?_))
      refine bodyPost_ret (v := .agg (arrV .i16 64 G)) ?_ rfl ⟨rfl, hB'⟩
      exact results_cell_row rfl _ _ _ _ _ _ _ rfl h2' Tryd.underlying28 rfl (by rw [arrV_size]; exact sizePrint)
end Go.Proofs.YtnlcjbobfhmnmaaDoor

/-
  Two baths that are poured together: what the reference and the program return. Condition of the program's: its errors.
-/
import Derived.Test.YtapbbonobhebpaaDoorBathI
import Derived.Test.YtapbbonobhebpaaDoorPhaseB
namespace Go.Proofs.YtapbbonobhebpaaDoor
open Go.RowKit

/-- The tail: the box is made and filled. -/
theorem tail_bath2 {P : Program} {ops : Array Oper} {W : World} {v0 v1 v2 : Int} {oA oS : Oper} {aF : Act} {L : Act → Ph3 → Prop} {T : TypeId}
    (wA : Region.wanted oA (yielded ops aF.tmps) = true)
    (rA : ∀ w, (execOp aF.eval oA).run P w = .ok (.value (.pointer (some ⟨w.heap.size, 0, none⟩))) (w.alloc (.cells #[.int .i64 0, .int .i64 0, .int .i64 0] T)))
    (wS : ∀ q : Nat, Region.wanted oS (yielded ops (aF.put oA.dst (.pointer (some ⟨q, 0, none⟩))).tmps) = true)
    (rS : ∀ (q : Nat) w, BtAt w q 0 0 0 → (execOp (aF.put oA.dst (.pointer (some ⟨q, 0, none⟩))).eval oS).run P w = .ok .skip (((w.setCell ⟨q, 0, none⟩ (.int .i64 v0)).setCell ⟨q, 1, none⟩ (.int .i64 v1)).setCell ⟨q, 2, none⟩ (.int .i64 v2)))
    (hL : ∀ k, L ((aF.put oA.dst (.pointer (some ⟨W.heap.size + k, 0, none⟩))).put oS.dst undef) (.p2 k)) :
    tList P ops (clB W v0 v1 v2) L [oA, oS] aF .p0 := by
  refine ⟨wA, ?_⟩
  rintro _ ⟨x, rfl⟩
  rw [rA]
  have hx : Below W.heap.size W x.w := x.ok
  obtain ⟨k, hk⟩ : ∃ k, x.w.heap.size = W.heap.size + k := ⟨x.w.heap.size - W.heap.size, by have := hx.size; omega⟩
  refine ⟨.p1 k, ⟨⟨_, hx.alloc hx.size _, BtAt.newAt x.w _ hk.symm T 0 0 0⟩, rfl⟩, ?_⟩
  rw [hk]
  refine ⟨wS _, ?_⟩
  rintro _ ⟨y, rfl⟩
  have hy := y.ok
  rw [rS _ _ hy.2]
  exact ⟨.p2 k, ⟨⟨_, ((hy.1.setCell (by show W.heap.size ≤ W.heap.size + k; omega) _).setCell (by show W.heap.size ≤ W.heap.size + k; omega) _).setCell (by show W.heap.size ≤ W.heap.size + k; omega) _, ((hy.2.set0 v0).set1 v1).set2 v2⟩, rfl⟩, hL k⟩

section
variable {p k b t v u a v1 u1 a1 : Int}

set_option maxRecDepth 100000 in
set_option maxHeartbeats 2000000 in
theorem specMixBaths_any (hb : -128 ≤ b) (hb' : b ≤ 127) (ht : -128 ≤ t) (ht' : t ≤ 127) (w : World) :
    Calls Tryd.prog 21 #[devV p k b t, batV v u a, batV v1 u1 a1] w fun e w' => e = .returned (.tuple #[batV (ifC (mixC p k b t v u a v1 u1 a1) (v + v1)) (ifC (mixC p k b t v u a v1 u1 a1) (u + u1)) (ifC (mixC p k b t v u a v1 u1 a1) (mixA v a v1 a1)), .int .i64 (mixC p k b t v u a v1 u1 a1)]) ∧ Below w.heap.size w w' := by
  have hoA := fun W => l04Ok_any (p := p) (k := k) (b := b) (t := t) (v := v) (u := u) (a := a) hb hb' ht ht' W
  have hoB := fun W => l04Ok_any (p := p) (k := k) (b := b) (t := t) (v := v1) (u := u1) (a := a1) hb hb' ht ht' W
  have kk : Below w.heap.size w ((((w.alloc (.cells #[.int .i64 p, .int .i64 k, .int .i8 b, .int .i8 t] 26)).alloc (.cells #[.int .i64 v, .int .i64 u, .int .i64 a] 28)).alloc (.cells #[.int .i64 v1, .int .i64 u1, .int .i64 a1] 28)).alloc (.cells #[.int .i64 0, .int .i64 0, .int .i64 0] 28)) := by
    repeat (first | exact Below.refl _ _ | (refine Below.alloc ?_ (by first | omega | (simp; done) | (simp; omega)) _))
  have D0 : DvAt ((((w.alloc (.cells #[.int .i64 p, .int .i64 k, .int .i8 b, .int .i8 t] 26)).alloc (.cells #[.int .i64 v, .int .i64 u, .int .i64 a] 28)).alloc (.cells #[.int .i64 v1, .int .i64 u1, .int .i64 a1] 28)).alloc (.cells #[.int .i64 0, .int .i64 0, .int .i64 0] 28)) w.heap.size p k b t := (((DvAt.newAt w _ rfl _ p k b t).alloc _).alloc _).alloc _
  have A0 : BtAt ((((w.alloc (.cells #[.int .i64 p, .int .i64 k, .int .i8 b, .int .i8 t] 26)).alloc (.cells #[.int .i64 v, .int .i64 u, .int .i64 a] 28)).alloc (.cells #[.int .i64 v1, .int .i64 u1, .int .i64 a1] 28)).alloc (.cells #[.int .i64 0, .int .i64 0, .int .i64 0] 28)) (w.heap.size + 1) v u a := ((BtAt.newAt _ _ (by simp) _ v u a).alloc _).alloc _
  have B0 : BtAt ((((w.alloc (.cells #[.int .i64 p, .int .i64 k, .int .i8 b, .int .i8 t] 26)).alloc (.cells #[.int .i64 v, .int .i64 u, .int .i64 a] 28)).alloc (.cells #[.int .i64 v1, .int .i64 u1, .int .i64 a1] 28)).alloc (.cells #[.int .i64 0, .int .i64 0, .int .i64 0] 28)) (w.heap.size + 1 + 1) v1 u1 a1 := (BtAt.newAt _ _ (by simp) _ v1 u1 a1).alloc _
  have R0 : BtAt ((((w.alloc (.cells #[.int .i64 p, .int .i64 k, .int .i8 b, .int .i8 t] 26)).alloc (.cells #[.int .i64 v, .int .i64 u, .int .i64 a] 28)).alloc (.cells #[.int .i64 v1, .int .i64 u1, .int .i64 a1] 28)).alloc (.cells #[.int .i64 0, .int .i64 0, .int .i64 0] 28)) (w.heap.size + 1 + 1 + 1) 0 0 0 := BtAt.newAt _ _ (by simp) _ 0 0 0
  unfold mixC
  rcases h1 : bathOk p k b t v u a with _ | _
  · rw [h1] at hoA
    have HoA := Lib.hid hoA; clear hoA hoB h1
    simp only [Bool.false_eq_true, false_and, if_false, ifC_1]
    go_enter Tryd.func21, Tryd.ntmps21
    go_wp2_with fail
    refine (HoA.out _).mono ?_; rintro e w1 ⟨rfl, hb1⟩
    have k1 := kk.trans (hb1.mono kk.size)
    have D1 := D0.below hb1 (Nat.le_refl _)
    have A1 := A0.below hb1 (Nat.le_refl _)
    have B1 := B0.below hb1 (Nat.le_refl _)
    have R1 := R0.below hb1 (Nat.le_refl _)
    clear hb1 D0 A0 B0 R0 kk
    have R9 := R1
    obtain ⟨r0, r1, r2, y0, y1, y2⟩ := R9
    have hlt := R1.lt
    go_wp2_with fail
    clear r0 r1 r2 y0 y1 y2
    obtain ⟨W9, e9, D9, k9⟩ := R1.stored k1 (by omega) 0 0 0
    rw [← e9]
    clear e9
    obtain ⟨c0, c1, c2, _, _, _⟩ := D9
    exact bodyPost_ret (v := .tuple #[batV 0 0 0, .int .i64 1]) (by simp [results, Tryd.results21, go_sem, c0, c1, c2]) rfl ⟨rfl, k9⟩
  rw [h1] at hoA
  have HoA := Lib.hid hoA; clear hoA
  rcases h2 : bathOk p k b t v1 u1 a1 with _ | _
  · rw [h2] at hoB
    have HoB := Lib.hid hoB; clear hoB h2 h1
    simp only [Bool.false_eq_true, and_false, if_false, ifC_1]
    go_enter Tryd.func21, Tryd.ntmps21
    go_wp2_with fail
    refine (HoA.out _).mono ?_; rintro e w1 ⟨rfl, hb1⟩
    have k1 := kk.trans (hb1.mono kk.size)
    have D1 := D0.below hb1 (Nat.le_refl _)
    have A1 := A0.below hb1 (Nat.le_refl _)
    have B1 := B0.below hb1 (Nat.le_refl _)
    have R1 := R0.below hb1 (Nat.le_refl _)
    clear hb1 D0 A0 B0 R0 kk
    have D9 := D1
    have B9 := B1
    obtain ⟨d0, d1, d2, d3⟩ := D9
    obtain ⟨b0, b1, b2, _, _, _⟩ := B9
    go_wp2_with fail
    refine (HoB.out _).mono ?_; rintro e w2 ⟨rfl, hb2⟩
    clear d0 d1 d2 d3 b0 b1 b2
    have k2 := k1.trans (hb2.mono k1.size)
    have D2 := D1.below hb2 (Nat.le_refl _)
    have A2 := A1.below hb2 (Nat.le_refl _)
    have B2 := B1.below hb2 (Nat.le_refl _)
    have R2 := R1.below hb2 (Nat.le_refl _)
    clear hb2 D1 A1 B1 R1 k1
    have R9 := R2
    obtain ⟨r0, r1, r2, y0, y1, y2⟩ := R9
    have hlt := R2.lt
    go_wp2_with fail
    clear r0 r1 r2 y0 y1 y2
    obtain ⟨W9, e9, D9, k9⟩ := R2.stored k2 (by omega) 0 0 0
    rw [← e9]
    clear e9
    obtain ⟨c0, c1, c2, _, _, _⟩ := D9
    exact bodyPost_ret (v := .tuple #[batV 0 0 0, .int .i64 1]) (by simp [results, Tryd.results21, go_sem, c0, c1, c2]) rfl ⟨rfl, k9⟩
  rw [h2] at hoB
  have HoB := Lib.hid hoB; clear hoB
  have hA := bathOk_true.1 h1
  have hB := bathOk_true.1 h2
  clear h1 h2
  have hv0 := hA.v0
  have hv1 := hA.v1
  have hu0 := hA.u0
  have hu1 := hA.u1
  have hw0 := hB.v0
  have hw1 := hB.v1
  have hx0 := hB.u0
  have hx1 := hB.u1
  have hpa := prodB (a := a) (b := v) (A := 100000) (B := 20000) hA.a0 hA.a1 (by omega) hv1
  have hpb := prodB (a := a1) (b := v1) (A := 100000) (B := 20000) hB.a0 hB.a1 (by omega) hw1
  clear hA hB
  have hoM := fun W => l04Ok_any (p := p) (k := k) (b := b) (t := t) (v := (v + v1)) (u := (u + u1)) (a := (mixA v a v1 a1)) hb hb' ht ht' W
  simp only [and_self, if_true]
  unfold mixA at *
  generalize hPA : a * v = PA at *
  generalize hPB : a1 * v1 = PB at *
  rcases h3 : bathOk p k b t (v + v1) (u + u1) ((PA + PB) / (v + v1)) with _ | _
  · rw [h3] at hoM
    have HoM := Lib.hid hoM; clear hoM h3
    simp only [Bool.false_eq_true, if_false, ifC_3]
    go_enter Tryd.func21, Tryd.ntmps21
    go_wp2_with fail
    refine (HoA.out _).mono ?_; rintro e w1 ⟨rfl, hb1⟩
    have k1 := kk.trans (hb1.mono kk.size)
    have D1 := D0.below hb1 (Nat.le_refl _)
    have A1 := A0.below hb1 (Nat.le_refl _)
    have B1 := B0.below hb1 (Nat.le_refl _)
    have R1 := R0.below hb1 (Nat.le_refl _)
    clear hb1 D0 A0 B0 R0 kk
    have D9 := D1
    have B9 := B1
    obtain ⟨d0, d1, d2, d3⟩ := D9
    obtain ⟨b0, b1, b2, _, _, _⟩ := B9
    go_wp2_with fail
    refine (HoB.out _).mono ?_; rintro e w2 ⟨rfl, hb2⟩
    clear d0 d1 d2 d3 b0 b1 b2
    have k2 := k1.trans (hb2.mono k1.size)
    have D2 := D1.below hb2 (Nat.le_refl _)
    have A2 := A1.below hb2 (Nat.le_refl _)
    have B2 := B1.below hb2 (Nat.le_refl _)
    have R2 := R1.below hb2 (Nat.le_refl _)
    clear hb2 D1 A1 B1 R1 k1
    have A9 := A2
    have B9 := B2
    obtain ⟨a00, a01, a02, _, _, _⟩ := A9
    obtain ⟨b0, b1, b2, _, _, _⟩ := B9
    go_wp2_with fail
    refine wp_region_phases 20 (clB w2 (v + v1) (u + u1) ((PA + PB) / (v + v1))) .p0 (by kernel_rfl) (by kernel_rfl) ⟨⟨_, below_drew1 _⟩, rfl⟩ ?_
    apply Exists.intro
    refine ⟨fun ph => ?_, ?_⟩
    · simp only [List.take_succ_cons, List.take_zero]
      have n0 := phB_nonempty w2 (v + v1) (u + u1) ((PA + PB) / (v + v1)) ph
      have fa00 := fun (x : WIn (phB w2 (v + v1) (u + u1) ((PA + PB) / (v + v1)) ph)) => inCellP a00 x
      have fa01 := fun (x : WIn (phB w2 (v + v1) (u + u1) ((PA + PB) / (v + v1)) ph)) => inCellP a01 x
      have fa02 := fun (x : WIn (phB w2 (v + v1) (u + u1) ((PA + PB) / (v + v1)) ph)) => inCellP a02 x
      have fb0 := fun (x : WIn (phB w2 (v + v1) (u + u1) ((PA + PB) / (v + v1)) ph)) => inCellP b0 x
      have fb1 := fun (x : WIn (phB w2 (v + v1) (u + u1) ((PA + PB) / (v + v1)) ph)) => inCellP b1 x
      have fb2 := fun (x : WIn (phB w2 (v + v1) (u + u1) ((PA + PB) / (v + v1)) ph)) => inCellP b2 x
      repeat (go_big_quiet_step (fail))
      exact wpQuiet_nil rfl
    · simp only [List.drop_succ_cons, List.drop_zero]
      refine tail_bath2 (T := 28) rfl (fun w' => ?rA) (fun q => rfl) (fun q w' hw' => ?rS) (fun j => ?_)
      case rA => first | rfl | kernel_rfl | (go_simp; done) | simp [go_sem]
      case rS =>
        obtain ⟨g0, g1, g2, h0, h1, h2⟩ := hw'
        first | (go_simp; done) | (simp [go_sem, g0, g1, g2, h0, h1, h2]; done)
      rintro _ ⟨y, rfl⟩
      have Y := y.ok
      generalize y.w = w3 at *
      obtain ⟨ky, X3⟩ := Y
      simp [Act.put]
      have k3 := k2.trans (ky.mono k2.size)
      have D3 := D2.below ky (Nat.le_refl _)
      have R3 := R2.below ky (Nat.le_refl _)
      clear a00 a01 a02 b0 b1 b2 A2 B2 D2 R2 k2 ky
      obtain ⟨d0, d1, d2, d3⟩ := D3
      have X9 := X3
      obtain ⟨x0, x1, x2, _, _, _⟩ := X9
      go_wp2_with fail
      refine (HoM.out _).mono ?_; rintro e w4 ⟨rfl, hb4⟩
      have k4 := k3.trans (hb4.mono k3.size)
      have R4 := R3.below hb4 (Nat.le_refl _)
      have X4 := X3.below hb4 (Nat.le_refl _)
      clear x0 x1 x2 d0 d1 d2 d3 hb4 R3 X3 k3
      obtain ⟨x0, x1, x2, _, _, _⟩ := X4
      have R9 := R4
      obtain ⟨r0, r1, r2, y0, y1, y2⟩ := R9
      have hlt := R4.lt
      go_wp2_with fail
      clear r0 r1 r2 y0 y1 y2
      obtain ⟨W9, e9, D9, k9⟩ := R4.stored k4 (by omega) 0 0 0
      rw [← e9]
      clear e9
      obtain ⟨c0, c1, c2, _, _, _⟩ := D9
      exact bodyPost_ret (v := .tuple #[batV 0 0 0, .int .i64 3]) (by simp [results, Tryd.results21, go_sem, c0, c1, c2]) rfl ⟨rfl, k9⟩
  · rw [h3] at hoM
    have HoM := Lib.hid hoM; clear hoM h3
    simp only [if_true, ifC_0]
    go_enter Tryd.func21, Tryd.ntmps21
    go_wp2_with fail
    refine (HoA.out _).mono ?_; rintro e w1 ⟨rfl, hb1⟩
    have k1 := kk.trans (hb1.mono kk.size)
    have D1 := D0.below hb1 (Nat.le_refl _)
    have A1 := A0.below hb1 (Nat.le_refl _)
    have B1 := B0.below hb1 (Nat.le_refl _)
    have R1 := R0.below hb1 (Nat.le_refl _)
    clear hb1 D0 A0 B0 R0 kk
    have D9 := D1
    have B9 := B1
    obtain ⟨d0, d1, d2, d3⟩ := D9
    obtain ⟨b0, b1, b2, _, _, _⟩ := B9
    go_wp2_with fail
    refine (HoB.out _).mono ?_; rintro e w2 ⟨rfl, hb2⟩
    clear d0 d1 d2 d3 b0 b1 b2
    have k2 := k1.trans (hb2.mono k1.size)
    have D2 := D1.below hb2 (Nat.le_refl _)
    have A2 := A1.below hb2 (Nat.le_refl _)
    have B2 := B1.below hb2 (Nat.le_refl _)
    have R2 := R1.below hb2 (Nat.le_refl _)
    clear hb2 D1 A1 B1 R1 k1
    have A9 := A2
    have B9 := B2
    obtain ⟨a00, a01, a02, _, _, _⟩ := A9
    obtain ⟨b0, b1, b2, _, _, _⟩ := B9
    go_wp2_with fail
    refine wp_region_phases 20 (clB w2 (v + v1) (u + u1) ((PA + PB) / (v + v1))) .p0 (by kernel_rfl) (by kernel_rfl) ⟨⟨_, below_drew1 _⟩, rfl⟩ ?_
    apply Exists.intro
    refine ⟨fun ph => ?_, ?_⟩
    · simp only [List.take_succ_cons, List.take_zero]
      have n0 := phB_nonempty w2 (v + v1) (u + u1) ((PA + PB) / (v + v1)) ph
      have fa00 := fun (x : WIn (phB w2 (v + v1) (u + u1) ((PA + PB) / (v + v1)) ph)) => inCellP a00 x
      have fa01 := fun (x : WIn (phB w2 (v + v1) (u + u1) ((PA + PB) / (v + v1)) ph)) => inCellP a01 x
      have fa02 := fun (x : WIn (phB w2 (v + v1) (u + u1) ((PA + PB) / (v + v1)) ph)) => inCellP a02 x
      have fb0 := fun (x : WIn (phB w2 (v + v1) (u + u1) ((PA + PB) / (v + v1)) ph)) => inCellP b0 x
      have fb1 := fun (x : WIn (phB w2 (v + v1) (u + u1) ((PA + PB) / (v + v1)) ph)) => inCellP b1 x
      have fb2 := fun (x : WIn (phB w2 (v + v1) (u + u1) ((PA + PB) / (v + v1)) ph)) => inCellP b2 x
      repeat (go_big_quiet_step (fail))
      exact wpQuiet_nil rfl
    · simp only [List.drop_succ_cons, List.drop_zero]
      refine tail_bath2 (T := 28) rfl (fun w' => ?rA) (fun q => rfl) (fun q w' hw' => ?rS) (fun j => ?_)
      case rA => first | rfl | kernel_rfl | (go_simp; done) | simp [go_sem]
      case rS =>
        obtain ⟨g0, g1, g2, h0, h1, h2⟩ := hw'
        first | (go_simp; done) | (simp [go_sem, g0, g1, g2, h0, h1, h2]; done)
      rintro _ ⟨y, rfl⟩
      have Y := y.ok
      generalize y.w = w3 at *
      obtain ⟨ky, X3⟩ := Y
      simp [Act.put]
      have k3 := k2.trans (ky.mono k2.size)
      have D3 := D2.below ky (Nat.le_refl _)
      have R3 := R2.below ky (Nat.le_refl _)
      clear a00 a01 a02 b0 b1 b2 A2 B2 D2 R2 k2 ky
      obtain ⟨d0, d1, d2, d3⟩ := D3
      have X9 := X3
      obtain ⟨x0, x1, x2, _, _, _⟩ := X9
      go_wp2_with fail
      refine (HoM.out _).mono ?_; rintro e w4 ⟨rfl, hb4⟩
      have k4 := k3.trans (hb4.mono k3.size)
      have R4 := R3.below hb4 (Nat.le_refl _)
      have X4 := X3.below hb4 (Nat.le_refl _)
      clear x0 x1 x2 d0 d1 d2 d3 hb4 R3 X3 k3
      obtain ⟨x0, x1, x2, _, _, _⟩ := X4
      have R9 := R4
      obtain ⟨r0, r1, r2, y0, y1, y2⟩ := R9
      have hlt := R4.lt
      go_wp2_with fail
      clear r0 r1 r2 y0 y1 y2
      obtain ⟨W9, e9, D9, k9⟩ := R4.stored k4 (by omega) (v + v1) (u + u1) ((PA + PB) / (v + v1))
      rw [← e9]
      clear e9
      obtain ⟨c0, c1, c2, _, _, _⟩ := D9
      exact bodyPost_ret (v := .tuple #[batV (v + v1) (u + u1) ((PA + PB) / (v + v1)), .int .i64 0]) (by simp [results, Tryd.results21, go_sem, c0, c1, c2]) rfl ⟨rfl, k9⟩

set_option maxRecDepth 100000 in
set_option maxHeartbeats 2000000 in
theorem mixBaths_any (z : Ers) (hb : -128 ≤ b) (hb' : b ≤ 127) (ht : -128 ≤ t) (ht' : t ≤ 127) (w : World) (hE : ErrEnv z w) :
    Calls Tryd.prog 39 #[devV p k b t, batV v u a, batV v1 u1 a1] w (BathErr z (mixC p k b t v u a v1 u1 a1) (v + v1) (u + u1) (mixA v a v1 a1) w) := by
  have hoA := fun W => ValidBath_any p k b t (v) (u) (a) hb hb' ht ht' W
  have hoB := fun W => ValidBath_any p k b t (v1) (u1) (a1) hb hb' ht ht' W
  have kk : Below w.heap.size w ((((w.alloc (.cells #[.int .i64 p, .int .i64 k, .int .i8 b, .int .i8 t] 26)).alloc (.cells #[.int .i64 v, .int .i64 u, .int .i64 a] 28)).alloc (.cells #[.int .i64 v1, .int .i64 u1, .int .i64 a1] 28)).alloc (.cells #[.int .i64 0, .int .i64 0, .int .i64 0] 28)) := by
    repeat (first | exact Below.refl _ _ | (refine Below.alloc ?_ (by first | omega | (simp; done) | (simp; omega)) _))
  have D0 : DvAt ((((w.alloc (.cells #[.int .i64 p, .int .i64 k, .int .i8 b, .int .i8 t] 26)).alloc (.cells #[.int .i64 v, .int .i64 u, .int .i64 a] 28)).alloc (.cells #[.int .i64 v1, .int .i64 u1, .int .i64 a1] 28)).alloc (.cells #[.int .i64 0, .int .i64 0, .int .i64 0] 28)) w.heap.size p k b t := (((DvAt.newAt w _ rfl _ p k b t).alloc _).alloc _).alloc _
  have A0 : BtAt ((((w.alloc (.cells #[.int .i64 p, .int .i64 k, .int .i8 b, .int .i8 t] 26)).alloc (.cells #[.int .i64 v, .int .i64 u, .int .i64 a] 28)).alloc (.cells #[.int .i64 v1, .int .i64 u1, .int .i64 a1] 28)).alloc (.cells #[.int .i64 0, .int .i64 0, .int .i64 0] 28)) (w.heap.size + 1) v u a := ((BtAt.newAt _ _ (by simp) _ v u a).alloc _).alloc _
  have B0 : BtAt ((((w.alloc (.cells #[.int .i64 p, .int .i64 k, .int .i8 b, .int .i8 t] 26)).alloc (.cells #[.int .i64 v, .int .i64 u, .int .i64 a] 28)).alloc (.cells #[.int .i64 v1, .int .i64 u1, .int .i64 a1] 28)).alloc (.cells #[.int .i64 0, .int .i64 0, .int .i64 0] 28)) (w.heap.size + 1 + 1) v1 u1 a1 := (BtAt.newAt _ _ (by simp) _ v1 u1 a1).alloc _
  have R0 : BtAt ((((w.alloc (.cells #[.int .i64 p, .int .i64 k, .int .i8 b, .int .i8 t] 26)).alloc (.cells #[.int .i64 v, .int .i64 u, .int .i64 a] 28)).alloc (.cells #[.int .i64 v1, .int .i64 u1, .int .i64 a1] 28)).alloc (.cells #[.int .i64 0, .int .i64 0, .int .i64 0] 28)) (w.heap.size + 1 + 1 + 1) 0 0 0 := BtAt.newAt _ _ (by simp) _ 0 0 0
  have HE := Lib.hid hE; clear hE
  unfold BathErr
  unfold mixC
  rcases h1 : bathOk p k b t v u a with _ | _
  · rw [h1] at hoA
    have HoA := Lib.hid hoA; clear hoA hoB h1
    simp only [Bool.false_eq_true, false_and, if_false, ifC_1]
    go_enter Tryd.func39, Tryd.ntmps39
    go_wp2_with fail
    refine (HoA.out _).mono ?_; rintro e w1 ⟨rfl, hb1⟩
    have k1 := kk.trans (hb1.mono kk.size)
    have D1 := D0.below hb1 (Nat.le_refl _)
    have A1 := A0.below hb1 (Nat.le_refl _)
    have B1 := B0.below hb1 (Nat.le_refl _)
    have R1 := R0.below hb1 (Nat.le_refl _)
    clear hb1 D0 A0 B0 R0 kk
    have R9 := R1
    obtain ⟨r0, r1, r2, y0, y1, y2⟩ := R9
    have hlt := R1.lt
    have cg := (HE.out.below k1 (Nat.le_refl _)).c_einvalid
    have lg := cell_ltB HE.out.c_einvalid
    go_wp2_with fail
    go_region
    all_goals
      clear r0 r1 r2 y0 y1 y2
      go_wp2
      obtain ⟨W9, e9, D9, k9⟩ := R1.stored k1 (by omega) 0 0 0
      rw [← e9]
      clear e9
      obtain ⟨c0, c1, c2, _, _, _⟩ := D9.below (Below.refl _ _).drew (Nat.le_refl _)
      exact bodyPost_ret (v := .tuple #[batV 0 0 0, errV z.einvalid]) (by simp [results, Tryd.results39, go_sem, c0, c1, c2]) rfl ⟨_, rfl, .einvalid, k9.drew⟩
  rw [h1] at hoA
  have HoA := Lib.hid hoA; clear hoA
  rcases h2 : bathOk p k b t v1 u1 a1 with _ | _
  · rw [h2] at hoB
    have HoB := Lib.hid hoB; clear hoB h2 h1
    simp only [Bool.false_eq_true, and_false, if_false, ifC_1]
    go_enter Tryd.func39, Tryd.ntmps39
    go_wp2_with fail
    refine (HoA.out _).mono ?_; rintro e w1 ⟨rfl, hb1⟩
    have k1 := kk.trans (hb1.mono kk.size)
    have D1 := D0.below hb1 (Nat.le_refl _)
    have A1 := A0.below hb1 (Nat.le_refl _)
    have B1 := B0.below hb1 (Nat.le_refl _)
    have R1 := R0.below hb1 (Nat.le_refl _)
    clear hb1 D0 A0 B0 R0 kk
    have D9 := D1
    have B9 := B1
    obtain ⟨d0, d1, d2, d3⟩ := D9
    obtain ⟨b0, b1, b2, _, _, _⟩ := B9
    go_wp2_with fail
    refine (HoB.out _).mono ?_; rintro e w2 ⟨rfl, hb2⟩
    clear d0 d1 d2 d3 b0 b1 b2
    have k2 := k1.trans (hb2.mono k1.size)
    have D2 := D1.below hb2 (Nat.le_refl _)
    have A2 := A1.below hb2 (Nat.le_refl _)
    have B2 := B1.below hb2 (Nat.le_refl _)
    have R2 := R1.below hb2 (Nat.le_refl _)
    clear hb2 D1 A1 B1 R1 k1
    have R9 := R2
    obtain ⟨r0, r1, r2, y0, y1, y2⟩ := R9
    have hlt := R2.lt
    have cg := (HE.out.below k2 (Nat.le_refl _)).c_einvalid
    have lg := cell_ltB HE.out.c_einvalid
    go_wp2_with fail
    go_region
    all_goals
      clear r0 r1 r2 y0 y1 y2
      go_wp2
      obtain ⟨W9, e9, D9, k9⟩ := R2.stored k2 (by omega) 0 0 0
      rw [← e9]
      clear e9
      obtain ⟨c0, c1, c2, _, _, _⟩ := D9.below (Below.refl _ _).drew (Nat.le_refl _)
      exact bodyPost_ret (v := .tuple #[batV 0 0 0, errV z.einvalid]) (by simp [results, Tryd.results39, go_sem, c0, c1, c2]) rfl ⟨_, rfl, .einvalid, k9.drew⟩
  rw [h2] at hoB
  have HoB := Lib.hid hoB; clear hoB
  have hA := bathOk_true.1 h1
  have hB := bathOk_true.1 h2
  clear h1 h2
  have hv0 := hA.v0
  have hv1 := hA.v1
  have hu0 := hA.u0
  have hu1 := hA.u1
  have hw0 := hB.v0
  have hw1 := hB.v1
  have hx0 := hB.u0
  have hx1 := hB.u1
  have hpa := prodB (a := a) (b := v) (A := 100000) (B := 20000) hA.a0 hA.a1 (by omega) hv1
  have hpb := prodB (a := a1) (b := v1) (A := 100000) (B := 20000) hB.a0 hB.a1 (by omega) hw1
  clear hA hB
  have hoM := fun W => ValidBath_any p k b t ((v + v1)) ((u + u1)) ((mixA v a v1 a1)) hb hb' ht ht' W
  simp only [and_self, if_true]
  unfold mixA at *
  generalize hPA : a * v = PA at *
  generalize hPB : a1 * v1 = PB at *
  rcases h3 : bathOk p k b t (v + v1) (u + u1) ((PA + PB) / (v + v1)) with _ | _
  · rw [h3] at hoM
    have HoM := Lib.hid hoM; clear hoM h3
    simp only [Bool.false_eq_true, if_false, ifC_3]
    go_enter Tryd.func39, Tryd.ntmps39
    go_wp2_with fail
    refine (HoA.out _).mono ?_; rintro e w1 ⟨rfl, hb1⟩
    have k1 := kk.trans (hb1.mono kk.size)
    have D1 := D0.below hb1 (Nat.le_refl _)
    have A1 := A0.below hb1 (Nat.le_refl _)
    have B1 := B0.below hb1 (Nat.le_refl _)
    have R1 := R0.below hb1 (Nat.le_refl _)
    clear hb1 D0 A0 B0 R0 kk
    have D9 := D1
    have B9 := B1
    obtain ⟨d0, d1, d2, d3⟩ := D9
    obtain ⟨b0, b1, b2, _, _, _⟩ := B9
    go_wp2_with fail
    refine (HoB.out _).mono ?_; rintro e w2 ⟨rfl, hb2⟩
    clear d0 d1 d2 d3 b0 b1 b2
    have k2 := k1.trans (hb2.mono k1.size)
    have D2 := D1.below hb2 (Nat.le_refl _)
    have A2 := A1.below hb2 (Nat.le_refl _)
    have B2 := B1.below hb2 (Nat.le_refl _)
    have R2 := R1.below hb2 (Nat.le_refl _)
    clear hb2 D1 A1 B1 R1 k1
    have A9 := A2
    have B9 := B2
    obtain ⟨a00, a01, a02, _, _, _⟩ := A9
    obtain ⟨b0, b1, b2, _, _, _⟩ := B9
    go_wp2_with fail
    refine wp_region_phases 20 (clB w2 (v + v1) (u + u1) ((PA + PB) / (v + v1))) .p0 (by kernel_rfl) (by kernel_rfl) ⟨⟨_, below_drew1 _⟩, rfl⟩ ?_
    apply Exists.intro
    refine ⟨fun ph => ?_, ?_⟩
    · simp only [List.take_succ_cons, List.take_zero]
      have n0 := phB_nonempty w2 (v + v1) (u + u1) ((PA + PB) / (v + v1)) ph
      have fa00 := fun (x : WIn (phB w2 (v + v1) (u + u1) ((PA + PB) / (v + v1)) ph)) => inCellP a00 x
      have fa01 := fun (x : WIn (phB w2 (v + v1) (u + u1) ((PA + PB) / (v + v1)) ph)) => inCellP a01 x
      have fa02 := fun (x : WIn (phB w2 (v + v1) (u + u1) ((PA + PB) / (v + v1)) ph)) => inCellP a02 x
      have fb0 := fun (x : WIn (phB w2 (v + v1) (u + u1) ((PA + PB) / (v + v1)) ph)) => inCellP b0 x
      have fb1 := fun (x : WIn (phB w2 (v + v1) (u + u1) ((PA + PB) / (v + v1)) ph)) => inCellP b1 x
      have fb2 := fun (x : WIn (phB w2 (v + v1) (u + u1) ((PA + PB) / (v + v1)) ph)) => inCellP b2 x
      repeat (go_big_quiet_step (fail))
      exact wpQuiet_nil rfl
    · simp only [List.drop_succ_cons, List.drop_zero]
      refine tail_bath2 (T := 28) rfl (fun w' => ?rA) (fun q => rfl) (fun q w' hw' => ?rS) (fun j => ?_)
      case rA => first | rfl | kernel_rfl | (go_simp; done) | simp [go_sem]
      case rS =>
        obtain ⟨g0, g1, g2, h0, h1, h2⟩ := hw'
        first | (go_simp; done) | (simp [go_sem, g0, g1, g2, h0, h1, h2]; done)
      rintro _ ⟨y, rfl⟩
      have Y := y.ok
      generalize y.w = w3 at *
      obtain ⟨ky, X3⟩ := Y
      simp [Act.put]
      have k3 := k2.trans (ky.mono k2.size)
      have D3 := D2.below ky (Nat.le_refl _)
      have R3 := R2.below ky (Nat.le_refl _)
      clear a00 a01 a02 b0 b1 b2 A2 B2 D2 R2 k2 ky
      obtain ⟨d0, d1, d2, d3⟩ := D3
      have X9 := X3
      obtain ⟨x0, x1, x2, _, _, _⟩ := X9
      go_wp2_with fail
      refine (HoM.out _).mono ?_; rintro e w4 ⟨rfl, hb4⟩
      have k4 := k3.trans (hb4.mono k3.size)
      have R4 := R3.below hb4 (Nat.le_refl _)
      have X4 := X3.below hb4 (Nat.le_refl _)
      clear x0 x1 x2 d0 d1 d2 d3 hb4 R3 X3 k3
      obtain ⟨x0, x1, x2, _, _, _⟩ := X4
      have R9 := R4
      obtain ⟨r0, r1, r2, y0, y1, y2⟩ := R9
      have hlt := R4.lt
      have cg := (HE.out.below k4 (Nat.le_refl _)).c_elimit
      have lg := cell_ltB HE.out.c_elimit
      go_wp2_with fail
      go_region
      all_goals
        clear r0 r1 r2 y0 y1 y2
        go_wp2
        obtain ⟨W9, e9, D9, k9⟩ := R4.stored k4 (by omega) 0 0 0
        rw [← e9]
        clear e9
        obtain ⟨c0, c1, c2, _, _, _⟩ := D9.below (Below.refl _ _).drew (Nat.le_refl _)
        exact bodyPost_ret (v := .tuple #[batV 0 0 0, errV z.elimit]) (by simp [results, Tryd.results39, go_sem, c0, c1, c2]) rfl ⟨_, rfl, .elimit, k9.drew⟩
  · rw [h3] at hoM
    have HoM := Lib.hid hoM; clear hoM h3
    simp only [if_true, ifC_0]
    go_enter Tryd.func39, Tryd.ntmps39
    go_wp2_with fail
    refine (HoA.out _).mono ?_; rintro e w1 ⟨rfl, hb1⟩
    have k1 := kk.trans (hb1.mono kk.size)
    have D1 := D0.below hb1 (Nat.le_refl _)
    have A1 := A0.below hb1 (Nat.le_refl _)
    have B1 := B0.below hb1 (Nat.le_refl _)
    have R1 := R0.below hb1 (Nat.le_refl _)
    clear hb1 D0 A0 B0 R0 kk
    have D9 := D1
    have B9 := B1
    obtain ⟨d0, d1, d2, d3⟩ := D9
    obtain ⟨b0, b1, b2, _, _, _⟩ := B9
    go_wp2_with fail
    refine (HoB.out _).mono ?_; rintro e w2 ⟨rfl, hb2⟩
    clear d0 d1 d2 d3 b0 b1 b2
    have k2 := k1.trans (hb2.mono k1.size)
    have D2 := D1.below hb2 (Nat.le_refl _)
    have A2 := A1.below hb2 (Nat.le_refl _)
    have B2 := B1.below hb2 (Nat.le_refl _)
    have R2 := R1.below hb2 (Nat.le_refl _)
    clear hb2 D1 A1 B1 R1 k1
    have A9 := A2
    have B9 := B2
    obtain ⟨a00, a01, a02, _, _, _⟩ := A9
    obtain ⟨b0, b1, b2, _, _, _⟩ := B9
    go_wp2_with fail
    refine wp_region_phases 20 (clB w2 (v + v1) (u + u1) ((PA + PB) / (v + v1))) .p0 (by kernel_rfl) (by kernel_rfl) ⟨⟨_, below_drew1 _⟩, rfl⟩ ?_
    apply Exists.intro
    refine ⟨fun ph => ?_, ?_⟩
    · simp only [List.take_succ_cons, List.take_zero]
      have n0 := phB_nonempty w2 (v + v1) (u + u1) ((PA + PB) / (v + v1)) ph
      have fa00 := fun (x : WIn (phB w2 (v + v1) (u + u1) ((PA + PB) / (v + v1)) ph)) => inCellP a00 x
      have fa01 := fun (x : WIn (phB w2 (v + v1) (u + u1) ((PA + PB) / (v + v1)) ph)) => inCellP a01 x
      have fa02 := fun (x : WIn (phB w2 (v + v1) (u + u1) ((PA + PB) / (v + v1)) ph)) => inCellP a02 x
      have fb0 := fun (x : WIn (phB w2 (v + v1) (u + u1) ((PA + PB) / (v + v1)) ph)) => inCellP b0 x
      have fb1 := fun (x : WIn (phB w2 (v + v1) (u + u1) ((PA + PB) / (v + v1)) ph)) => inCellP b1 x
      have fb2 := fun (x : WIn (phB w2 (v + v1) (u + u1) ((PA + PB) / (v + v1)) ph)) => inCellP b2 x
      repeat (go_big_quiet_step (fail))
      exact wpQuiet_nil rfl
    · simp only [List.drop_succ_cons, List.drop_zero]
      refine tail_bath2 (T := 28) rfl (fun w' => ?rA) (fun q => rfl) (fun q w' hw' => ?rS) (fun j => ?_)
      case rA => first | rfl | kernel_rfl | (go_simp; done) | simp [go_sem]
      case rS =>
        obtain ⟨g0, g1, g2, h0, h1, h2⟩ := hw'
        first | (go_simp; done) | (simp [go_sem, g0, g1, g2, h0, h1, h2]; done)
      rintro _ ⟨y, rfl⟩
      have Y := y.ok
      generalize y.w = w3 at *
      obtain ⟨ky, X3⟩ := Y
      simp [Act.put]
      have k3 := k2.trans (ky.mono k2.size)
      have D3 := D2.below ky (Nat.le_refl _)
      have R3 := R2.below ky (Nat.le_refl _)
      clear a00 a01 a02 b0 b1 b2 A2 B2 D2 R2 k2 ky
      obtain ⟨d0, d1, d2, d3⟩ := D3
      have X9 := X3
      obtain ⟨x0, x1, x2, _, _, _⟩ := X9
      go_wp2_with fail
      refine (HoM.out _).mono ?_; rintro e w4 ⟨rfl, hb4⟩
      have k4 := k3.trans (hb4.mono k3.size)
      have R4 := R3.below hb4 (Nat.le_refl _)
      have X4 := X3.below hb4 (Nat.le_refl _)
      clear x0 x1 x2 d0 d1 d2 d3 hb4 R3 X3 k3
      obtain ⟨x0, x1, x2, _, _, _⟩ := X4
      have R9 := R4
      obtain ⟨r0, r1, r2, y0, y1, y2⟩ := R9
      have hlt := R4.lt
      go_wp2_with fail
      clear r0 r1 r2 y0 y1 y2
      obtain ⟨W9, e9, D9, k9⟩ := R4.stored k4 (by omega) (v + v1) (u + u1) ((PA + PB) / (v + v1))
      rw [← e9]
      clear e9
      obtain ⟨c0, c1, c2, _, _, _⟩ := D9
      exact bodyPost_ret (v := .tuple #[batV (v + v1) (u + u1) ((PA + PB) / (v + v1)), .nilIface]) (by simp [results, Tryd.results39, go_sem, c0, c1, c2]) rfl ⟨_, rfl, .ok, k9⟩

set_option maxRecDepth 100000 in
set_option maxHeartbeats 1000000 in
theorem MixBaths_any (z : Ers) (hb : -128 ≤ b) (hb' : b ≤ 127) (ht : -128 ≤ t) (ht' : t ≤ 127) (w : World) (hE : ErrEnv z w) :
    Calls Tryd.prog 20 #[devV p k b t, batV v u a, batV v1 u1 a1] w (BathCode (mixC p k b t v u a v1 u1 a1) (v + v1) (u + u1) (mixA v a v1 a1) w) := by
  have kk : Below w.heap.size w ((((w.alloc (.cells #[.int .i64 p, .int .i64 k, .int .i8 b, .int .i8 t] 26)).alloc (.cells #[.int .i64 v, .int .i64 u, .int .i64 a] 28)).alloc (.cells #[.int .i64 v1, .int .i64 u1, .int .i64 a1] 28)).alloc (.cells #[.int .i64 0, .int .i64 0, .int .i64 0] 28)) := by
    repeat (first | exact Below.refl _ _ | (refine Below.alloc ?_ (by first | omega | (simp; done) | (simp; omega)) _))
  have hba := fun W hE => mixBaths_any (p := p) (k := k) (b := b) (t := t) (v := v) (u := u) (a := a) (v1 := v1) (u1 := u1) (a1 := a1) z hb hb' ht ht' W hE
  unfold BathErr at hba
  unfold BathCode
  generalize mixC p k b t v u a v1 u1 a1 = C at *
  generalize ifC C (v + v1) = V0 at *
  generalize ifC C (u + u1) = V1 at *
  generalize ifC C (mixA v a v1 a1) = V2 at *
  have Hba := Lib.hid hba; clear hba
  go_enter Tryd.func20, Tryd.ntmps20
  go_wp2_with fail
  refine (Hba.out _ (hE.below kk (Nat.le_refl _))).mono ?_; rintro e w1 ⟨ev, rfl, hev, hb1⟩
  have R1 : BtAt w1 (w.heap.size + 1 + 1 + 1) 0 0 0 := BtAt.below (BtAt.newAt _ (w.heap.size + 1 + 1 + 1) (by simp) _ _ _ _) hb1 (Nat.le_refl _)
  have k1 := kk.trans (hb1.mono kk.size)
  have hz1 := R1.lt
  clear hb1 kk
  go_wp2_with fail
  refine (codedBath_any hev _ _ _ _ (hE.below k1 (Nat.le_refl _))).mono ?_; rintro e w2 ⟨rfl, hb2⟩
  have R2 := R1.below hb2 (Nat.le_refl _)
  have k2 := k1.trans (hb2.mono k1.size)
  have hz2 := R2.lt
  clear hb2 R1 k1 hz1
  have R9 := R2
  obtain ⟨r0, r1, r2, y0, y1, y2⟩ := R9
  go_wp2_with fail
  obtain ⟨W2, e2, D2, kk2⟩ := R2.stored k2 (by omega) V0 V1 V2
  rw [← e2]
  clear e2
  obtain ⟨c0, c1, c2, _, _, _⟩ := D2
  exact bodyPost_ret (v := .tuple #[batV V0 V1 V2, .int .i64 C]) (by simp [results, Tryd.results20, go_sem, c0, c1, c2]) rfl ⟨rfl, kk2⟩

end
end Go.Proofs.YtapbbonobhebpaaDoor

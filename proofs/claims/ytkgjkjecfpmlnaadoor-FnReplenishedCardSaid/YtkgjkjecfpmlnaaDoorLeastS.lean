/-
  The least that has to be replaced before each sheet: what the reference returns. No condition beside the bounds.
-/
import Derived.Test.YtkgjkjecfpmlnaaDoorLeastP
namespace Go.Proofs.YtkgjkjecfpmlnaaDoor
open Go.RowKit

section
variable {P : Program} {ops : Array Oper} {W : World} {V0 V1 V2 : Nat → Int}
/-- The classes: the new box holds the m-th values. -/
abbrev clN (W : World) (V0 V1 V2 : Nat → Int) (kk : Nat) (m : Nat) (w' : World) : Prop := ∃ x : WIn (phB W (V0 m) (V1 m) (V2 m) (.p2 kk)), w' = x.w
/-- The tail: the box is filled anew, and a slot is assigned. -/
theorem tail_store {oS oZ : Oper} {aF : Act} {L : Act → Nat → Prop} {u : Value} {kk m m' : Nat}
    (wS : Region.wanted oS (yielded ops aF.tmps) = true)
    (rS : ∀ w, BtAt w (W.heap.size + kk) (V0 m) (V1 m) (V2 m) → (execOp aF.eval oS).run P w = .ok .skip (((w.setCell ⟨W.heap.size + kk, 0, none⟩ (.int .i64 (V0 m'))).setCell ⟨W.heap.size + kk, 1, none⟩ (.int .i64 (V1 m'))).setCell ⟨W.heap.size + kk, 2, none⟩ (.int .i64 (V2 m'))))
    (wZ : Region.wanted oZ (yielded ops (aF.put oS.dst undef).tmps) = true)
    (rZ : ∀ w, (execOp (aF.put oS.dst undef).eval oZ).run P w = .ok (.value u) w)
    (hL : L ((aF.put oS.dst undef).put oZ.dst u) m') :
    tList P ops (clN W V0 V1 V2 kk) L [oS, oZ] aF m := by
  refine ⟨wS, ?_⟩
  rintro _ ⟨y, rfl⟩
  have hy := y.ok
  rw [rS _ hy.2]
  refine ⟨m', ⟨⟨_, ((hy.1.setCell (by show W.heap.size ≤ W.heap.size + kk; omega) _).setCell (by show W.heap.size ≤ W.heap.size + kk; omega) _).setCell (by show W.heap.size ≤ W.heap.size + kk; omega) _, ((hy.2.set0 _).set1 _).set2 _⟩, rfl⟩, ?_⟩
  refine ⟨wZ, ?_⟩
  rintro w3 hw3
  rw [rZ]
  exact ⟨m', hw3, hL⟩
end

section
variable {p k b t v u a : Int}
set_option maxRecDepth 100000 in
set_option maxHeartbeats 4000000 in
theorem specLeastReplenished_any (g n cap : Nat) (xs : Nat → Int) (sl : Int) (hn : n ≤ 1048576) (hb : -128 ≤ b) (hb' : b ≤ 127) (ht : -128 ≤ t) (ht' : t ≤ 127) (w : World) (hr : RowN w g n xs) :
    Calls Tryd.prog 15 #[devV p k b t, batV v u a, .slice (some ⟨g, 0, none⟩) n cap, .int .i64 sl] w
      (MadeT (lrR (lrJ p k b t v sl xs u a) v n (arC (bathOk p k b t v u a) n xs sl)) (lrV (lrJ p k b t v sl xs u a) v n (arC (bathOk p k b t v u a) n xs sl)) (lrC (lrJ p k b t v sl xs u a) v n (arC (bathOk p k b t v u a) n xs sl)) w) := by
  obtain ⟨i0, hi, hz0, hz1, hz2⟩ := info_parts i64Info
  have kk := below_2 w (.cells #[.int .i64 p, .int .i64 k, .int .i8 b, .int .i8 t] 26) (.cells #[.int .i64 v, .int .i64 u, .int .i64 a] 28)
  have har := fun W hr => l04Areas_any (p := p) (k := k) (b := b) (t := t) (v := v) (u := u) (a := a) g n cap xs sl hn hb hb' ht ht' W hr
  have hlt := hr.lt
  by_cases hC0 : arC (bathOk p k b t v u a) n xs sl = 0
  rotate_left
  · obtain ⟨e1, e2, e3⟩ := lr_no (J := lrJ p k b t v sl xs u a) (v := v) (n := n) hC0
    rw [e1, e2, e3]
    generalize arC (bathOk p k b t v u a) n xs sl = C at *
    have Har := Lib.hid har; clear har e1 e2 e3
    go_enter Tryd.func15, Tryd.ntmps15
    go_wp2_with fail
    refine (Har.out _ (hr.below kk hlt)).mono ?_; rintro e w1 ⟨rfl, hb1⟩
    have k1 := kk.trans (hb1.mono kk.size)
    go_wp2_with fail
    go_ret3
    exact ⟨_, rfl, .nil _ _ _ _ _ _ _ _, k1.alloc k1.size _⟩
  obtain ⟨hok, h60, hall, sl0, sl1⟩ := arC_zero hC0
  have h := bathOk_true.1 hok
  have hv0 := h.v0
  have hv1 := h.v1
  rw [hC0] at har ⊢
  have hJ0 : ∀ j, lrJ p k b t v sl xs u a j = lrM p k b t v sl (lrS p k b t v sl xs u a j).1 (lrS p k b t v sl xs u a j).2 (xs j) := fun _ => rfl
  have hU1 : ∀ j, (lrS p k b t v sl xs u a (j + 1)).1 = left (lrS p k b t v sl xs u a j).1 v (lrJ p k b t v sl xs u a j) + xs j := fun _ => rfl
  have hA1 : ∀ j, (lrS p k b t v sl xs u a (j + 1)).2 = left (lrS p k b t v sl xs u a j).2 v (lrJ p k b t v sl xs u a j) := fun _ => rfl
  have hS0 : (lrS p k b t v sl xs u a 0).1 = u ∧ (lrS p k b t v sl xs u a 0).2 = a := ⟨rfl, rfl⟩
  generalize lrJ p k b t v sl xs u a = J at *
  generalize hSd : lrS p k b t v sl xs u a = S at *
  clear hSd
  have HJ0 := Lib.hid hJ0; clear hJ0
  have HU1 := Lib.hid hU1; clear hU1
  have HA1 := Lib.hid hA1; clear hA1
  have Har := Lib.hid har; clear har
  have Hall := Lib.hid hall; clear hall hC0 hok
  have h61 : (n : Int) ≤ 60 := by omega
  go_enter Tryd.func15, Tryd.ntmps15
  go_wp2_with fail
  refine (Har.out _ (hr.below kk hlt)).mono ?_; rintro e w1 ⟨rfl, hb1⟩
  have k1 := kk.trans (hb1.mono kk.size)
  have D1 : DvAt w1 w.heap.size p k b t := DvAt.below ((DvAt.newAt _ w.heap.size rfl _ _ _ _ _).alloc _) hb1 (Nat.le_refl _)
  have B1 : BtAt w1 (w.heap.size + 1) v u a := BtAt.below (BtAt.newAt _ (w.heap.size + 1) (by simp) _ _ _ _) hb1 (Nat.le_refl _)
  have hz1a : w.heap.size + 2 ≤ w1.heap.size := by have := B1.lt; omega
  clear hb1 kk
  have HB0 := Lib.hid h; clear h
  rw [← hS0.1] at B1
  rw [← hS0.2] at B1
  have HB0' : Hid (BOk p k b t v (S 0).1 (S 0).2) := Lib.hid (by rw [hS0.1, hS0.2]; exact HB0.out)
  clear hS0 HB0
  have k2 := k1.alloc k1.size (.cells #[] 2)
  have D2 := D1.alloc (.cells #[] 2)
  have B2 := B1.alloc (.cells #[] 2)
  have o2 := World.ownsRow_lit (size := 1) (e := 2) (base := w.heap.size + 2) w1 #[] 0 hz1a (Nat.zero_le _) rfl
  clear k1 D1 B1
  go_wp2_with fail
  go_loopw [12, 13, 14] (fun ov tv iv wr => ∃ j : Nat, iv = .int .i64 j ∧ j ≤ n ∧ tv = .int .i64 (lrT J j) ∧ 0 ≤ lrT J j ∧ lrT J j ≤ 20000 * j ∧ Hid (∀ i, i < j → (J i : Int) ≤ v) ∧ Hid (BOk p k b t v (S j).1 (S j).2) ∧ wr.ownsRow (w.heap.size + 2) 2 1 ov (lrL J j).length ((lrL J j).map (Value.int .i64)) ∧ DvAt wr w.heap.size p k b t ∧ BtAt wr (w.heap.size + 1) v (S j).1 (S j).2 ∧ Below w.heap.size w wr) (fun _ _ iv _ => n - (intOf iv).toNat)
  case atStart => exact ⟨0, rfl, Nat.zero_le _, rfl, Int.le_refl _, Int.le_refl _, Lib.hid (fun i hi => absurd hi (Nat.not_lt_zero _)), HB0', o2, D2, B2, k2⟩
  case round =>
    clear k2 D2 B2 o2 HB0'
    obtain ⟨j, rfl, hj, rfl, hT0, hT1, HM, HB, hown, D2, B2, k2⟩ := hrel
    obtain ⟨wo, rfl⟩ : ∃ wo : World, wo = wr := ⟨wr, rfl⟩
    by_cases hjn : j < n
    rotate_left
    · have e : j = n := by omega
      subst e
      obtain ⟨e1, e2, e3⟩ := lr_yes (J := J) (v := v) (n := j) HM.out
      have HE := Lib.hid (And.intro e1 (And.intro e2 e3)); clear e1 e2 e3
      generalize lrT J j = X at *
      go_wp2_with fail
      go_ret3
      rw [HE.out.1, HE.out.2.1, HE.out.2.2]
      exact ⟨_, rfl, (Mine.of_ints hown).mono (by omega) (Nat.le_refl _), k2⟩
    have hs := inB_true.1 (allA_iff.1 Hall.out j hjn)
    have x1 : wo.cell? ⟨g, j, none⟩ = some (.int .i64 (xs j)) := by rw [k2.cell (p := ⟨g, j, none⟩) hlt]; exact hr.cell hjn
    obtain ⟨V0, V1, V2, hV, hrd⟩ := lrReady_any (s := xs j) (sl := sl) (by omega) hs.2 sl0 sl1 HB.out
    have hfl := fun (m : Nat) (hm : (m : Int) ≤ v) W => l04Fill_any (m : Int) HB.out (by omega) hm W
    have hrd0 := hrd 0 (S j).1 (S j).2 (by omega) (left_none hv0).symm (left_none hv0).symm
    have hrd1 := fun (m : Nat) (hm : (m : Int) ≤ v) => hrd m _ _ hm rfl rfl
    have hstep := fun hm => lr_step (s := xs j) (sl := sl) HB.out hm
    have hqe : ∀ m : Nat, (m : Int) ≤ v → (∀ i, i < m → lrQ p k b t v sl (S j).1 (S j).2 (xs j) i = false) → lrQ p k b t v sl (S j).1 (S j).2 (xs j) m = true → J j = m := fun m hm h0 h1 => by
      rw [HJ0.out j]; exact least_eq (by omega) h0 (fun _ => h1)
    have hqn : ∀ m : Nat, (m : Int) = v → (∀ i, i < m → lrQ p k b t v sl (S j).1 (S j).2 (xs j) i = false) → lrQ p k b t v sl (S j).1 (S j).2 (xs j) m = false → v < (J j : Int) := fun m hm h0 h1 => by
      have : J j = v.toNat + 1 := by
        rw [HJ0.out j]
        exact least_eq (Nat.le_refl _) (fun i hi => by
          rcases Nat.lt_or_ge i m with h2 | h2
          · exact h0 i h2
          · have : i = m := by omega
            rw [this]; exact h1) (fun h => absurd h (Nat.lt_irrefl _))
      omega
    rw [← HJ0.out j] at hstep
    have hu1 := HU1.out j
    have ha1 := HA1.out j
    generalize lrQ p k b t v sl (S j).1 (S j).2 (xs j) = q at *
    generalize hUe : (S (j + 1)).1 = U1 at *
    generalize hAe : (S (j + 1)).2 = A1 at *
    have HUe := Lib.hid hUe; clear hUe
    have HAe := Lib.hid hAe; clear hAe
    clear hrd
    have HV := Lib.hid hV; clear hV
    have Hfl := Lib.hid hfl; clear hfl
    have Hrd0 := Lib.hid hrd0; clear hrd0
    have Hrd1 := Lib.hid hrd1; clear hrd1
    have Hstep := Lib.hid hstep; clear hstep
    have Hqe := Lib.hid hqe; clear hqe
    have Hqn := Lib.hid hqn; clear hqn
    have Hu1 := Lib.hid hu1; clear hu1
    have Ha1 := Lib.hid ha1; clear ha1
    generalize hU : (S j).1 = U at *
    generalize hA : (S j).2 = A at *
    have D9 := D2
    have B9 := B2
    obtain ⟨d0, d1, d2, d3⟩ := D9
    obtain ⟨b0, b1, b2, y0, y1, y2⟩ := B9
    have hblt := B2.lt
    go_wp2_with fail
    refine wp_region_phases 11 (clB wo (V0 0) (V1 0) (V2 0)) .p0 (by kernel_rfl) (by kernel_rfl) ⟨⟨_, below_drew1 _⟩, rfl⟩ ?_
    apply Exists.intro
    refine ⟨fun ph => ?_, ?_⟩
    · simp only [List.take_succ_cons, List.take_zero]
      have n0 := phB_nonempty wo (V0 0) (V1 0) (V2 0) ph
      have f0 := fun (x : WIn (phB wo (V0 0) (V1 0) (V2 0) ph)) => inCellP d0 x
      have f1 := fun (x : WIn (phB wo (V0 0) (V1 0) (V2 0) ph)) => inCellP d1 x
      have f2 := fun (x : WIn (phB wo (V0 0) (V1 0) (V2 0) ph)) => inCellP d2 x
      have f3 := fun (x : WIn (phB wo (V0 0) (V1 0) (V2 0) ph)) => inCellP d3 x
      have f4 := fun (x : WIn (phB wo (V0 0) (V1 0) (V2 0) ph)) => inCellP b0 x
      have f5 := fun (x : WIn (phB wo (V0 0) (V1 0) (V2 0) ph)) => inCellP b1 x
      have f6 := fun (x : WIn (phB wo (V0 0) (V1 0) (V2 0) ph)) => inCellP b2 x
      have f7 := fun (x : WIn (phB wo (V0 0) (V1 0) (V2 0) ph)) => inCellP x1 x
      repeat (go_big_quiet_step (first | (go_at_call 35; exact inCallP _ (Hrd0.out _))))
      exact wpQuiet_nil rfl
    simp only [List.drop_succ_cons, List.drop_zero]
    refine tail_bath (T := 28) (u := .bool (q 0)) rfl (fun w' => ?rA) (fun q => rfl) (fun q w' hw' => ?rS) (fun q => rfl) (fun q w' => ?rZ) (fun kq => ?_)
    case rA => first | rfl | kernel_rfl | (go_simp; done) | simp [go_sem]
    case rS =>
      obtain ⟨g0, g1, g2, h0, h1, h2⟩ := hw'
      first | (go_simp; done) | (simp [go_sem, g0, g1, g2, h0, h1, h2]; done)
    case rZ => first | rfl | (go_simp; done) | simp [go_sem]
    rintro _ ⟨y, rfl⟩
    have Y := y.ok
    generalize y.w = w3 at *
    obtain ⟨ky, X3⟩ := Y
    clear d0 d1 d2 d3 b0 b1 b2 y0 y1 y2
    simp [Act.put]
    go_wp2_with fail
    go_loopw [15, 17] (fun mv okv wr => ∃ m : Nat, mv = .int .i64 m ∧ (m : Int) ≤ v ∧ okv = .bool (q m) ∧ Hid (∀ i, i < m → q i = false) ∧ BtAt wr (wo.heap.size + kq) (V0 m) (V1 m) (V2 m) ∧ Below wo.heap.size wo wr) (fun mv _ _ => (v - intOf mv).toNat)
    case atStart => exact ⟨0, rfl, by omega, rfl, Lib.hid (fun i hi => absurd hi (Nat.not_lt_zero _)), X3, ky⟩
    case round =>
      clear X3 ky
      obtain ⟨m, rfl, hmv, rfl, HQ, X3, ky⟩ := hrel
      have k3 := k2.trans (ky.mono k2.size)
      have D3 := D2.below ky (Nat.le_refl _)
      have B3 := B2.below ky (Nat.le_refl _)
      have x3 : wr.cell? ⟨g, j, none⟩ = some (.int .i64 (xs j)) := by rw [k3.cell (p := ⟨g, j, none⟩) hlt]; exact hr.cell hjn
      rcases hq : q m with _ | _
      · by_cases hmv2 : (m : Int) < v
        · have B9 := B3
          obtain ⟨b0, b1, b2, y0, y1, y2⟩ := B9
          have D9 := D3
          obtain ⟨d0, d1, d2, d3⟩ := D9
          have hmv3 : ((m + 1 : Nat) : Int) ≤ v := by omega
          have hfl1 := Hfl.out (m + 1) hmv3
          have hrd1 := Hrd1.out (m + 1) hmv3
          have ecast : ((m + 1 : Nat) : Int) = (m : Int) + 1 := by omega
          rw [ecast] at hfl1 hrd1
          have Hfl1 := Lib.hid hfl1; clear hfl1
          have Hr1 := Lib.hid hrd1; clear hrd1
          have hltq := X3.lt
          clear hmv3
          go_wp2_with fail
          refine wp_region_phases 13 (clN wo V0 V1 V2 kq) m (by kernel_rfl) (by kernel_rfl) ⟨⟨_, ky.drew, X3.below (below_drew1 _) (Nat.le_refl _)⟩, rfl⟩ ?_
          apply Exists.intro
          refine ⟨fun ph => ?_, ?_⟩
          · simp only [List.take_succ_cons, List.take_zero]
            have n0 := phB_nonempty wo (V0 ph) (V1 ph) (V2 ph) (.p2 kq)
            have q0 := D2
            have q1 := B2
            obtain ⟨d0, d1, d2, d3⟩ := q0
            obtain ⟨b0, b1, b2, _, _, _⟩ := q1
            have f0 := fun (x : WIn (phB wo (V0 ph) (V1 ph) (V2 ph) (.p2 kq))) => inCellP d0 x
            have f1 := fun (x : WIn (phB wo (V0 ph) (V1 ph) (V2 ph) (.p2 kq))) => inCellP d1 x
            have f2 := fun (x : WIn (phB wo (V0 ph) (V1 ph) (V2 ph) (.p2 kq))) => inCellP d2 x
            have f3 := fun (x : WIn (phB wo (V0 ph) (V1 ph) (V2 ph) (.p2 kq))) => inCellP d3 x
            have f4 := fun (x : WIn (phB wo (V0 ph) (V1 ph) (V2 ph) (.p2 kq))) => inCellP b0 x
            have f5 := fun (x : WIn (phB wo (V0 ph) (V1 ph) (V2 ph) (.p2 kq))) => inCellP b1 x
            have f6 := fun (x : WIn (phB wo (V0 ph) (V1 ph) (V2 ph) (.p2 kq))) => inCellP b2 x
            have f7 := fun (x : WIn (phB wo (V0 ph) (V1 ph) (V2 ph) (.p2 kq))) => inCellP x1 x
            repeat (go_big_quiet_step (first | (go_at_call 30; exact inCallP _ (Hfl1.out _)) | (go_at_call 35; exact inCallP _ (Hr1.out _))))
            exact wpQuiet_nil rfl
          simp only [List.drop_succ_cons, List.drop_zero]
          refine tail_store (m' := m + 1) (u := .bool (q (m + 1))) rfl (fun w' hw' => ?rS) rfl (fun w' => ?rZ) ?_
          case rS =>
            obtain ⟨g0, g1, g2, h0, h1, h2⟩ := hw'
            first | (go_simp; done) | (simp [go_sem, g0, g1, g2, h0, h1, h2]; done)
          case rZ => first | rfl | (go_simp; done) | simp [go_sem]
          rintro _ ⟨y, rfl⟩
          have Y := y.ok
          generalize y.w = w4 at *
          obtain ⟨ky4, X4⟩ := Y
          simp [Act.put]
          try go_wp2_with fail
          go_roundw
          case rel =>
            refine ⟨m + 1, by go_num, by omega, rfl, Lib.hid (fun i hi => ?_), X4, ky4⟩
            rcases Nat.lt_or_ge i m with h2 | h2
            · exact HQ.out i h2
            · have : i = m := by omega
              rw [this]; exact hq
          case measure => simp [intOf]; omega
        · have hbad := Hqn.out m (by omega) HQ.out hq
          obtain ⟨e1, e2, e3⟩ := lr_not (J := J) (v := v) (n := n) hjn HM.out hbad
          have HE := Lib.hid (And.intro e1 (And.intro e2 e3)); clear e1 e2 e3 hbad hq
          have hem : (m : Int) = v := by omega
          have B9 := B3
          obtain ⟨b0, b1, b2, y0, y1, y2⟩ := B9
          generalize lrT J j = X at *
          go_wp2_with fail
          go_ret3
          rw [HE.out.1, HE.out.2.1, HE.out.2.2]
          exact ⟨_, rfl, .nil _ _ _ _ _ _ _ _, k3.alloc k3.size _⟩
      · have hJm := Hqe.out m hmv HQ.out hq
        have hst := Hstep.out (by rw [hJm]; exact hmv)
        obtain ⟨hv0', hv1', hv2'⟩ := HV.out m hmv hq
        rw [hv0', hv1', hv2'] at X3
        rw [hJm] at hst
        have hu1 := Hu1.out
        have ha1 := Ha1.out
        rw [hJm] at hu1 ha1
        have HO := Lib.hid hst.2; clear hst
        clear hv0' hv1' hv2' hq
        rw [← hu1, ← ha1] at X3 HO
        have own3 := own_below hown ky
        have hlen := lrL_len J j
        have hL : lrL J (j + 1) = lrL J j ++ [(m : Int)] := by show lrL J j ++ [(J j : Int)] = _; rw [hJm]
        have hTs : lrT J (j + 1) = lrT J j + m := by show lrT J j + (J j : Int) = _; rw [hJm]
        have HL := Lib.hid hL; clear hL
        have HTs := Lib.hid hTs; clear hTs
        have HJm := Lib.hid hJm; clear hJm hu1 ha1
        have hQ := X3.lt
        have hfar : ∀ jj, u12.ownBlock = some jj → w.heap.size + 2 ≤ jj ∧ jj < wo.heap.size := fun jj hjj => hown.lt jj hjj
        clear hown x1 x3
        have hz := k3.size
        generalize lrT J j = X at *
        go_wp2_with (at_builtin; refine wpList_append_own _ rfl _ _ 38 rfl (w.heap.size + 2) 2 i0 (.int .i64 0) 1 8 Tryd.underlying38 hi hz0 hz1 hz2 rfl (by decide) _ _ _ rfl (own3.alloc _) ⟨wr.heap.size, 0, none⟩ 1 1 [.int .i64 m] rfl rfl ?c1 ?c2 ?c3 ?c4 ?c5 ?_)
        case c1 =>
          intro j u hj
          match j, hj with
          | 0, hj => simp at hj; subst hj; simp [Addr.add, go_sem]
        case c2 => intro u hu; simp at hu; subst hu; rfl
        case c3 => unfold maxLen; omega
        case c4 => omega
        case c5 => simp; have := B3.lt; omega
        intro v' w5 hown2 hg2 _
        have hne0 : some w.heap.size ≠ u12.ownBlock := fun e => by have := (hfar _ e.symm).1; omega
        have hne1 : some (w.heap.size + 1) ≠ u12.ownBlock := fun e => by have := (hfar _ e.symm).1; omega
        have hne2 : some (wo.heap.size + kq) ≠ u12.ownBlock := fun e => by have := (hfar _ e.symm).2; omega
        have D5 := (D3.alloc (.cells #[.int .i64 m] 2)).far hg2 hne0
        have B5 := (B3.alloc (.cells #[.int .i64 m] 2)).far hg2 hne1
        have X5 := (X3.alloc (.cells #[.int .i64 m] 2)).far hg2 hne2
        have k5 : Below w.heap.size w w5 := (k3.alloc hz _).grown hg2 (by simp; omega) (fun jj hjj => by have := (hfar jj hjj).1; omega)
        have hown5 : w5.ownsRow (w.heap.size + 2) 2 1 v' (lrL J (j + 1)).length ((lrL J (j + 1)).map (Value.int .i64)) := by
          rw [HL.out]; simpa [hlen] using hown2
        clear hown2 hg2 hne0 hne1 hne2 D3 B3 X3 k3 own3 D2 B2 k2
        have B9 := B5
        obtain ⟨b0, b1, b2, y0, y1, y2⟩ := B9
        have X9 := X5
        obtain ⟨z0, z1, z2, _, _, _⟩ := X9
        have hb5 := B5.lt
        have hx5 := X5.lt
        go_wp2_with fail
        clear b0 b1 b2 y0 y1 y2 z0 z1 z2
        go_roundw
        case rel =>
          refine ⟨j + 1, by go_num, by omega, by rw [HTs.out], by rw [HTs.out]; omega, by rw [HTs.out]; omega, Lib.hid (fun i hi => ?_), by rw [HUe.out, HAe.out]; exact HO, ?_, ((D5.setNe (by simp) _).setNe (by simp) _).setNe (by simp) _, by rw [HUe.out, HAe.out]; exact ((B5.set0 _).set1 _).set2 _, ((k5.setCell (by simp) _).setCell (by simp) _).setCell (by simp) _⟩
          · rcases Nat.lt_or_ge i j with h2 | h2
            · exact HM.out i h2
            · have : i = j := by omega
              rw [this, HJm.out]; exact hmv
          · exact ownsRow_setCell_below (ownsRow_setCell_below (ownsRow_setCell_below hown5 (by simp) _) (by simp) _) (by simp) _
        case measure => simp [intOf]; omega
end
end Go.Proofs.YtkgjkjecfpmlnaaDoor

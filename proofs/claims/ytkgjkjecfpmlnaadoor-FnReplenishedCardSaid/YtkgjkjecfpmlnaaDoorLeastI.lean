/-
  The least that has to be replaced before each sheet: what the program returns. Condition: its errors, and its table of times.
-/
import Derived.Test.YtkgjkjecfpmlnaaDoorLeastP
import Derived.Test.YtkgjkjecfpmlnaaDoorSearch
namespace Go.Proofs.YtkgjkjecfpmlnaaDoor
open Go.RowKit

theorem cell_setNe {W : World} {q r : Addr} {x y : Value} (h : W.cell? q = some y) (hne : r.block ≠ q.block) : (W.setCell r x).cell? q = some y := (World.cell?_setCell_other W r q x (fun e => hne (by rw [e]))).trans h

section
variable {p k b t v u a : Int}
set_option maxRecDepth 100000 in
set_option maxHeartbeats 2000000 in
theorem lr1_any (z : Ers) (s sl : Int) (hs : 1 ≤ s) (hs' : s ≤ 5000) (h0 : 0 ≤ sl) (h1 : sl ≤ 36) (h : BOk p k b t v u a) (i l : Nat) (w : World) (hi : w.cell? ⟨i, 0, none⟩ = some (.int .i64 s)) (hl : w.cell? ⟨l, 0, none⟩ = some (.int .i64 sl)) (hT : TimEnv w) (hE : ErrEnv z w) :
    Calls Tryd.prog 60 #[trayV p k b t v u a, .pointer (some ⟨i, 0, none⟩), .pointer (some ⟨l, 0, none⟩)] w fun e w' => e = .returned (.bool (readyB p k b t v u a s sl)) ∧ Below w.heap.size w w' := by
  have k0 : Below w.heap.size w (w.alloc (.cells #[.int .i64 p, .int .i64 k, .int .i8 b, .int .i8 t, .int .i64 v, .int .i64 u, .int .i64 a] 82)) := (Below.refl _ _).alloc (Nat.le_refl _) _
  have hd := develops_any z s sl hs hs' h0 h1 h _ (hT.below k0 (Nat.le_refl _)) (hE.below k0 (Nat.le_refl _))
  have hli := cell_ltB hi
  have hll := cell_ltB hl
  clear h
  generalize readyB p k b t v u a s sl = R at *
  have Hd := Lib.hid hd; clear hd
  go_enter Tryd.func60, Tryd.ntmps60
  go_wp2_with fail
  refine Hd.out.mono ?_; rintro e w1 ⟨rfl, hb1⟩
  go_wp2_with fail
  go_ret
  exact ⟨rfl, k0.trans (hb1.mono k0.size)⟩

theorem enter_lr (args : Array Value) (w : World) : (callFunc 60 args).run Tryd.prog w = .ok (.enter 60 args) w := by kernel_rfl

set_option maxRecDepth 100000 in
set_option maxHeartbeats 4000000 in
theorem leastReplenished_any (z : Ers) (g n cap : Nat) (xs : Nat → Int) (sl : Int) (hn : n ≤ 1048576) (hb : -128 ≤ b) (hb' : b ≤ 127) (ht : -128 ≤ t) (ht' : t ≤ 127) (w : World) (hr : RowN w g n xs) (hT : TimEnv w) (hE : ErrEnv z w) :
    Calls Tryd.prog 37 #[devV p k b t, batV v u a, .slice (some ⟨g, 0, none⟩) n cap, .int .i64 sl] w
      (MadeTE z (lrR (lrJ p k b t v sl xs u a) v n (arC (bathOk p k b t v u a) n xs sl)) (lrV (lrJ p k b t v sl xs u a) v n (arC (bathOk p k b t v u a) n xs sl)) (lrC (lrJ p k b t v sl xs u a) v n (arC (bathOk p k b t v u a) n xs sl)) w) := by
  obtain ⟨i0, hi, hz0, hz1, hz2⟩ := info_parts i64Info
  have kk := below_2 w (.cells #[.int .i64 p, .int .i64 k, .int .i8 b, .int .i8 t] 26) (.cells #[.int .i64 v, .int .i64 u, .int .i64 a] 28)
  have kk := kk.alloc kk.size (.cells #[.int .i64 sl] 2)
  have sc : (((w.alloc (.cells #[.int .i64 p, .int .i64 k, .int .i8 b, .int .i8 t] 26)).alloc (.cells #[.int .i64 v, .int .i64 u, .int .i64 a] 28)).alloc (.cells #[.int .i64 sl] 2)).cell? ⟨w.heap.size + 1 + 1, 0, none⟩ = some (.int .i64 sl) := boxAt _ _ (by simp) _ _
  have hlt := hr.lt
  have ne := errNeB
  have nn := nilNeB
  have htf := trayFor_any (p := p) (k := k) (b := b) (t := t) (v := v) (u := u) (a := a) z g n cap xs sl hn hb hb' ht ht' _ (hr.below kk hlt) (hE.below kk (Nat.le_refl _))
  unfold AfterOut at htf
  by_cases hC0 : arC (bathOk p k b t v u a) n xs sl = 0
  rotate_left
  · obtain ⟨e1, e2, e3⟩ := lr_no (J := lrJ p k b t v sl xs u a) (v := v) (n := n) hC0
    rw [e1, e2, e3]
    have hC0' := Lib.hid hC0
    clear hC0 e1 e2 e3
    generalize arC (bathOk p k b t v u a) n xs sl = C at *
    generalize ifC C p = P at htf
    generalize ifC C k = K at htf
    generalize ifC C b = B at htf
    generalize ifC C t = T at htf
    generalize ifC C v = V at htf
    generalize ifC C u = U at htf
    generalize ifC C a = X at htf
    have Htf := Lib.hid htf; clear htf nn
    go_enter Tryd.func37, Tryd.ntmps37
    go_wp2_with fail
    refine Htf.out.mono ?_; rintro e w1 ⟨ev, rfl, hev, hb1⟩
    obtain ⟨ad, rfl⟩ := isCode_err hev hC0'.out
    have k1 := kk.trans (hb1.mono kk.size)
    go_wp2_with fail
    go_ret3
    exact ⟨_, _, hev, rfl, .nil _ _ _ _ _ _ _ _, k1.alloc k1.size _⟩
  obtain ⟨hok, h60, hall, sl0, sl1⟩ := arC_zero hC0
  have h := bathOk_true.1 hok
  have hv0 := h.v0
  have hv1 := h.v1
  rw [hC0] at htf ⊢
  simp only [ifC_0] at htf
  have hJ0 : ∀ j, lrJ p k b t v sl xs u a j = lrM p k b t v sl (lrS p k b t v sl xs u a j).1 (lrS p k b t v sl xs u a j).2 (xs j) := fun _ => rfl
  have hU1 : ∀ j, (lrS p k b t v sl xs u a (j + 1)).1 = left (lrS p k b t v sl xs u a j).1 v (lrJ p k b t v sl xs u a j) + xs j := fun _ => rfl
  have hA1 : ∀ j, (lrS p k b t v sl xs u a (j + 1)).2 = left (lrS p k b t v sl xs u a j).2 v (lrJ p k b t v sl xs u a j) := fun _ => rfl
  have hS0 : (lrS p k b t v sl xs u a 0).1 = u ∧ (lrS p k b t v sl xs u a 0).2 = a := ⟨rfl, rfl⟩
  generalize lrJ p k b t v sl xs u a = J at *
  generalize hSd : lrS p k b t v sl xs u a = S at *
  clear hSd
  have HJ0 := Lib.hid hJ0; clear hJ0
  have HU1 := Lib.hid hU1; clear hU1
  have HA1 := Lib.hid hA1; clear hA1
  have Htf := Lib.hid htf; clear htf
  have Hall := Lib.hid hall; clear hall hC0 hok
  have h61 : (n : Int) ≤ 60 := by omega
  have HB0 := Lib.hid h; clear h
  have hmk : ∀ W, (Instr.makeSlice 38 (.int .i64 0) (.int .i64 (n : Int))).run Tryd.prog W = .ok (.slice (some ⟨W.heap.size, 0, none⟩) 0 n) (W.alloc (.cells (madeCells #[.int .i64 0] n) 2)) := fun W => by
    have h := run_make_rowN (P := Tryd.prog) 38 2 i0 (.int .i64 0) Tryd.underlying38 hi hz0 .i64 .i64 0 n (Nat.zero_le _) (by rw [hz2]; omega) (by omega) W
    rw [hz1, Nat.mul_one] at h
    exact h
  go_enter Tryd.func37, Tryd.ntmps37
  go_wp2_with fail
  refine Htf.out.mono ?_; rintro e w1 ⟨ev, rfl, hev, hb1⟩
  obtain rfl := isCode_zero hev rfl
  have k1 := kk.trans (hb1.mono kk.size)
  have T1 := TrAt.new w1 82 p k b t v u a
  have k2 := k1.alloc k1.size (.cells #[.int .i64 p, .int .i64 k, .int .i8 b, .int .i8 t, .int .i64 v, .int .i64 u, .int .i64 a] 82)
  have sc1 := below_cellOf hb1 sc (Nat.le_refl _)
  have hJ : w.heap.size + 3 ≤ w1.heap.size := by have := cell_ltB sc1; omega
  have sc2 := below_cellOf ((Below.refl w1.heap.size w1).alloc (Nat.le_refl _) (.cells #[.int .i64 p, .int .i64 k, .int .i8 b, .int .i8 t, .int .i64 v, .int .i64 u, .int .i64 a] 82)) sc1 (Nat.le_refl _)
  clear hb1 k1 kk hev sc sc1
  rw [← hS0.1, ← hS0.2] at T1
  have HB0' : Hid (BOk p k b t v (S 0).1 (S 0).2) := Lib.hid (by rw [hS0.1, hS0.2]; exact HB0.out)
  clear HB0
  rw [hS0.1, hS0.2] at T1
  go_wp2_with fail
  have hWs : w1.heap.size + 1 = (w1.alloc (.cells #[.int .i64 p, .int .i64 k, .int .i8 b, .int .i8 t, .int .i64 v, .int .i64 u, .int .i64 a] 82)).heap.size := by simp
  generalize hW : w1.alloc (.cells #[.int .i64 p, .int .i64 k, .int .i8 b, .int .i8 t, .int .i64 v, .int .i64 u, .int .i64 a] 82) = W at *
  clear hW
  generalize w1.heap.size = Q at *
  rw [← hS0.1, ← hS0.2] at T1
  clear hS0
  have o3 := World.ownsRow_made (e := 2) (size := 1) (base := Q + 1) W (madeCells #[.int .i64 0] n) n (by omega) (by unfold maxLen; omega) (by rw [size_madeCells, Nat.mul_one])
  rw [← hWs] at o3
  clear hWs
  have T3 := T1.alloc (.cells (madeCells #[.int .i64 0] n) 2)
  have k3 := k2.alloc k2.size (.cells (madeCells #[.int .i64 0] n) 2)
  have sc3 := below_cellOf ((Below.refl W.heap.size W).alloc (Nat.le_refl _) (.cells (madeCells #[.int .i64 0] n) 2)) sc2 (Nat.le_refl _)
  clear T1 k2 sc2 hmk
  go_loopw [13, 14, 35] (fun ov tv iv wr => ∃ j : Nat, iv = .int .i64 j ∧ j ≤ n ∧ tv = .int .i64 (lrT J j) ∧ 0 ≤ lrT J j ∧ lrT J j ≤ 20000 * j ∧ Hid (∀ i, i < j → (J i : Int) ≤ v) ∧ Hid (BOk p k b t v (S j).1 (S j).2) ∧ wr.ownsRow (Q + 1) 2 1 ov (lrL J j).length ((lrL J j).map (Value.int .i64)) ∧ TrAt wr Q p k b t v (S j).1 (S j).2 ∧ wr.cell? ⟨w.heap.size + 1 + 1, 0, none⟩ = some (.int .i64 sl) ∧ Below w.heap.size w wr) (fun _ _ iv _ => n - (intOf iv).toNat)
  case atStart => exact ⟨0, rfl, Nat.zero_le _, rfl, Int.le_refl _, Int.le_refl _, Lib.hid (fun i hi => absurd hi (Nat.not_lt_zero _)), HB0', o3, T3, sc3, k3⟩
  case round =>
    clear k3 T3 o3 HB0' sc3
    obtain ⟨j, rfl, hj, rfl, hT0, hT1, HM, HB, hown, T2, sc2, k2⟩ := hrel
    by_cases hjn : j < n
    rotate_left
    · have e : j = n := by omega
      subst e
      obtain ⟨e1, e2, e3⟩ := lr_yes (J := J) (v := v) (n := j) HM.out
      have HE := Lib.hid (And.intro e1 (And.intro e2 e3)); clear e1 e2 e3
      generalize lrT J j = X at *
      go_wp2_with fail
      go_ret3
      rw [HE.out.1, HE.out.2.1, HE.out.2.2]
      exact ⟨_, _, .ok, rfl, (Mine.of_ints hown).mono (by omega) (Nat.le_refl _), k2⟩
    have hs := inB_true.1 (allA_iff.1 Hall.out j hjn)
    have x1 : wr.cell? ⟨g, j, none⟩ = some (.int .i64 (xs j)) := by rw [k2.cell (p := ⟨g, j, none⟩) hlt]; exact hr.cell hjn
    have ka := k2.alloc k2.size (.cells #[.int .i64 (xs j)] 2)
    have Ta := T2.alloc (.cells #[.int .i64 (xs j)] 2)
    have sca := below_cellOf ((Below.refl wr.heap.size wr).alloc (Nat.le_refl _) (.cells #[.int .i64 (xs j)] 2)) sc2 (Nat.le_refl _)
    have xa : (wr.alloc (.cells #[.int .i64 (xs j)] 2)).cell? ⟨wr.heap.size, 0, none⟩ = some (.int .i64 (xs j)) := boxAt _ _ rfl _ _
    have owna := hown.alloc (.cells #[.int .i64 (xs j)] 2)
    have hlm := leastMillilitres_any z 60 #[.pointer (some ⟨wr.heap.size, 0, none⟩), .pointer (some ⟨w.heap.size + 1 + 1, 0, none⟩)] (lrQ p k b t v sl (S j).1 (S j).2 (xs j)) HB.out (lrQ_mono HB.out (by omega)) _ (hE.below ka (Nat.le_refl _))
      (fun m W' hW hmv => lr1_any z (xs j) sl hs.1 hs.2 sl0 sl1 (HB.out.fill (by omega) hmv) wr.heap.size (w.heap.size + 1 + 1) W' (below_cellOf hW xa (Nat.le_refl _)) (below_cellOf hW sca (Nat.le_refl _)) (hT.below (ka.trans (hW.mono ka.size)) (Nat.le_refl _)) (hE.below (ka.trans (hW.mono ka.size)) (Nat.le_refl _))) enter_lr
    rw [show least (lrQ p k b t v sl (S j).1 (S j).2 (xs j)) (v.toNat + 1) = J j from (HJ0.out j).symm] at hlm
    have hstep := fun hm => lr_step (s := xs j) (sl := sl) HB.out hm
    rw [← HJ0.out j] at hstep
    have hrp := fun (hm : (J j : Int) ≤ v) W => replenished_any (J j : Int) HB.out (by omega) hm W
    have hu1 := HU1.out j
    have ha1 := HA1.out j
    have hU0 := HB.out.u0
    have hUb := HB.out.u1
    have hl0 := fun hm : (J j : Int) ≤ v => left_bd HB.out.u0 hv0 (by omega : (0 : Int) ≤ (J j : Int)) hm
    generalize hUe : (S (j + 1)).1 = U1 at *
    generalize hAe : (S (j + 1)).2 = A1 at *
    have HUe := Lib.hid hUe; clear hUe
    have HAe := Lib.hid hAe; clear hAe
    have Hrp := Lib.hid hrp; clear hrp
    have Hl0 := Lib.hid hl0; clear hl0
    have Hstep := Lib.hid hstep; clear hstep
    have Hu1 := Lib.hid hu1; clear hu1
    have Ha1 := Lib.hid ha1; clear ha1
    generalize hU : (S j).1 = U at *
    generalize hA : (S j).2 = A at *
    by_cases hm : (J j : Int) ≤ v
    rotate_left
    · obtain ⟨e1, e2, e3⟩ := lr_not (J := J) (v := v) (n := n) hjn HM.out (by omega)
      have HE := Lib.hid (And.intro e1 (And.intro e2 e3)); clear e1 e2 e3
      rw [if_neg hm, if_neg hm] at hlm
      have Hlm := Lib.hid hlm; clear hlm hm
      generalize lrT J j = X at *
      obtain ⟨c0, c1, c2, c3, c4, c5, c6, cz⟩ := T2
      have hql := cell_ltB c0
      clear nn
      go_wp2_with fail
      refine Hlm.out.mono ?_; rintro e w3 ⟨ev, hev, rfl, hb3⟩
      obtain ⟨ad, rfl⟩ := isCode_err hev (by decide)
      go_wp2_with fail
      go_ret3
      rw [HE.out.1, HE.out.2.1, HE.out.2.2]
      exact ⟨_, _, hev, rfl, .nil _ _ _ _ _ _ _ _, ka.trans (hb3.mono ka.size)⟩
    rw [if_pos hm, if_pos hm] at hlm
    have hst := Hstep.out hm
    have hrp := Hrp.out hm
    have hl0 := Hl0.out hm
    have hu1 := Hu1.out
    have ha1 := Ha1.out
    have HO := Lib.hid hst.2; clear hst
    rw [← hu1, ← ha1] at HO
    have hL : lrL J (j + 1) = lrL J j ++ [(J j : Int)] := rfl
    have hTs : lrT J (j + 1) = lrT J j + (J j : Int) := rfl
    have hMj := hm
    generalize hJj : J j = m at *
    have HJj := Lib.hid hJj; clear hJj
    have HL := Lib.hid hL; clear hL
    have HTs := Lib.hid hTs; clear hTs
    generalize hLu : left U v (m : Int) = LU at *
    generalize hLa : left A v (m : Int) = LA at *
    clear hLu hLa
    have hs1 := hs.1
    have hs2 := hs.2
    have Hu := Lib.hid hu1; clear hu1
    have Ha := Lib.hid ha1; clear ha1
    have Hrp' := Lib.hid hrp; clear hrp
    have Hlm := Lib.hid hlm; clear hlm
    have hlen := lrL_len J j
    have hfar : ∀ jj, u13.ownBlock = some jj → Q + 1 ≤ jj ∧ jj < wr.heap.size := fun jj hjj => hown.lt jj hjj
    generalize lrT J j = X at *
    have T9 := T2
    obtain ⟨c0, c1, c2, c3, c4, c5, c6, cz⟩ := T9
    have hql := cell_ltB c0
    clear ne
    go_wp2_with fail
    refine Hlm.out.mono ?_; rintro e w3 ⟨ev, hev, rfl, hb3⟩
    obtain rfl := isCode_zero hev rfl
    have k3 := ka.trans (hb3.mono ka.size)
    have T3 := Ta.below hb3 (Nat.le_refl _)
    have sc3 := below_cellOf hb3 sca (Nat.le_refl _)
    have xa3 := below_cellOf hb3 xa (Nat.le_refl _)
    have own3 := own_below owna hb3
    have hsz3 : wr.heap.size < w3.heap.size := cell_ltB xa3
    clear c0 c1 c2 c3 c4 c5 c6 cz hb3 Ta sca xa owna ka T2 sc2 x1 hown k2
    go_wp2_with (at_builtin; refine wpList_append_own _ rfl _ _ 38 rfl (Q + 1) 2 i0 (.int .i64 0) 1 8 Tryd.underlying38 hi hz0 hz1 hz2 rfl (by decide) _ _ _ rfl (own3.alloc _) ⟨w3.heap.size, 0, none⟩ 1 1 [.int .i64 m] rfl rfl ?c1 ?c2 ?c3 ?c4 ?c5 ?_)
    case c1 =>
      intro j u hj
      match j, hj with
      | 0, hj => simp at hj; subst hj; simp [Addr.add, go_sem]
    case c2 => intro u hu; simp at hu; subst hu; rfl
    case c3 => unfold maxLen; omega
    case c4 => omega
    case c5 => simp; have := T3.lt; omega
    intro v' w5 hown2 hg2 _
    have hneQ : some Q ≠ u13.ownBlock := fun e => by have := (hfar _ e.symm).1; omega
    have hneS : some (w.heap.size + 1 + 1) ≠ u13.ownBlock := fun e => by have := (hfar _ e.symm).1; omega
    have hneX : some wr.heap.size ≠ u13.ownBlock := fun e => by have := (hfar _ e.symm).2; omega
    have T5 := (T3.alloc (.cells #[.int .i64 m] 2)).far hg2 hneQ
    have sc5 := cell_farL (below_cellOf ((Below.refl w3.heap.size w3).alloc (Nat.le_refl _) (.cells #[.int .i64 m] 2)) sc3 (Nat.le_refl _)) hg2 hneS
    have xa5 := cell_farL (below_cellOf ((Below.refl w3.heap.size w3).alloc (Nat.le_refl _) (.cells #[.int .i64 m] 2)) xa3 (Nat.le_refl _)) hg2 hneX
    have k5 : Below w.heap.size w w5 := (k3.alloc k3.size _).grown hg2 (by simp; have := k3.size; omega) (fun jj hjj => by have := (hfar jj hjj).1; omega)
    have hown5 : w5.ownsRow (Q + 1) 2 1 v' (lrL J (j + 1)).length ((lrL J (j + 1)).map (Value.int .i64)) := by
      rw [HL.out]; simpa [hlen] using hown2
    clear hown2 hg2 hneQ hneS hneX T3 sc3 xa3 k3 own3
    have T9 := T5
    obtain ⟨c0, c1, c2, c3, c4, c5, c6, cz⟩ := T9
    have hql5 := cell_ltB c0
    go_wp2_with fail
    refine (Hrp'.out _).mono ?_; rintro e w6 ⟨rfl, hb6⟩
    clear c0 c1 c2 c3 c4 c5 c6 cz
    have T6 := T5.below hb6 (Nat.le_refl _)
    have sc6 := below_cellOf hb6 sc5 (Nat.le_refl _)
    have xa6 := below_cellOf hb6 xa5 (Nat.le_refl _)
    have k6 := k5.trans (hb6.mono k5.size)
    have hown6 := own_below hown5 hb6
    clear T5 sc5 xa5 k5 hown5 hb6
    have T9 := T6
    obtain ⟨c0, c1, c2, c3, c4, c5, c6, cz⟩ := T9
    have hql6 := cell_ltB c0
    have hxl6 := cell_ltB xa6
    go_wp2_with fail
    clear c0 c1 c2 c3 c4 c5 c6 cz
    obtain ⟨W7, e7, T7, k7⟩ := T6.stored k6 (by omega) p k b t v LU LA
    have sc7 : W7.cell? ⟨w.heap.size + 1 + 1, 0, none⟩ = some (.int .i64 sl) := by
      rw [e7]
      exact cell_setNe (cell_setNe (cell_setNe (cell_setNe (cell_setNe (cell_setNe (cell_setNe sc6 (by show Q ≠ w.heap.size + 1 + 1; omega)) (by show Q ≠ w.heap.size + 1 + 1; omega)) (by show Q ≠ w.heap.size + 1 + 1; omega)) (by show Q ≠ w.heap.size + 1 + 1; omega)) (by show Q ≠ w.heap.size + 1 + 1; omega)) (by show Q ≠ w.heap.size + 1 + 1; omega)) (by show Q ≠ w.heap.size + 1 + 1; omega)
    have xa7 : W7.cell? ⟨wr.heap.size, 0, none⟩ = some (.int .i64 (xs j)) := by
      rw [e7]
      exact cell_setNe (cell_setNe (cell_setNe (cell_setNe (cell_setNe (cell_setNe (cell_setNe xa6 (by show Q ≠ wr.heap.size; omega)) (by show Q ≠ wr.heap.size; omega)) (by show Q ≠ wr.heap.size; omega)) (by show Q ≠ wr.heap.size; omega)) (by show Q ≠ wr.heap.size; omega)) (by show Q ≠ wr.heap.size; omega)) (by show Q ≠ wr.heap.size; omega)
    have hown7 : W7.ownsRow (Q + 1) 2 1 v' (lrL J (j + 1)).length ((lrL J (j + 1)).map (Value.int .i64)) := by
      rw [e7]
      exact ownsRow_setCell_below (ownsRow_setCell_below (ownsRow_setCell_below (ownsRow_setCell_below (ownsRow_setCell_below (ownsRow_setCell_below (ownsRow_setCell_below hown6 (by show Q < Q + 1; omega) _) (by show Q < Q + 1; omega) _) (by show Q < Q + 1; omega) _) (by show Q < Q + 1; omega) _) (by show Q < Q + 1; omega) _) (by show Q < Q + 1; omega) _) (by show Q < Q + 1; omega) _
    try rw [← e7]
    clear e7 T6 sc6 xa6 k6 hown6 hql6 hxl6
    have T9 := T7
    obtain ⟨c0, c1, c2, c3, c4, c5, c6, cz⟩ := T9
    have hql7 := cell_ltB c0
    have hxl7 := cell_ltB xa7
    try go_wp2_with fail
    go_roundw
    case rel =>
      refine ⟨j + 1, by go_num, by omega, by rw [HTs.out], by rw [HTs.out]; omega, by rw [HTs.out]; omega, Lib.hid (fun i hi => ?_), by rw [HUe.out, HAe.out]; exact HO, ?_, ?_, ?_, k7.setCell (by show w.heap.size ≤ Q; omega) _⟩
      · rcases Nat.lt_or_ge i j with h2 | h2
        · exact HM.out i h2
        · have : i = j := by omega
          rw [this, HJj.out]; exact hMj
      · exact ownsRow_setCell_below hown7 (by show Q < Q + 1; omega) _
      · rw [HUe.out, HAe.out, Hu.out, Ha.out]; exact T7.set5 _
      · exact cell_setNe sc7 (by show Q ≠ w.heap.size + 1 + 1; omega)
    case measure => simp [intOf]; omega

set_option maxHeartbeats 2000000 in
theorem LeastReplenished_any (z : Ers) (g n cap : Nat) (xs : Nat → Int) (sl : Int) (hn : n ≤ 1048576) (hb : -128 ≤ b) (hb' : b ≤ 127) (ht : -128 ≤ t) (ht' : t ≤ 127) (w : World) (hr : RowN w g n xs) (hT : TimEnv w) (hE : ErrEnv z w) :
    Calls Tryd.prog 14 #[devV p k b t, batV v u a, .slice (some ⟨g, 0, none⟩) n cap, .int .i64 sl] w
      (MadeT (lrR (lrJ p k b t v sl xs u a) v n (arC (bathOk p k b t v u a) n xs sl)) (lrV (lrJ p k b t v sl xs u a) v n (arC (bathOk p k b t v u a) n xs sl)) (lrC (lrJ p k b t v sl xs u a) v n (arC (bathOk p k b t v u a) n xs sl)) w) := by
  have hB0 := below_2 w (.cells #[.int .i64 p, .int .i64 k, .int .i8 b, .int .i8 t] 26) (.cells #[.int .i64 v, .int .i64 u, .int .i64 a] 28)
  have hlt := hr.lt
  have hst := leastReplenished_any (p := p) (k := k) (b := b) (t := t) (v := v) (u := u) (a := a) z g n cap xs sl hn hb hb' ht ht' _ (hr.below hB0 hlt) (hT.below hB0 (Nat.le_refl _)) (hE.below hB0 (Nat.le_refl _))
  generalize lrR (lrJ p k b t v sl xs u a) v n (arC (bathOk p k b t v u a) n xs sl) = R at *
  generalize lrV (lrJ p k b t v sl xs u a) v n (arC (bathOk p k b t v u a) n xs sl) = V at *
  generalize lrC (lrJ p k b t v sl xs u a) v n (arC (bathOk p k b t v u a) n xs sl) = C at *
  have Hst := Lib.hid hst; clear hst
  go_enter Tryd.func14, Tryd.ntmps14
  go_wp2_with fail
  refine Hst.out.mono ?_; rintro e w1 ⟨ov, x, hx, rfl, hm, hb1⟩
  have k1 := hB0.trans (hb1.mono hB0.size)
  go_wp2_with fail
  refine (codeOf_any hx _ (hE.below k1 (Nat.le_refl _))).mono ?_; rintro e w2 ⟨rfl, rfl⟩
  go_wp2_with fail
  go_ret3
  exact ⟨_, rfl, hm.mono hB0.size (Nat.le_refl _), k1⟩

end
end Go.Proofs.YtkgjkjecfpmlnaaDoor

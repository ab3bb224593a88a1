/-
  The walk of the law FnLong: it returns true for all bytes. Condition: the listed variables hold what the row lists.
-/
import Derived.Test.YtakmekidnfeciaaDoorTableSrc
import Derived.Test.YtakmekidnfeciaaDoorPlainLong
import Derived.Test.YtakmekidnfeciaaDoorCorr
import Derived.Test.YtakmekidnfeciaaDoorFilters
import Derived.Test.YtakmekidnfeciaaDoorEnv
import Derived.Test.YtakmekidnfeciaaDoorWSets
import Derived.Deep.DeepCutAuto
namespace Go.Proofs.YtakmekidnfeciaaDoor
open Go.RowKit

theorem keep3L {B : Nat} {W W' : World} (hb : Below B W W') {g : Nat} {x y z : Option Value} (h : W.cell? ⟨g, 0, none⟩ = x ∧ W.cell? ⟨g, 1, none⟩ = y ∧ W.cell? ⟨g, 2, none⟩ = z) (hg : g < B) :
    W'.cell? ⟨g, 0, none⟩ = x ∧ W'.cell? ⟨g, 1, none⟩ = y ∧ W'.cell? ⟨g, 2, none⟩ = z :=
  ⟨(hb.cell (p := ⟨g, 0, none⟩) hg).trans h.1, (hb.cell (p := ⟨g, 1, none⟩) hg).trans h.2.1, (hb.cell (p := ⟨g, 2, none⟩) hg).trans h.2.2⟩
theorem timeR_at {k : Int} (h0 : 0 ≤ k) (h1 : k ≤ 36) : timeR k = tm k ∧ timeC k = 0 := by
  have h := inB_true.2 ⟨h0, h1⟩
  simp [timeR, timeC, h]
theorem facR_at {k : Int} (h0 : 1 ≤ k) (h1 : k ≤ 1000) : facR k = fac k ∧ facC k = 0 := by
  have h := inB_true.2 ⟨h0, h1⟩
  simp [facR, facC, h]

set_option maxRecDepth 100000 in
set_option maxHeartbeats 4000000 in
theorem walk_FnLong (A : Option Addr) (n cap : Nat) (bs : Nat → Int) (A' : Option Addr) (n' cap' : Nat) (bs' : Nat → Int) (w : World) (hL : laidMetH Tryd.prog Rows.fnLongRow.laid w)
    (hr : BytesIn w A n bs) (hm : n ≤ maxLen) (hbs : ∀ j, j < n → 0 ≤ bs j ∧ bs j ≤ 255) (hr' : BytesIn w A' n' bs') (hm' : n' ≤ maxLen) (hbs' : ∀ j, j < n' → 0 ≤ bs' j ∧ bs' j ≤ 255) :
    Calls Tryd.prog 11 #[.slice A n cap, .slice A' n' cap'] w fun e w' => e = .returned (.bool true) ∧ Below w.heap.size w w' := by
  obtain ⟨s, hE⟩ := errEnv_of_row hL (by kernel_rfl) (by kernel_rfl)
  have hT := timEnv_of_row hL (by kernel_rfl) (by kernel_rfl)
  unfold maxLen at hm hm'
  have HE := Lib.hid hE; clear hE
  have HT := Lib.hid hT; clear hT
  by_cases hn : 4096 < n
  · go_enter Tryd.func11, Tryd.ntmps11
    have e1 := f6big_any A n cap w hm
    rw [decide_eq_true hn] at e1
    have E1 := Lib.hid e1; clear e1
    go_wp2_with fail
    refine E1.out.mono ?_; rintro e w1 ⟨rfl, rfl⟩
    go_wp2_with fail
    go_ret
    exact ⟨rfl, Below.refl _ _⟩
  have e1 := f6big_any A n cap w hm
  rw [decide_eq_false hn] at e1
  have E1 := Lib.hid e1; clear e1
  by_cases hn' : 4096 < n'
  · have e2 := f6big_any A' n' cap' w hm'
    rw [decide_eq_true hn'] at e2
    have E2 := Lib.hid e2; clear e2
    go_enter Tryd.func11, Tryd.ntmps11
    go_wp2_with fail
    refine E1.out.mono ?_; rintro e w1 ⟨rfl, rfl⟩
    go_wp2_with fail
    refine E2.out.mono ?_; rintro e w1 ⟨rfl, rfl⟩
    go_wp2_with fail
    go_ret
    exact ⟨rfl, Below.refl _ _⟩
  have e2 := f6big_any A' n' cap' w hm'
  rw [decide_eq_false hn'] at e2
  have E2 := Lib.hid e2; clear e2
  have Hbs := Lib.hid hbs; clear hbs
  have Hbs' := Lib.hid hbs'; clear hbs'
  go_enter Tryd.func11, Tryd.ntmps11
  go_wp2_with fail
  refine E1.out.mono ?_; rintro e w1 ⟨rfl, rfl⟩
  go_wp2_with fail
  refine E2.out.mono ?_; rintro e w1 ⟨rfl, rfl⟩
  go_wp2_with fail
  refine (P6Table_any A n cap bs (by omega) Hbs.out _ hr).mono ?_; rintro e w1 ⟨tb, N, tcap, fs, es, rfl, hN4, hval, hrow, htb, k1⟩
  have hN : N ≤ 1048576 := by omega
  have hsm := small_of_valid hval
  have htab := validT_tab hval
  have hrl := hrow.lt
  go_wp2_with fail
  refine (P6Setting_any A' n' cap' bs' (by omega) Hbs'.out _ (hr'.below k1 (Nat.le_refl _))).mono ?_; rintro e w2 ⟨a, b, c, rfl, hok, hb2⟩
  have k2 := k1.trans (hb2.mono k1.size)
  have hrow := hrow.below hb2 hrl
  have hrl := hrow.lt
  have hin := okS_true.1 hok
  obtain ⟨⟨a0, a1⟩, ⟨b0, b1⟩, c0, c1⟩ := hin
  clear hb2
  -- what the contracts say here
  have hxb := exA_bd a htab N (Nat.le_refl _)
  have x1 := fun W h1 h2 => ExtraFor_any s tb N tcap fs es a hN hsm W h1 h2
  have x2 := fun W h1 => specExtraFor_any tb N tcap fs es a hN hsm W h1
  have hai := inB_true.2 (show 0 ≤ a ∧ a ≤ 45 by omega)
  rw [(ext_yes hval hai).1, (ext_yes hval hai).2] at x1 x2
  have x3 := fun W h1 h2 => CorrectedFor_any s tb N tcap fs es a b c hN hsm (by omega) (by omega) (by omega) (by omega) (by omega) (by omega) W h1 h2
  have x4 := fun W h1 => specCorrectedFor_any tb N tcap fs es a b c hN hsm (by omega) (by omega) (by omega) (by omega) (by omega) (by omega) W h1
  have hcor : (corV N fs es a b c = setV (a + exA fs es a N) b c ∧ corC N fs es a b c = 0 ∧ a + exA fs es a N ≤ 45) ∨ (corV N fs es a b c = setV 0 0 0 ∧ corC N fs es a b c = 6 ∧ 45 < a + exA fs es a N) := by
    by_cases hc : corS N fs es a ≤ 45
    · exact .inl ⟨(cor_yes hval hok hc).2, (cor_yes hval hok hc).1, hc⟩
    · exact .inr ⟨(cor_no hval hok hc).2, (cor_no hval hok hc).1, by unfold corS at hc; omega⟩
  have x5 := fun W h1 => ValidTable_any tb N tcap fs es hN hsm W h1
  rw [hval] at x5
  obtain ⟨p, q, r, hV⟩ := corV_set N fs es a b c
  rw [hV] at x3 x4 hcor
  generalize hCe : corC N fs es a b c = C at x3 x4 hcor
  generalize hXe : exA fs es a N = X at hxb hcor x1 x2
  have hcor' : (p = a + X ∧ q = b ∧ C = 0 ∧ a + X ≤ 45) ∨ (C = 6 ∧ 45 < a + X) := by
    rcases hcor with ⟨h1, h2, h3⟩ | ⟨_, h2, h3⟩
    · left
      simp only [Value.agg.injEq, Array.mk.injEq, List.cons.injEq, Value.int.injEq, true_and, and_true] at h1
      exact ⟨h1.1, h1.2.1, h2, h3⟩
    · exact .inr ⟨h2, h3⟩
  have Hcor := Lib.hid hcor'; clear hcor hcor' hV hCe
  have X1 := Lib.hid x1; clear x1
  have X2 := Lib.hid x2; clear x2
  have X3 := Lib.hid x3; clear x3
  have X4 := Lib.hid x4; clear x4
  have X5 := Lib.hid x5; clear x5
  have Hval := Lib.hid hval; clear hval
  have Hok := Lib.hid hok; clear hok hai
  have Htab := Lib.hid htab; clear htab
  have Hsm := Lib.hid hsm; clear hsm
  have HXe := Lib.hid hXe; clear hXe
  obtain ⟨xb0, xb1⟩ := hxb
  have kS : Below w2.heap.size w2 (w2.alloc (.cells #[.int .i8 a, .int .i8 b, .int .i8 c] 46)) := (Below.refl _ _).alloc (Nat.le_refl _) _
  have k2' := k2.trans (kS.mono k2.size)
  have r2' := hrow.below kS hrl
  go_wp2_with fail
  refine (X1.out _ r2' (HE.out.below k2' (Nat.le_refl _))).mono ?_; rintro e w3 ⟨rfl, hb3⟩
  have S3 := keep3L hb3 (g := w2.heap.size) (x := some (.int .i8 a)) (y := some (.int .i8 b)) (z := some (.int .i8 c)) (by simp) (by simp)
  have k3 := k2'.trans (hb3.mono k2'.size)
  have r3 := r2'.below hb3 r2'.lt
  have rl3 := r3.lt
  have z3 : w2.heap.size < w3.heap.size := by have := hb3.size; simp at this; omega
  clear hb3 r2' k2' kS hrow hrl k2 k1
  obtain ⟨s30, s31, s32⟩ := S3
  have HS3 := Lib.hid (And.intro s30 (And.intro s31 s32))
  go_wp2_with fail
  refine (X2.out _ r3).mono ?_; rintro e w4 ⟨rfl, rfl⟩
  go_wp2_with fail
  refine (X3.out _ r3 (HE.out.below k3 (Nat.le_refl _))).mono ?_; rintro e w4 ⟨rfl, hb4⟩
  have hb4' := hb4.alloc hb4.size (.cells #[.int .i8 p, .int .i8 q, .int .i8 r] 46)
  have z4 := hb4.size
  have y4 : w2.heap.size < w4.heap.size := by omega
  clear s30 s31 s32
  obtain ⟨s40, s41, s42⟩ := keep3L hb4 HS3.out z3
  go_wp2_with fail
  refine (X4.out _ (r3.below hb4' rl3)).mono ?_; rintro e w5 ⟨rfl, hb5⟩
  have F5 := keep3L hb5 (g := w4.heap.size) (x := some (.int .i8 p)) (y := some (.int .i8 q)) (z := some (.int .i8 r)) (by simp) (by simp)
  have kk5 := hb4'.trans (hb5.mono hb4'.size)
  have z5 : w4.heap.size < w5.heap.size := by have := hb5.size; simp at this; omega
  have y5 : w2.heap.size < w5.heap.size := by omega
  obtain ⟨f50, f51, f52⟩ := F5
  clear s40 s41 s42
  obtain ⟨s50, s51, s52⟩ := keep3L kk5 HS3.out z3
  have kk5' := kk5.alloc kk5.size (.cells #[.int .i8 p, .int .i8 q, .int .i8 r] 46)
  have HF5 := Lib.hid (And.intro f50 (And.intro f51 f52))
  clear hb4 hb4' hb5
  go_wp2_with fail
  refine (X5.out _ (r3.below kk5' rl3)).mono ?_; rintro e w6 ⟨rfl, hb6⟩
  have M6 := keep3L hb6 (g := w5.heap.size) (x := some (.int .i8 p)) (y := some (.int .i8 q)) (z := some (.int .i8 r)) (by simp) (by simp)
  have kk6 := kk5'.trans (hb6.mono kk5'.size)
  have z6 : w5.heap.size < w6.heap.size := by have := hb6.size; simp at this; omega
  have k6 := k3.trans (kk6.mono k3.size)
  have r6 := r3.below kk6 rl3
  clear s50 s51 s52 f50 f51 f52 hb6 kk5 kk5'
  obtain ⟨s60, s61, s62⟩ := keep3L kk6 HS3.out z3
  obtain ⟨m60, m61, m62⟩ := M6
  go_upto_if 105 with (fail)
  go_cut [] (fun wx => Below w3.heap.size w3 wx)
  case first =>
    as_aux_lemma =>
      rcases Hcor.out with ⟨hp, hq, rfl, hle⟩ | ⟨rfl, hgt⟩
      · have hai := inB_true.2 (show 0 ≤ a + X ∧ a + X ≤ 45 by omega)
        have hmt := MeteredFor_any s tb N tcap fs es (a + X) hN Hsm.out _ r6 (HE.out.below k6 (Nat.le_refl _))
        rw [met_yes Hval.out hai, (ext_yes Hval.out hai).1, ← hp] at hmt
        obtain ⟨ai, rfl⟩ := Int.eq_ofNat_of_zero_le a0
        have hmem := metL_mem (K := 46) (t := p) (by rw [HXe.out, hp]) (show ai < 46 by omega)
        have hle46 := metL_le fs es N p 46
        have hprop := fun x hx => metL_prop (fs := fs) (es := es) (n := N) (t := p) 46 x hx
        have p0 : 0 ≤ p := by omega
        have p1 : p ≤ 45 := by omega
        have hpb : (p != (ai : Int) + X) = false := by simp [hp]
        have hqb : (q != b) = false := by simp [hq]
        generalize metL fs es N p 46 = l at hmt hmem hle46 hprop
        have Hmt := Lib.hid hmt; clear hmt hai
        have Hmem := Lib.hid hmem; clear hmem
        have Hprop := Lib.hid hprop; clear hprop
        have Hp := Lib.hid hp; clear hp
        have Hq := Lib.hid hq; clear hq
        have HM6 := Lib.hid (And.intro m60 (And.intro m61 m62))
        have HS6 := Lib.hid (And.intro s60 (And.intro s61 s62))
        go_wp2_with fail
        refine Hmt.out.mono ?_; rintro e w7 ⟨v, rfl, hml, hb7⟩
        clear m60 m61 m62 s60 s61 s62
        obtain ⟨m70, m71, m72⟩ := keep3L hb7 HM6.out z6
        obtain ⟨s70, s71, s72⟩ := keep3L hb7 HS6.out (by omega)
        have kk7 := kk6.trans (hb7.mono kk6.size)
        have r7 := r3.below kk7 rl3
        go_wp2_with fail
        refine (HasNumber_mem _ _ v l _ Hmem.out (by omega) _ hml).mono ?_; rintro e w8 ⟨rfl, rfl⟩
        have hlpos : 0 < l.length := List.length_pos_iff.2 (List.ne_nil_of_mem Hmem.out)
        obtain ⟨A1, cap1, rfl, hml⟩ := hml
        rcases hml with h0 | ⟨g2, mm, h2, rfl, _, _, hm2, hr2, he2⟩
        · omega
        have Hc := Lib.hid (show ∀ k, k < l.length → w7.cell? ⟨g2, k, none⟩ = some (.int .i64 (l.getD k 0)) from fun k hk => by rw [hr2.cell (by omega), he2 k (by omega)])
        clear hr2 he2 hm2
        go_wp2_with fail
        go_loopw [17] (fun i wr => ∃ k : Nat, k ≤ l.length ∧ i = .int .i64 k ∧ ∃ m, wr = w7.drewN m) (fun i _ => l.length - (intOf i).toNat)
        case atStart => exact ⟨0, Nat.zero_le _, rfl, 0, rfl⟩
        case round =>
          obtain ⟨k, hk, rfl, m, rfl⟩ := hrel
          by_cases hkn : k < l.length
          · have c2 := Hc.out k hkn
            have hin2 : l.getD k 0 ∈ l := by
              rw [List.getD_eq_getElem?_getD, List.getElem?_eq_getElem hkn]
              exact List.getElem_mem hkn
            have hpr := Hprop.out _ hin2
            generalize l.getD k 0 = y at c2 hpr
            have hyi := inB_true.2 (show 0 ≤ y ∧ y ≤ 45 by omega)
            have hx2 := specExtraFor_any tb N tcap fs es y hN Hsm.out (w7.drewN m) (r7.below (below_drewN (Below.refl w7.heap.size w7) m) r7.lt)
            rw [(ext_yes Hval.out hyi).1, (ext_yes Hval.out hyi).2] at hx2
            have hYb := exA_bd y Htab.out N (Nat.le_refl _)
            generalize exA fs es y N = Y at hx2 hpr hYb
            obtain ⟨y0, y1, hpr⟩ := hpr
            obtain ⟨Y0, Y1⟩ := hYb
            have y1 : y ≤ 45 := by omega
            have hpb2 : (y + Y != p) = false := by simp [hpr]
            have Hx2 := Lib.hid hx2; clear hx2 hyi hpr
            go_wp2_with fail
            refine Hx2.out.mono ?_; rintro e w9 ⟨rfl, rfl⟩
            go_wp2_with fail
            go_quiet (fail)
            go_wp2
            go_roundw
            case rel => exact ⟨k + 1, by omega, by go_num, _, rfl⟩
            case measure => simp [intOf]; omega
          · go_wp2_with fail
            go_meet
            exact below_drewN kk7 _
      · have gt2 : 45 < a + X := hgt
        go_wp2_with fail
        go_meet
        exact kk6
  case rest =>
    as_aux_lemma =>
      have kx := k3.trans (hcut.mono k3.size)
      have rx := r3.below hcut rl3
      have zx : w3.heap.size ≤ wc.heap.size := hcut.size
      have zz : w2.heap.size < wc.heap.size := by omega
      have HSx := Lib.hid (keep3L hcut HS3.out z3)
      clear kk6 k6 r6 s60 s61 s62 m60 m61 m62
      obtain ⟨sx0, sx1, sx2⟩ := HSx.out
      go_upto_if 183 with (fail)
      go_cut [] (fun wx => Below w3.heap.size w3 wx)
      case first =>
        as_aux_lemma =>
          by_cases ha0 : 0 < a
          · have hl1 := exA_mono (show a - 1 ≤ a by omega) Htab.out N (Nat.le_refl _)
            rw [HXe.out] at hl1
            have hai := inB_true.2 (show 0 ≤ a - 1 ∧ a - 1 ≤ 45 by omega)
            have hx := ExtraFor_any s tb N tcap fs es (a - 1) hN Hsm.out wc rx (HE.out.below kx (Nat.le_refl _))
            rw [(ext_yes Hval.out hai).1, (ext_yes Hval.out hai).2] at hx
            have hYb := exA_bd (a - 1) Htab.out N (Nat.le_refl _)
            generalize exA fs es (a - 1) N = Y at hx hl1 hYb
            obtain ⟨Y0, Y1⟩ := hYb
            have Hx := Lib.hid hx; clear hx hai
            go_wp2_with fail
            refine Hx.out.mono ?_; rintro e v1 ⟨rfl, hb1⟩
            go_wp2_with fail
            go_meet
            exact hcut.trans (hb1.mono zx)
          · go_wp2_with fail
            go_meet
            exact hcut
      case rest =>
        as_aux_lemma =>
          clear sx0 sx1 sx2 rx kx zx zz HSx
          have kx := k3.trans (hcut.mono k3.size)
          have zx : w3.heap.size ≤ wc.heap.size := hcut.size
          have zz : w2.heap.size < wc.heap.size := by omega
          have S1 := keep3L hcut HS3.out z3
          clear hcut z3 z4 z5 z6 y4 y5 rl3 r3 HF5 X1 X2 X3 X4 X5
          go_wp2_with fail
          refine (P6Pick_any A' n' cap' bs' 60 (by omega) (by omega) (by omega) Hbs'.out _ (hr'.below kx (Nat.le_refl _))).mono ?_; rintro e v1 ⟨g, rfl, hg, hb1⟩
          have hg := hg.lt (by omega)
          have k1 := kx.trans (hb1.mono kx.size)
          have S1 := keep3L hb1 S1 zz
          have zz : w2.heap.size < v1.heap.size := by have := hb1.size; omega
          have f0 : 1 ≤ 1 + g := by omega
          have f1 : 1 + g ≤ 60 := by omega
          generalize hf : 1 + g = f at f0 f1
          have hfR := facR_at (k := f) f0 (by omega)
          have hfs := fac_spec f (by omega)
          have hfb := fac_bd f (by omega)
          have y1 := FactorThirds_any s f
          have y2 := specFactorThirds_any f
          rw [hfR.1, hfR.2] at y1 y2
          have htR := timeR_at hfb.1 hfb.2
          have y3 := TimeOf_any s (fac f)
          rw [htR.1, htR.2] at y3
          have hsum : sumF (fun _ => f) 2 = 2 * fac f := by simp [sumF]; omega
          have hall : allIn 1 1000 (fun _ => f) 2 = true := by simp [allIn, inB_true.2 (show 1 ≤ f ∧ f ≤ 1000 by omega)]
          have hwf := wf_yes (a := a) (b := b) (c := c) (n := 2) (xs := fun _ => f) Hok.out (by omega) hall
          rw [hsum] at hwf
          have y4 := fun gg W h1 h2 h3 => WithFilters_any s a b c gg 2 2 (fun _ => f) (by omega) (by omega) (by omega) (by omega) (by omega) (by omega) W h1 h2 h3
          rw [hwf.1, hwf.2] at y4
          have y5 := specMoreLight_any a b c (2 * fac f) (by omega) (by omega) (by omega) (by omega) (by omega) (by omega)
          obtain ⟨mx, my, mz, hmv⟩ := moreV_set a b c (2 * fac f)
          rw [hmv] at y4 y5
          generalize moreC a b c (2 * fac f) = MC at y4 y5
          have y6 := fun (h : 0 < fac f) => (show ∀ W h1 h2, Calls Tryd.prog 23 #[.int .i64 (fac f - 1)] W fun e w' => e = .returned (.tuple #[.int .i64 (tm (fac f - 1)), .int .i64 0]) ∧ Below W.heap.size W w' from fun W h1 h2 => by
            have h := TimeOf_any s (fac f - 1) W h1 h2
            have hr := timeR_at (k := fac f - 1) (by omega) (by omega)
            rw [hr.1, hr.2] at h
            exact h)
          have hbV := tm_bd (fac f) hfb.1 (by omega)
          have hbV' := fun (h : 0 < fac f) => tm_bd (fac f - 1) (by omega) (by omega)
          clear hfR htR hsum hall hwf hmv
          generalize tm (fac f) = V at y3 hfs hbV
          generalize tm (fac f - 1) = V' at y6 hfs hbV'
          generalize fac f = F at y1 y2 y3 y4 y5 y6 hfs hfb hbV'
          have Y1 := Lib.hid y1; clear y1
          have Y2 := Lib.hid y2; clear y2
          have Y3 := Lib.hid y3; clear y3
          have Y4 := Lib.hid y4; clear y4
          have Y5 := Lib.hid y5; clear y5
          have Y6 := Lib.hid y6; clear y6
          have Hf := Lib.hid hf; clear hf
          obtain ⟨hfs1, hfs2⟩ := hfs
          have Hfs2 := Lib.hid hfs2; clear hfs2
          have HbV' := Lib.hid hbV'; clear hbV'
          obtain ⟨F0, F1⟩ := hfb
          obtain ⟨V0, V1⟩ := hbV
          have HS1 := Lib.hid S1; clear S1
          clear hb1 kx zx
          go_wp2_with fail
          rw [Hf.out]
          refine (Y1.out _ (HT.out.below k1 (Nat.le_refl _)) (HE.out.below k1 (Nat.le_refl _))).mono ?_; rintro e v2 ⟨rfl, hb2⟩
          have k2 := k1.trans (hb2.mono k1.size)
          have HS2 := Lib.hid (keep3L hb2 HS1.out zz)
          have zz : w2.heap.size < v2.heap.size := by have := hb2.size; omega
          clear hb2 HS1 k1
          go_wp2_with fail
          refine (Y2.out _).mono ?_; rintro e v3 ⟨rfl, hb3⟩
          have k3' := k2.trans (hb3.mono k2.size)
          have HS3' := Lib.hid (keep3L hb3 HS2.out zz)
          have zz : w2.heap.size < v3.heap.size := by have := hb3.size; omega
          clear hb3 HS2 k2
          go_wp2_with fail
          refine (Y3.out _ (HT.out.below k3' (Nat.le_refl _)) (HE.out.below k3' (Nat.le_refl _))).mono ?_; rintro e v4 ⟨rfl, hb4⟩
          have k4 := k3'.trans (hb4.mono k3'.size)
          have HS4 := Lib.hid (keep3L hb4 HS3'.out zz)
          have zz : w2.heap.size < v4.heap.size := by have := hb4.size; omega
          clear hb4 HS3' k3'
          go_upto_if 241 with (fail)
          go_cut [] (fun wx => Below v4.heap.size v4 wx)
          case first =>
            as_aux_lemma =>
              by_cases hF : 0 < F
              · have hV := Hfs2.out hF
                have hVb := HbV'.out hF
                obtain ⟨V0', V1'⟩ := hVb
                have Hx := Lib.hid (Y6.out hF v4 (HT.out.below k4 (Nat.le_refl _)) (HE.out.below k4 (Nat.le_refl _)))
                go_wp2_with fail
                refine Hx.out.mono ?_; rintro e v5 ⟨rfl, hb5⟩
                go_wp2_with fail
                go_meet
                exact hb5
              · go_wp2_with fail
                go_meet
                exact Below.refl _ _
          case rest =>
            as_aux_lemma =>
              have k5 := k4.trans (hcut.mono k4.size)
              obtain ⟨s50, s51, s52⟩ := keep3L hcut HS4.out zz
              have zz5 : w2.heap.size < wc.heap.size := by have := hcut.size; omega
              clear hcut HS4 k4
              have kA : Below wc.heap.size wc (wc.alloc (.cells #[.int .i64 f, .int .i64 f] 2)) := (Below.refl _ _).alloc (Nat.le_refl _) _
              have hrA : (wc.alloc (.cells #[.int .i64 f, .int .i64 f] 2)).rowIs wc.heap.size 2 2 (fun _ => .int .i64 f) :=
                World.rowIs_alloc wc #[.int .i64 f, .int .i64 f] 2 _ fun i hi => by
                  have : i = 0 ∨ i = 1 := by simp at hi; omega
                  rcases this with rfl | rfl <;> rfl
              have HrA := Lib.hid hrA; clear hrA
              have k5' := k5.trans (kA.mono k5.size)
              have HS5 := Lib.hid (And.intro s50 (And.intro s51 s52))
              go_wp2_with fail
              refine (Y4.out _ _ HrA.out (HT.out.below k5' (Nat.le_refl _)) (HE.out.below k5' (Nat.le_refl _))).mono ?_; rintro e v6 ⟨rfl, hb6⟩
              have hB6 : Below wc.heap.size wc v6 := kA.trans (hb6.mono (by simp))
              clear s50 s51 s52
              obtain ⟨s60, s61, s62⟩ := keep3L hB6 HS5.out zz5
              have zz6 : w2.heap.size < v6.heap.size := by have := hB6.size; omega
              have k6' := k5.trans (hB6.mono k5.size)
              have k6'' := k6'.alloc k6'.size (.cells #[.int .i8 mx, .int .i8 my, .int .i8 mz] 46)
              clear hb6 hB6
              go_wp2_with fail
              refine (Y5.out _).mono ?_; rintro e v7 ⟨rfl, hb7⟩
              have L7 := keep3L hb7 (g := v6.heap.size) (x := some (.int .i8 mx)) (y := some (.int .i8 my)) (z := some (.int .i8 mz)) (by simp) (by simp)
              obtain ⟨l70, l71, l72⟩ := L7
              have zz7 : v6.heap.size < v7.heap.size := by have := hb7.size; simp at this; omega
              have k7 := k6''.trans (hb7.mono k6''.size)
              clear s60 s61 s62 hb7
              go_wp2_with fail
              go_ret
              exact ⟨rfl, k7.alloc k7.size _⟩
end Go.Proofs.YtakmekidnfeciaaDoor

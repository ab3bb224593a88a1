/-
  The walk of the law FnFrames: it returns true for all bytes. Condition: the listed variables hold what the row lists.
-/
import Derived.Test.YtkmpfbjenddhjaaDoorFrF
import Derived.Test.YtkmpfbjenddhjaaDoorEachE
import Derived.Test.YtkmpfbjenddhjaaDoorEnv
namespace Go.Proofs.YtkmpfbjenddhjaaDoor
open Go.RowKit

/-- A sheet's variable. -/
def BxF (w : World) (b : Nat) (X : Int) (v : Value) : Prop := w.cell? ⟨b, 0, none⟩ = some (.int .i8 X) ∧ w.cell? ⟨b, 1, none⟩ = some v
theorem BxF.below {w w' : World} {b B : Nat} {X : Int} {v : Value} (h : BxF w b X v) (hb : Below B w w') (hB : w.heap.size ≤ B) : BxF w' b X v := ⟨below_cellOf hb h.1 hB, below_cellOf hb h.2 hB⟩

set_option maxRecDepth 100000 in
set_option maxHeartbeats 60000000 in
theorem walk_FnFrames (A : Option Addr) (nc cc : Nat) (bs : Nat → Int) (A' : Option Addr) (nm cm : Nat) (bs' : Nat → Int) (w : World) (hL : laidMetH Tryd.prog Rows.fnFramesRow.laid w)
    (hr : BytesIn w A nc bs) (hm : nc ≤ maxLen) (hbs : ∀ j, j < nc → 0 ≤ bs j ∧ bs j ≤ 255) (hr' : BytesIn w A' nm bs') (hm' : nm ≤ maxLen) (hbs' : ∀ j, j < nm → 0 ≤ bs' j ∧ bs' j ≤ 255) :
    Calls Tryd.prog 5 #[.slice A nc cc, .slice A' nm cm] w fun e w' => e = .returned (.bool true) ∧ Below w.heap.size w w' := by
  obtain ⟨s, hE⟩ := errEnv_of_row hL (by kernel_rfl) (by kernel_rfl)
  have hT := dbEnv_of_row hL (by kernel_rfl) (by kernel_rfl)
  clear hL
  unfold maxLen at hm hm'
  have b1 := f6big_any A nc cc w (by omega)
  have b2 := f6big_any A' nm cm w (by omega)
  by_cases h1 : 4096 < nc
  · rw [decide_eq_true h1] at b1
    have B1 := Lib.hid b1
    clear b1 b2 hE hT hr hbs hr' hbs'
    go_enter Tryd.func5, Tryd.ntmps5
    go_wp2_with fail
    refine B1.out.mono ?_; rintro e w1 ⟨rfl, rfl⟩
    go_wp2_with fail
    go_ret
    exact ⟨rfl, Below.refl _ _⟩
  rw [decide_eq_false h1] at b1
  by_cases h2 : 4096 < nm
  · rw [decide_eq_true h2] at b2
    have B1 := Lib.hid b1
    have B2 := Lib.hid b2
    clear b1 b2 hE hT hr hbs hr' hbs'
    go_enter Tryd.func5, Tryd.ntmps5
    go_wp2_with fail
    refine B1.out.mono ?_; rintro e w1 ⟨rfl, rfl⟩
    go_wp2_with fail
    refine B2.out.mono ?_; rintro e w1 ⟨rfl, rfl⟩
    go_wp2_with fail
    go_ret
    exact ⟨rfl, Below.refl _ _⟩
  rw [decide_eq_false h2] at b2
  have B1 := Lib.hid b1
  have B2 := Lib.hid b2
  have Hsh := Lib.hid (P6Sheet_any A nc cc bs (by omega) hbs w hr)
  have Hpm := Lib.hid (fun (W : World) (m : Int) (h0 : 0 ≤ m) (h1 : m ≤ 100) (h : Below w.heap.size w W) => P6Pick_any A' nm cm bs' m h0 (by omega) (by omega) hbs' W (hr'.below h (Nat.le_refl _)))
  have Hpc := Lib.hid (fun (W : World) (m : Int) (h0 : 0 ≤ m) (h1 : m ≤ 100) (h : Below w.heap.size w W) => P6Pick_any A nc cc bs m h0 (by omega) (by omega) hbs W (hr.below h (Nat.le_refl _)))
  have HE := Lib.hid hE
  have HT := Lib.hid hT
  clear b1 b2 hE hT hr hbs hr' hbs' h1 h2 hm hm'
  go_enter Tryd.func5, Tryd.ntmps5
  go_wp2_with fail
  refine B1.out.mono ?_; rintro e w1 ⟨rfl, rfl⟩
  go_wp2_with fail
  refine B2.out.mono ?_; rintro e w1 ⟨rfl, rfl⟩
  go_wp2_with fail
  clear B1 B2
  refine Hsh.out.mono ?_; rintro e w1 ⟨⟨X, n, g, As, cs, rfl, hX1, hX5, hn5, hnc, hg, hM⟩, hb1⟩
  clear Hsh
  obtain ⟨A2, c2, e2, hP⟩ := hM.prs
  cases e2
  have hv := fr_valid hX1 hX5 hn5 hg
  have hs := fr_s16 hg
  have hX : -128 ≤ X ∧ X ≤ 127 := by omega
  have hn : n ≤ 1048576 := by omega
  obtain ⟨R, P, Q, hRt, hRX, hQX, hRb, hPb, hQb, hR0, hVR⟩ := fr_rows hv hX1 hX5 hn5
  obtain ⟨D, E, F, hDt, hF⟩ := fr_dark hv
  have q1 := fun W h => RowsOf_any X As n cs g hn hX W h
  rw [hRt] at q1
  have HRo := Lib.hid q1
  have q2 := fun W h h1 h2 => DarkestFrame_any s X As n cs g hn hX hs W h h1 h2
  rw [hDt] at q2
  have HDa := Lib.hid q2
  have q3 := fun W h => specDarkestFrame_any X As n cs g hn hX hs W h
  rw [hDt] at q3
  have HDs := Lib.hid q3
  have q4 := fun W h => ValidSheet_any X As n cs g hn hX W h
  rw [hv] at q4
  have HVa := Lib.hid q4
  have HG := Lib.hid (And.intro hg (And.intro hv (And.intro hs (And.intro hn hnc))))
  have HVR := Lib.hid hVR
  have HR0 := Lib.hid hR0
  clear q1 q2 q3 q4 hRt hDt hM hg hv hs hVR hR0 hnc
  have HP := Lib.hid hP; clear hP
  have k1 := Lib.hid hb1; clear hb1
  have t2 := (Below.refl w1.heap.size w1).alloc (Nat.le_refl _) (.cells #[.int .i8 X, .slice As n cs] 29)
  have HS_2 := Lib.hid (show BxF (w1.alloc (.cells #[.int .i8 X, .slice As n cs] 29)) w1.heap.size X (.slice As n cs) from ⟨by simp, by simp⟩)
  have HP_2 := Lib.hid (HP.out.below t2 (Nat.le_refl _))
  have k_2 := Lib.hid (k1.out.trans (t2.mono k1.out.size))
  clear HP k1
  clear t2
  have hX1' : X ≤ 5 := hX5
  obtain ⟨e0, e1⟩ := HS_2.out
  go_wp2_with fail
  generalize (w1.alloc (.cells #[.int .i8 X, .slice As n cs] 29)) = V2 at *
  refine (HRo.out _ HP_2.out).mono ?_; rintro e w3 ⟨rfl, hb3⟩
  clear e0 e1
  have HS_3 := Lib.hid (HS_2.out.below hb3 (Nat.le_refl _))
  have HP_3 := Lib.hid (HP_2.out.below hb3 (Nat.le_refl _))
  have k_3 := Lib.hid (k_2.out.trans (hb3.mono k_2.out.size))
  clear HS_2 HP_2 k_2
  clear hb3
  obtain ⟨e0, e1⟩ := HS_3.out
  go_wp2_with fail
  refine (HDa.out _ (HP_3.out) (HE.out.below k_3.out (Nat.le_refl _)) (HT.out.below k_3.out)).mono ?_; rintro e w4 ⟨rfl, hb4⟩
  clear e0 e1
  have HS_4 := Lib.hid (HS_3.out.below hb4 (Nat.le_refl _))
  have HP_4 := Lib.hid (HP_3.out.below hb4 (Nat.le_refl _))
  have k_4 := Lib.hid (k_3.out.trans (hb4.mono k_3.out.size))
  clear HS_3 HP_3 k_3
  clear hb4
  obtain ⟨e0, e1⟩ := HS_4.out
  go_wp2_with fail
  refine (HDs.out _ (HP_4.out)).mono ?_; rintro e w5 ⟨rfl, hb5⟩
  clear e0 e1
  have HS_5 := Lib.hid (HS_4.out.below hb5 (Nat.le_refl _))
  have HP_5 := Lib.hid (HP_4.out.below hb5 (Nat.le_refl _))
  have k_5 := Lib.hid (k_4.out.trans (hb5.mono k_4.out.size))
  clear HS_4 HP_4 k_4
  clear hb5
  clear HRo HDa HDs
  rcases hF with ⟨hn0, rfl⟩ | ⟨rfl, rfl⟩
  rotate_left
  · have hQ0 : Q < 0 := by omega
    have hP0 : 0 ≤ P := by omega
    have hP1 := hPb.2
    have hQ1 := hQb.1
    have hR00 := Lib.hid (HR0.out rfl)
    clear hQb hPb
    obtain ⟨e0, e1⟩ := HS_5.out
    go_wp2_with fail
    refine (HVa.out _ (HP_5.out)).mono ?_; rintro e w6 ⟨rfl, hb6⟩
    clear e0 e1
    have HS_6 := Lib.hid (HS_5.out.below hb6 (Nat.le_refl _))
    have HP_6 := Lib.hid (HP_5.out.below hb6 (Nat.le_refl _))
    have k_6 := Lib.hid (k_5.out.trans (hb6.mono k_5.out.size))
    clear HS_5 HP_5 k_5
    clear hb6
    go_wp2_with fail
    refine wp_loop_rounds 1 ?_
    rw [rounds_succ]
    go_wp2_with fail
    go_ret
    exact ⟨ret_bool (by simp [hR00.out]), k_6.out⟩
  have hn0i : (0 : Int) < n := by omega
  have hQ1 := hQb.1
  have hQ2 := hQb.2
  have hP1 := hPb.1
  have hP2 := hPb.2
  obtain ⟨e0, e1⟩ := HS_5.out
  go_wp2_with fail
  refine (HVa.out _ (HP_5.out)).mono ?_; rintro e w26 ⟨rfl, hb26⟩
  clear e0 e1
  have HS_26 := Lib.hid (HS_5.out.below hb26 (Nat.le_refl _))
  have HP_26 := Lib.hid (HP_5.out.below hb26 (Nat.le_refl _))
  have k_26 := Lib.hid (k_5.out.trans (hb26.mono k_5.out.size))
  clear HS_5 HP_5 k_5
  clear hb26
  clear HVa HR0
  go_wp2_with fail
  go_loopw [15] (fun iv wr => ∃ i : Nat, i ≤ n ∧ iv = .int .i64 (i : Int) ∧ Below w26.heap.size w26 wr) (fun iv _ => n - (intOf iv).toNat)
  case atStart => exact ⟨0, Nat.zero_le _, rfl, Below.refl _ _⟩
  case round =>
    obtain ⟨i, hi, rfl, hb99⟩ := hrel
    by_cases hin : i < n
    · have hR99 := Lib.hid hb99
      have HS_99 := Lib.hid (HS_26.out.below hb99 (Nat.le_refl _))
      have HP_99 := Lib.hid (HP_26.out.below hb99 (Nat.le_refl _))
      have k_99 := Lib.hid (k_26.out.trans (hb99.mono k_26.out.size))
      clear HS_26 HP_26 k_26
      clear hb99
      obtain ⟨C, V, hpt, hC, hV, hXV, hft⟩ := fr_place HG.out.2.1 hX1 hX5 hn5 hin
      have hVl := HVR.out V hXV
      have hini : (i : Int) < n := by omega
      have p1 := fun W h hE => PlaceOf_any s X As n cs g (i : Int) hn hX ⟨by omega, by omega⟩ W h hE
      rw [hpt] at p1
      have p2 := fun W h hE => FrameAt_any s X As n cs g C V hn hX ⟨by omega, by omega⟩ ⟨by omega, by omega⟩ W h hE
      rw [hft] at p2
      have P1 := Lib.hid p1
      have P2 := Lib.hid p2
      clear p1 p2 hpt hft hXV hRX hQX hQb hPb hQ1 hQ2 hP1 hP2
      obtain ⟨e0, e1⟩ := HS_99.out
      go_wp2_with fail
      refine (P1.out _ (HP_99.out) (HE.out.below k_99.out (Nat.le_refl _))).mono ?_; rintro e w100 ⟨rfl, hb100⟩
      clear e0 e1
      have R100 := Lib.hid (hR99.out.trans (hb100.mono hR99.out.size))
      have HS_100 := Lib.hid (HS_99.out.below hb100 (Nat.le_refl _))
      have HP_100 := Lib.hid (HP_99.out.below hb100 (Nat.le_refl _))
      have k_100 := Lib.hid (k_99.out.trans (hb100.mono k_99.out.size))
      clear HS_99 HP_99 k_99
      clear hb100
      obtain ⟨e0, e1⟩ := HS_100.out
      go_wp2_with fail
      refine (P2.out _ (HP_100.out) (HE.out.below k_100.out (Nat.le_refl _))).mono ?_; rintro e w101 ⟨rfl, hb101⟩
      clear e0 e1
      have R101 := Lib.hid (R100.out.trans (hb101.mono R100.out.size))
      have HS_101 := Lib.hid (HS_100.out.below hb101 (Nat.le_refl _))
      have HP_101 := Lib.hid (HP_100.out.below hb101 (Nat.le_refl _))
      have k_101 := Lib.hid (k_100.out.trans (hb101.mono k_100.out.size))
      clear HS_100 HP_100 k_100
      clear hb101
      obtain ⟨e0, e1⟩ := HS_101.out
      go_wp2_with fail
      go_roundw
      case rel => exact ⟨i + 1, by omega, by go_num, R101.out⟩
      case measure => simp [intOf]; omega
    obtain rfl : n = i := by omega
    clear hi hin HVR hRb hRX hQX hQb hPb hQ1 hQ2 hP1 hP2
    obtain ⟨w121, hw121⟩ : ∃ x : World, x = wr := ⟨_, rfl⟩
    rw [← hw121] at hb99 ⊢
    clear hw121
    have hb121 := hb99
    clear hb99
    have HS_121 := Lib.hid (HS_26.out.below hb121 (Nat.le_refl _))
    have HP_121 := Lib.hid (HP_26.out.below hb121 (Nat.le_refl _))
    have k_121 := Lib.hid (k_26.out.trans (hb121.mono k_26.out.size))
    clear HS_26 HP_26 k_26
    clear hb121
    go_wp2_with fail
    refine (Hpm.out _ (n : Int) (by omega) (by omega) k_121.out).mono ?_; rintro e w122 ⟨r122, rfl, hp122, hb122⟩
    obtain ⟨i, rfl, hi⟩ := pick_nat hp122 hn0
    clear hp122
    have HS_122 := Lib.hid (HS_121.out.below hb122 (Nat.le_refl _))
    have HP_122 := Lib.hid (HP_121.out.below hb122 (Nat.le_refl _))
    have k_122 := Lib.hid (k_121.out.trans (hb122.mono k_121.out.size))
    clear HS_121 HP_121 k_121
    clear hb122
    go_wp2_with fail
    refine (Hpc.out _ (n : Int) (by omega) (by omega) k_122.out).mono ?_; rintro e w123 ⟨r123, rfl, hp123, hb123⟩
    obtain ⟨k, rfl, hk⟩ := pick_nat hp123 hn0
    clear hp123
    have HS_123 := Lib.hid (HS_122.out.below hb123 (Nat.le_refl _))
    have HP_123 := Lib.hid (HP_122.out.below hb123 (Nat.le_refl _))
    have k_123 := Lib.hid (k_122.out.trans (hb123.mono k_122.out.size))
    clear HS_122 HP_122 k_122
    clear hb123
    clear Hpm Hpc
    have hv2 := Lib.hid (fr_valid (g := swpF g i k) hX1 hX5 hn5 (swpF_dn HG.out.1 hi hk))
    have Hsw := Lib.hid (fun W h hE => (SwapFrames_any s X As n cs g (i : Int) (k : Int) hn hX W h hE).mono fun _ _ h => swp_in HG.out.2.1 hi hk h)
    have Hss := Lib.hid (fun W h => (specSwap_any X As n cs g (i : Int) (k : Int) hn hX HG.out.2.2.1 W h).mono fun _ _ h => swp_in HG.out.2.1 hi hk h)
    have Hho := Lib.hid (fun A2 c2 W h hE => (SwapFrames_any s X A2 n c2 (swpF g i k) (i : Int) (k : Int) hn hX W h hE).mono fun _ _ h => swp_in hv2.out hi hk h)
    rw [swpF_swpF] at Hho
    have Hdr := Lib.hid (fun W h hE => (DropFrame_any s X As n cs g (i : Int) hn HG.out.2.2.2.2 hX W h hE).mono fun _ _ h => drp_in HG.out.2.1 hi h)
    have Hds := Lib.hid (fun W h => (specDrop_any X As n cs g (i : Int) hn HG.out.2.2.2.2 hX HG.out.2.2.1 W h).mono fun _ _ h => drp_in HG.out.2.1 hi h)
    have Hpi := Lib.hid (fun B c W h h2 hE => (PickFrames_any s X As n cs g B (n - 1) c (skF i) hn (by omega) hX W h h2 hE).mono fun _ _ h => pic_in HG.out.2.1 hn5 hi h)
    clear hv2 HG
    generalize swpF g i k = G2 at *
    generalize drpF g i = G3 at *
    obtain ⟨e0, e1⟩ := HS_123.out
    go_wp2_with fail
    refine (Hsw.out _ (HP_123.out) (HE.out.below k_123.out (Nat.le_refl _))).mono ?_; rintro e w124 ⟨A124, c124, rfl, hP124, hb124⟩
    clear e0 e1
    have HS_124 := Lib.hid (HS_123.out.below hb124 (Nat.le_refl _))
    have HP_124 := Lib.hid (HP_123.out.below hb124 (Nat.le_refl _))
    have k_124 := Lib.hid (k_123.out.trans (hb124.mono k_123.out.size))
    clear HS_123 HP_123 k_123
    clear hb124
    have PW_124 := Lib.hid hP124
    clear hP124
    have t125 := (Below.refl w124.heap.size w124).alloc (Nat.le_refl _) (.cells #[.int .i8 X, .slice A124 n c124] 29)
    have HW_125 := Lib.hid (show BxF (w124.alloc (.cells #[.int .i8 X, .slice A124 n c124] 29)) w124.heap.size X (.slice A124 n c124) from ⟨by simp, by simp⟩)
    have HS_125 := Lib.hid (HS_124.out.below t125 (Nat.le_refl _))
    have HP_125 := Lib.hid (HP_124.out.below t125 (Nat.le_refl _))
    have PW_125 := Lib.hid (PW_124.out.below t125 (Nat.le_refl _))
    have k_125 := Lib.hid (k_124.out.trans (t125.mono k_124.out.size))
    clear HS_124 HP_124 PW_124 k_124
    clear t125
    obtain ⟨e0, e1⟩ := HS_125.out
    go_wp2_with fail
    generalize (w124.alloc (.cells #[.int .i8 X, .slice A124 n c124] 29)) = V125 at *
    refine (Hss.out _ (HP_125.out)).mono ?_; rintro e w126 ⟨A126, c126, rfl, hP126, hb126⟩
    clear e0 e1
    have HS_126 := Lib.hid (HS_125.out.below hb126 (Nat.le_refl _))
    have HW_126 := Lib.hid (HW_125.out.below hb126 (Nat.le_refl _))
    have HP_126 := Lib.hid (HP_125.out.below hb126 (Nat.le_refl _))
    have PW_126 := Lib.hid (PW_125.out.below hb126 (Nat.le_refl _))
    have k_126 := Lib.hid (k_125.out.trans (hb126.mono k_125.out.size))
    clear HS_125 HW_125 HP_125 PW_125 k_125
    clear hb126
    have PU_126 := Lib.hid hP126
    clear hP126
    have t127 := (Below.refl w126.heap.size w126).alloc (Nat.le_refl _) (.cells #[.int .i8 X, .slice A126 n c126] 29)
    have HU_127 := Lib.hid (show BxF (w126.alloc (.cells #[.int .i8 X, .slice A126 n c126] 29)) w126.heap.size X (.slice A126 n c126) from ⟨by simp, by simp⟩)
    have HS_127 := Lib.hid (HS_126.out.below t127 (Nat.le_refl _))
    have HW_127 := Lib.hid (HW_126.out.below t127 (Nat.le_refl _))
    have HP_127 := Lib.hid (HP_126.out.below t127 (Nat.le_refl _))
    have PW_127 := Lib.hid (PW_126.out.below t127 (Nat.le_refl _))
    have PU_127 := Lib.hid (PU_126.out.below t127 (Nat.le_refl _))
    have k_127 := Lib.hid (k_126.out.trans (t127.mono k_126.out.size))
    clear HS_126 HW_126 HP_126 PW_126 PU_126 k_126
    clear t127
    obtain ⟨e0, e1⟩ := HU_127.out
    go_wp2_with fail
    generalize (w126.alloc (.cells #[.int .i8 X, .slice A126 n c126] 29)) = V127 at *
    refine (Hho.out _ _ _ (PU_127.out) (HE.out.below k_127.out (Nat.le_refl _))).mono ?_; rintro e w128 ⟨A128, c128, rfl, hP128, hb128⟩
    clear e0 e1
    have HS_128 := Lib.hid (HS_127.out.below hb128 (Nat.le_refl _))
    have HW_128 := Lib.hid (HW_127.out.below hb128 (Nat.le_refl _))
    have HU_128 := Lib.hid (HU_127.out.below hb128 (Nat.le_refl _))
    have HP_128 := Lib.hid (HP_127.out.below hb128 (Nat.le_refl _))
    have PW_128 := Lib.hid (PW_127.out.below hb128 (Nat.le_refl _))
    have PU_128 := Lib.hid (PU_127.out.below hb128 (Nat.le_refl _))
    have k_128 := Lib.hid (k_127.out.trans (hb128.mono k_127.out.size))
    clear HS_127 HW_127 HU_127 HP_127 PW_127 PU_127 k_127
    clear hb128
    have PH_128 := Lib.hid hP128
    clear hP128
    have t129 := (Below.refl w128.heap.size w128).alloc (Nat.le_refl _) (.cells #[.int .i8 X, .slice A128 n c128] 29)
    have HH_129 := Lib.hid (show BxF (w128.alloc (.cells #[.int .i8 X, .slice A128 n c128] 29)) w128.heap.size X (.slice A128 n c128) from ⟨by simp, by simp⟩)
    have HS_129 := Lib.hid (HS_128.out.below t129 (Nat.le_refl _))
    have HW_129 := Lib.hid (HW_128.out.below t129 (Nat.le_refl _))
    have HU_129 := Lib.hid (HU_128.out.below t129 (Nat.le_refl _))
    have HP_129 := Lib.hid (HP_128.out.below t129 (Nat.le_refl _))
    have PW_129 := Lib.hid (PW_128.out.below t129 (Nat.le_refl _))
    have PU_129 := Lib.hid (PU_128.out.below t129 (Nat.le_refl _))
    have PH_129 := Lib.hid (PH_128.out.below t129 (Nat.le_refl _))
    have k_129 := Lib.hid (k_128.out.trans (t129.mono k_128.out.size))
    clear HS_128 HW_128 HU_128 HP_128 PW_128 PU_128 PH_128 k_128
    clear t129
    obtain ⟨e0, e1⟩ := HS_129.out
    go_wp2_with fail
    generalize (w128.alloc (.cells #[.int .i8 X, .slice A128 n c128] 29)) = V129 at *
    refine (Hdr.out _ (HP_129.out) (HE.out.below k_129.out (Nat.le_refl _))).mono ?_; rintro e w130 ⟨A130, c130, rfl, hP130, hb130⟩
    clear e0 e1
    have HS_130 := Lib.hid (HS_129.out.below hb130 (Nat.le_refl _))
    have HW_130 := Lib.hid (HW_129.out.below hb130 (Nat.le_refl _))
    have HU_130 := Lib.hid (HU_129.out.below hb130 (Nat.le_refl _))
    have HH_130 := Lib.hid (HH_129.out.below hb130 (Nat.le_refl _))
    have HP_130 := Lib.hid (HP_129.out.below hb130 (Nat.le_refl _))
    have PW_130 := Lib.hid (PW_129.out.below hb130 (Nat.le_refl _))
    have PU_130 := Lib.hid (PU_129.out.below hb130 (Nat.le_refl _))
    have PH_130 := Lib.hid (PH_129.out.below hb130 (Nat.le_refl _))
    have k_130 := Lib.hid (k_129.out.trans (hb130.mono k_129.out.size))
    clear HS_129 HW_129 HU_129 HH_129 HP_129 PW_129 PU_129 PH_129 k_129
    clear hb130
    have PD_130 := Lib.hid hP130
    clear hP130
    have t131 := (Below.refl w130.heap.size w130).alloc (Nat.le_refl _) (.cells #[.int .i8 X, .slice A130 (n - 1) c130] 29)
    have HD_131 := Lib.hid (show BxF (w130.alloc (.cells #[.int .i8 X, .slice A130 (n - 1) c130] 29)) w130.heap.size X (.slice A130 (n - 1) c130) from ⟨by simp, by simp⟩)
    have HS_131 := Lib.hid (HS_130.out.below t131 (Nat.le_refl _))
    have HW_131 := Lib.hid (HW_130.out.below t131 (Nat.le_refl _))
    have HU_131 := Lib.hid (HU_130.out.below t131 (Nat.le_refl _))
    have HH_131 := Lib.hid (HH_130.out.below t131 (Nat.le_refl _))
    have HP_131 := Lib.hid (HP_130.out.below t131 (Nat.le_refl _))
    have PW_131 := Lib.hid (PW_130.out.below t131 (Nat.le_refl _))
    have PU_131 := Lib.hid (PU_130.out.below t131 (Nat.le_refl _))
    have PH_131 := Lib.hid (PH_130.out.below t131 (Nat.le_refl _))
    have PD_131 := Lib.hid (PD_130.out.below t131 (Nat.le_refl _))
    have k_131 := Lib.hid (k_130.out.trans (t131.mono k_130.out.size))
    clear HS_130 HW_130 HU_130 HH_130 HP_130 PW_130 PU_130 PH_130 PD_130 k_130
    clear t131
    obtain ⟨e0, e1⟩ := HS_131.out
    go_wp2_with fail
    generalize (w130.alloc (.cells #[.int .i8 X, .slice A130 (n - 1) c130] 29)) = V131 at *
    refine (Hds.out _ (HP_131.out)).mono ?_; rintro e w132 ⟨A132, c132, rfl, hP132, hb132⟩
    clear e0 e1
    have HS_132 := Lib.hid (HS_131.out.below hb132 (Nat.le_refl _))
    have HW_132 := Lib.hid (HW_131.out.below hb132 (Nat.le_refl _))
    have HU_132 := Lib.hid (HU_131.out.below hb132 (Nat.le_refl _))
    have HH_132 := Lib.hid (HH_131.out.below hb132 (Nat.le_refl _))
    have HD_132 := Lib.hid (HD_131.out.below hb132 (Nat.le_refl _))
    have HP_132 := Lib.hid (HP_131.out.below hb132 (Nat.le_refl _))
    have PW_132 := Lib.hid (PW_131.out.below hb132 (Nat.le_refl _))
    have PU_132 := Lib.hid (PU_131.out.below hb132 (Nat.le_refl _))
    have PH_132 := Lib.hid (PH_131.out.below hb132 (Nat.le_refl _))
    have PD_132 := Lib.hid (PD_131.out.below hb132 (Nat.le_refl _))
    have k_132 := Lib.hid (k_131.out.trans (hb132.mono k_131.out.size))
    clear HS_131 HW_131 HU_131 HH_131 HD_131 HP_131 PW_131 PU_131 PH_131 PD_131 k_131
    clear hb132
    have PL_132 := Lib.hid hP132
    clear hP132
    have t133 := (Below.refl w132.heap.size w132).alloc (Nat.le_refl _) (.cells #[.int .i8 X, .slice A132 (n - 1) c132] 29)
    have HL_133 := Lib.hid (show BxF (w132.alloc (.cells #[.int .i8 X, .slice A132 (n - 1) c132] 29)) w132.heap.size X (.slice A132 (n - 1) c132) from ⟨by simp, by simp⟩)
    have HS_133 := Lib.hid (HS_132.out.below t133 (Nat.le_refl _))
    have HW_133 := Lib.hid (HW_132.out.below t133 (Nat.le_refl _))
    have HU_133 := Lib.hid (HU_132.out.below t133 (Nat.le_refl _))
    have HH_133 := Lib.hid (HH_132.out.below t133 (Nat.le_refl _))
    have HD_133 := Lib.hid (HD_132.out.below t133 (Nat.le_refl _))
    have HP_133 := Lib.hid (HP_132.out.below t133 (Nat.le_refl _))
    have PW_133 := Lib.hid (PW_132.out.below t133 (Nat.le_refl _))
    have PU_133 := Lib.hid (PU_132.out.below t133 (Nat.le_refl _))
    have PH_133 := Lib.hid (PH_132.out.below t133 (Nat.le_refl _))
    have PD_133 := Lib.hid (PD_132.out.below t133 (Nat.le_refl _))
    have PL_133 := Lib.hid (PL_132.out.below t133 (Nat.le_refl _))
    have k_133 := Lib.hid (k_132.out.trans (t133.mono k_132.out.size))
    clear HS_132 HW_132 HU_132 HH_132 HD_132 HP_132 PW_132 PU_132 PH_132 PD_132 PL_132 k_132
    clear t133
    clear Hsw Hss Hho Hdr Hds
    have o0 := World.ownsRow_lit (base := (w132.alloc (.cells #[.int .i8 X, .slice A132 (n - 1) c132] 29)).heap.size) (e := 2) (size := 1) (w132.alloc (.cells #[.int .i8 X, .slice A132 (n - 1) c132] 29)) #[] 0 (Nat.le_refl _) (Nat.zero_le _) rfl
    have bo := (Below.refl (w132.alloc (.cells #[.int .i8 X, .slice A132 (n - 1) c132] 29)).heap.size (w132.alloc (.cells #[.int .i8 X, .slice A132 (n - 1) c132] 29))).alloc (Nat.le_refl _) (.cells #[] 2)
    have hzz := Lib.hid (show (w132.alloc (.cells #[.int .i8 X, .slice A132 (n - 1) c132] 29)).heap.size = w132.heap.size + 1 by simp)
    have O0 := Lib.hid (And.intro o0 bo)
    clear o0 bo
    go_wp2_with fail
    generalize (w132.alloc (.cells #[.int .i8 X, .slice A132 (n - 1) c132] 29)) = V133 at *
    go_loopw [33, 34] (fun lv jv wr => ∃ (j : Nat) (v : Value), j ≤ n ∧ jv = .int .i64 (j : Int) ∧ lv = v ∧ wr.ownsRow V133.heap.size 2 1 v (skN i j) (i64L (skF i) (skN i j)) ∧ Below V133.heap.size V133 wr) (fun _ jv _ => n - (intOf jv).toNat)
    case atStart => exact ⟨0, _, Nat.zero_le _, rfl, rfl, by rw [skN_0, ← hzz.out]; simpa [i64L] using O0.out.1, O0.out.2⟩
    case round =>
      clear O0 hzz
      obtain ⟨j, v, hj, rfl, rfl, ho, hb199⟩ := hrel
      by_cases hjn : j < n
      · have hjn' : (j : Int) < n := by omega
        by_cases hji : j = i
        · subst hji
          have HO := Lib.hid (And.intro ho hb199)
          clear ho hb199
          go_wp2_with fail
          go_roundw
          case rel => exact ⟨j + 1, _, by omega, by go_num, rfl, by rw [skN_yes]; exact HO.out.1, HO.out.2⟩
          case measure => simp [intOf]; omega
        · have hne : ¬ (j : Int) = (i : Int) := by omega
          obtain ⟨hk1, hk2⟩ := skN_no hji
          have hsz := hb199.size
          have hkl : skN i j ≤ 1000000 := by have := skN_le i j; omega
          have HK := Lib.hid hk1
          have HO := Lib.hid ho
          have HB := Lib.hid hb199
          clear hk1 ho hb199 hji
          go_wp2_with (at_builtin; refine wpList_append_i64 (y := (j : Int)) rfl _ _ rfl rfl HO.out rfl hk2 hkl hsz ?_)
          intro v2 w2 o2 hb2
          have HO2 := Lib.hid (And.intro o2 (HB.out.trans hb2))
          clear o2 hb2 HB HO
          go_wp2_with fail
          go_roundw
          case rel => exact ⟨j + 1, _, by omega, by go_num, rfl, by rw [HK.out]; exact HO2.out.1, HO2.out.2⟩
          case measure => simp [intOf]; omega
      obtain rfl : n = j := by omega
      rw [skN_end hi] at ho
      obtain ⟨B, cB, rfl, hI⟩ := ints_own ho
      clear ho hj hjn
      obtain ⟨w200, hw200⟩ : ∃ x : World, x = wr := ⟨_, rfl⟩
      rw [← hw200] at hb199 hI ⊢
      clear hw200
      have hb200 := hb199
      clear hb199
      have HS_200 := Lib.hid (HS_133.out.below hb200 (Nat.le_refl _))
      have HW_200 := Lib.hid (HW_133.out.below hb200 (Nat.le_refl _))
      have HU_200 := Lib.hid (HU_133.out.below hb200 (Nat.le_refl _))
      have HH_200 := Lib.hid (HH_133.out.below hb200 (Nat.le_refl _))
      have HD_200 := Lib.hid (HD_133.out.below hb200 (Nat.le_refl _))
      have HL_200 := Lib.hid (HL_133.out.below hb200 (Nat.le_refl _))
      have HP_200 := Lib.hid (HP_133.out.below hb200 (Nat.le_refl _))
      have PW_200 := Lib.hid (PW_133.out.below hb200 (Nat.le_refl _))
      have PU_200 := Lib.hid (PU_133.out.below hb200 (Nat.le_refl _))
      have PH_200 := Lib.hid (PH_133.out.below hb200 (Nat.le_refl _))
      have PD_200 := Lib.hid (PD_133.out.below hb200 (Nat.le_refl _))
      have PL_200 := Lib.hid (PL_133.out.below hb200 (Nat.le_refl _))
      have k_200 := Lib.hid (k_133.out.trans (hb200.mono k_133.out.size))
      clear HS_133 HW_133 HU_133 HH_133 HD_133 HL_133 HP_133 PW_133 PU_133 PH_133 PD_133 PL_133 k_133
      clear hb200
      obtain ⟨e0, e1⟩ := HS_200.out
      go_wp2_with fail
      refine (Hpi.out _ _ _ (HP_200.out) hI (HE.out.below k_200.out (Nat.le_refl _))).mono ?_; rintro e w201 ⟨A201, c201, rfl, hP201, hb201⟩
      clear e0 e1
      have HS_201 := Lib.hid (HS_200.out.below hb201 (Nat.le_refl _))
      have HW_201 := Lib.hid (HW_200.out.below hb201 (Nat.le_refl _))
      have HU_201 := Lib.hid (HU_200.out.below hb201 (Nat.le_refl _))
      have HH_201 := Lib.hid (HH_200.out.below hb201 (Nat.le_refl _))
      have HD_201 := Lib.hid (HD_200.out.below hb201 (Nat.le_refl _))
      have HL_201 := Lib.hid (HL_200.out.below hb201 (Nat.le_refl _))
      have HP_201 := Lib.hid (HP_200.out.below hb201 (Nat.le_refl _))
      have PW_201 := Lib.hid (PW_200.out.below hb201 (Nat.le_refl _))
      have PU_201 := Lib.hid (PU_200.out.below hb201 (Nat.le_refl _))
      have PH_201 := Lib.hid (PH_200.out.below hb201 (Nat.le_refl _))
      have PD_201 := Lib.hid (PD_200.out.below hb201 (Nat.le_refl _))
      have PL_201 := Lib.hid (PL_200.out.below hb201 (Nat.le_refl _))
      have k_201 := Lib.hid (k_200.out.trans (hb201.mono k_200.out.size))
      clear HS_200 HW_200 HU_200 HH_200 HD_200 HL_200 HP_200 PW_200 PU_200 PH_200 PD_200 PL_200 k_200
      clear hb201
      have PI_201 := Lib.hid hP201
      clear hP201
      have t202 := (Below.refl w201.heap.size w201).alloc (Nat.le_refl _) (.cells #[.int .i8 X, .slice A201 (n - 1) c201] 29)
      have HI_202 := Lib.hid (show BxF (w201.alloc (.cells #[.int .i8 X, .slice A201 (n - 1) c201] 29)) w201.heap.size X (.slice A201 (n - 1) c201) from ⟨by simp, by simp⟩)
      have HS_202 := Lib.hid (HS_201.out.below t202 (Nat.le_refl _))
      have HW_202 := Lib.hid (HW_201.out.below t202 (Nat.le_refl _))
      have HU_202 := Lib.hid (HU_201.out.below t202 (Nat.le_refl _))
      have HH_202 := Lib.hid (HH_201.out.below t202 (Nat.le_refl _))
      have HD_202 := Lib.hid (HD_201.out.below t202 (Nat.le_refl _))
      have HL_202 := Lib.hid (HL_201.out.below t202 (Nat.le_refl _))
      have HP_202 := Lib.hid (HP_201.out.below t202 (Nat.le_refl _))
      have PW_202 := Lib.hid (PW_201.out.below t202 (Nat.le_refl _))
      have PU_202 := Lib.hid (PU_201.out.below t202 (Nat.le_refl _))
      have PH_202 := Lib.hid (PH_201.out.below t202 (Nat.le_refl _))
      have PD_202 := Lib.hid (PD_201.out.below t202 (Nat.le_refl _))
      have PL_202 := Lib.hid (PL_201.out.below t202 (Nat.le_refl _))
      have PI_202 := Lib.hid (PI_201.out.below t202 (Nat.le_refl _))
      have k_202 := Lib.hid (k_201.out.trans (t202.mono k_201.out.size))
      clear HS_201 HW_201 HU_201 HH_201 HD_201 HL_201 HP_201 PW_201 PU_201 PH_201 PD_201 PL_201 PI_201 k_201
      clear t202
      clear Hpi hI
      obtain ⟨e0, e1⟩ := HW_202.out
      obtain ⟨e2, e3⟩ := HU_202.out
      go_wp2_with fail
      generalize (w201.alloc (.cells #[.int .i8 X, .slice A201 (n - 1) c201] 29)) = V202 at *
      refine (same_spec n G2 _ _ _ _ hn _ (PW_202.out) (PU_202.out)).mono ?_; rintro e w203 ⟨rfl, hb203⟩
      clear e0 e1 e2 e3
      have HS_203 := Lib.hid (HS_202.out.below hb203 (Nat.le_refl _))
      have HW_203 := Lib.hid (HW_202.out.below hb203 (Nat.le_refl _))
      have HU_203 := Lib.hid (HU_202.out.below hb203 (Nat.le_refl _))
      have HH_203 := Lib.hid (HH_202.out.below hb203 (Nat.le_refl _))
      have HD_203 := Lib.hid (HD_202.out.below hb203 (Nat.le_refl _))
      have HL_203 := Lib.hid (HL_202.out.below hb203 (Nat.le_refl _))
      have HI_203 := Lib.hid (HI_202.out.below hb203 (Nat.le_refl _))
      have HP_203 := Lib.hid (HP_202.out.below hb203 (Nat.le_refl _))
      have PW_203 := Lib.hid (PW_202.out.below hb203 (Nat.le_refl _))
      have PU_203 := Lib.hid (PU_202.out.below hb203 (Nat.le_refl _))
      have PH_203 := Lib.hid (PH_202.out.below hb203 (Nat.le_refl _))
      have PD_203 := Lib.hid (PD_202.out.below hb203 (Nat.le_refl _))
      have PL_203 := Lib.hid (PL_202.out.below hb203 (Nat.le_refl _))
      have PI_203 := Lib.hid (PI_202.out.below hb203 (Nat.le_refl _))
      have k_203 := Lib.hid (k_202.out.trans (hb203.mono k_202.out.size))
      clear HS_202 HW_202 HU_202 HH_202 HD_202 HL_202 HI_202 HP_202 PW_202 PU_202 PH_202 PD_202 PL_202 PI_202 k_202
      clear hb203
      obtain ⟨e0, e1⟩ := HH_203.out
      obtain ⟨e2, e3⟩ := HS_203.out
      go_wp2_with fail
      refine (same_spec n g _ _ _ _ hn _ (PH_203.out) (HP_203.out)).mono ?_; rintro e w204 ⟨rfl, hb204⟩
      clear e0 e1 e2 e3
      have HS_204 := Lib.hid (HS_203.out.below hb204 (Nat.le_refl _))
      have HW_204 := Lib.hid (HW_203.out.below hb204 (Nat.le_refl _))
      have HU_204 := Lib.hid (HU_203.out.below hb204 (Nat.le_refl _))
      have HH_204 := Lib.hid (HH_203.out.below hb204 (Nat.le_refl _))
      have HD_204 := Lib.hid (HD_203.out.below hb204 (Nat.le_refl _))
      have HL_204 := Lib.hid (HL_203.out.below hb204 (Nat.le_refl _))
      have HI_204 := Lib.hid (HI_203.out.below hb204 (Nat.le_refl _))
      have HP_204 := Lib.hid (HP_203.out.below hb204 (Nat.le_refl _))
      have PW_204 := Lib.hid (PW_203.out.below hb204 (Nat.le_refl _))
      have PU_204 := Lib.hid (PU_203.out.below hb204 (Nat.le_refl _))
      have PH_204 := Lib.hid (PH_203.out.below hb204 (Nat.le_refl _))
      have PD_204 := Lib.hid (PD_203.out.below hb204 (Nat.le_refl _))
      have PL_204 := Lib.hid (PL_203.out.below hb204 (Nat.le_refl _))
      have PI_204 := Lib.hid (PI_203.out.below hb204 (Nat.le_refl _))
      have k_204 := Lib.hid (k_203.out.trans (hb204.mono k_203.out.size))
      clear HS_203 HW_203 HU_203 HH_203 HD_203 HL_203 HI_203 HP_203 PW_203 PU_203 PH_203 PD_203 PL_203 PI_203 k_203
      clear hb204
      obtain ⟨e0, e1⟩ := HH_204.out
      obtain ⟨e2, e3⟩ := HS_204.out
      go_wp2_with fail
      refine (same_impl n g _ _ _ _ hn _ (PH_204.out) (HP_204.out)).mono ?_; rintro e w205 ⟨rfl, hb205⟩
      clear e0 e1 e2 e3
      have HS_205 := Lib.hid (HS_204.out.below hb205 (Nat.le_refl _))
      have HW_205 := Lib.hid (HW_204.out.below hb205 (Nat.le_refl _))
      have HU_205 := Lib.hid (HU_204.out.below hb205 (Nat.le_refl _))
      have HH_205 := Lib.hid (HH_204.out.below hb205 (Nat.le_refl _))
      have HD_205 := Lib.hid (HD_204.out.below hb205 (Nat.le_refl _))
      have HL_205 := Lib.hid (HL_204.out.below hb205 (Nat.le_refl _))
      have HI_205 := Lib.hid (HI_204.out.below hb205 (Nat.le_refl _))
      have HP_205 := Lib.hid (HP_204.out.below hb205 (Nat.le_refl _))
      have PW_205 := Lib.hid (PW_204.out.below hb205 (Nat.le_refl _))
      have PU_205 := Lib.hid (PU_204.out.below hb205 (Nat.le_refl _))
      have PH_205 := Lib.hid (PH_204.out.below hb205 (Nat.le_refl _))
      have PD_205 := Lib.hid (PD_204.out.below hb205 (Nat.le_refl _))
      have PL_205 := Lib.hid (PL_204.out.below hb205 (Nat.le_refl _))
      have PI_205 := Lib.hid (PI_204.out.below hb205 (Nat.le_refl _))
      have k_205 := Lib.hid (k_204.out.trans (hb205.mono k_204.out.size))
      clear HS_204 HW_204 HU_204 HH_204 HD_204 HL_204 HI_204 HP_204 PW_204 PU_204 PH_204 PD_204 PL_204 PI_204 k_204
      clear hb205
      have hn1 : n - 1 ≤ 1048576 := by omega
      obtain ⟨e0, e1⟩ := HD_205.out
      obtain ⟨e2, e3⟩ := HL_205.out
      go_wp2_with fail
      refine (same_spec (n - 1) G3 _ _ _ _ hn1 _ (PD_205.out) (PL_205.out)).mono ?_; rintro e w206 ⟨rfl, hb206⟩
      clear e0 e1 e2 e3
      have HS_206 := Lib.hid (HS_205.out.below hb206 (Nat.le_refl _))
      have HW_206 := Lib.hid (HW_205.out.below hb206 (Nat.le_refl _))
      have HU_206 := Lib.hid (HU_205.out.below hb206 (Nat.le_refl _))
      have HH_206 := Lib.hid (HH_205.out.below hb206 (Nat.le_refl _))
      have HD_206 := Lib.hid (HD_205.out.below hb206 (Nat.le_refl _))
      have HL_206 := Lib.hid (HL_205.out.below hb206 (Nat.le_refl _))
      have HI_206 := Lib.hid (HI_205.out.below hb206 (Nat.le_refl _))
      have HP_206 := Lib.hid (HP_205.out.below hb206 (Nat.le_refl _))
      have PW_206 := Lib.hid (PW_205.out.below hb206 (Nat.le_refl _))
      have PU_206 := Lib.hid (PU_205.out.below hb206 (Nat.le_refl _))
      have PH_206 := Lib.hid (PH_205.out.below hb206 (Nat.le_refl _))
      have PD_206 := Lib.hid (PD_205.out.below hb206 (Nat.le_refl _))
      have PL_206 := Lib.hid (PL_205.out.below hb206 (Nat.le_refl _))
      have PI_206 := Lib.hid (PI_205.out.below hb206 (Nat.le_refl _))
      have k_206 := Lib.hid (k_205.out.trans (hb206.mono k_205.out.size))
      clear HS_205 HW_205 HU_205 HH_205 HD_205 HL_205 HI_205 HP_205 PW_205 PU_205 PH_205 PD_205 PL_205 PI_205 k_205
      clear hb206
      obtain ⟨e0, e1⟩ := HI_206.out
      obtain ⟨e2, e3⟩ := HL_206.out
      go_wp2_with fail
      refine (same_spec (n - 1) G3 _ _ _ _ hn1 _ (PI_206.out) (PL_206.out)).mono ?_; rintro e w207 ⟨rfl, hb207⟩
      clear e0 e1 e2 e3
      have HS_207 := Lib.hid (HS_206.out.below hb207 (Nat.le_refl _))
      have HW_207 := Lib.hid (HW_206.out.below hb207 (Nat.le_refl _))
      have HU_207 := Lib.hid (HU_206.out.below hb207 (Nat.le_refl _))
      have HH_207 := Lib.hid (HH_206.out.below hb207 (Nat.le_refl _))
      have HD_207 := Lib.hid (HD_206.out.below hb207 (Nat.le_refl _))
      have HL_207 := Lib.hid (HL_206.out.below hb207 (Nat.le_refl _))
      have HI_207 := Lib.hid (HI_206.out.below hb207 (Nat.le_refl _))
      have HP_207 := Lib.hid (HP_206.out.below hb207 (Nat.le_refl _))
      have PW_207 := Lib.hid (PW_206.out.below hb207 (Nat.le_refl _))
      have PU_207 := Lib.hid (PU_206.out.below hb207 (Nat.le_refl _))
      have PH_207 := Lib.hid (PH_206.out.below hb207 (Nat.le_refl _))
      have PD_207 := Lib.hid (PD_206.out.below hb207 (Nat.le_refl _))
      have PL_207 := Lib.hid (PL_206.out.below hb207 (Nat.le_refl _))
      have PI_207 := Lib.hid (PI_206.out.below hb207 (Nat.le_refl _))
      have k_207 := Lib.hid (k_206.out.trans (hb207.mono k_206.out.size))
      clear HS_206 HW_206 HU_206 HH_206 HD_206 HL_206 HI_206 HP_206 PW_206 PU_206 PH_206 PD_206 PL_206 PI_206 k_206
      clear hb207
      go_wp2_with fail
      go_ret
      exact ⟨rfl, k_207.out⟩
end Go.Proofs.YtkmpfbjenddhjaaDoor

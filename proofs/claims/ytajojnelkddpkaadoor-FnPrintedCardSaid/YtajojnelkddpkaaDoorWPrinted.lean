/-
  The walk of the law FnPrinted: it returns true for all bytes. Condition: the listed variables hold what the row lists.
-/
import Derived.Test.YtajojnelkddpkaaDoorPrnOk
import Derived.Test.YtajojnelkddpkaaDoorEnv
namespace Go.Proofs.YtajojnelkddpkaaDoor
open Go.RowKit

/-- The least place at which a rising function reaches y. -/
def Reached (f : Int → Int) (y R C : Int) : Prop :=
  (C = 0 ∧ -200 ≤ R ∧ R ≤ 200 ∧ ∀ z, -200 ≤ z → (z < R → f z < y) ∧ (R ≤ z → y ≤ f z)) ∨ (C = 6 ∧ ∀ z, -200 ≤ z → z ≤ 200 → f z < y)
theorem reached_of {f : Int → Int} {y : Int} (hm : ∀ z z', z ≤ z' → f z ≤ f z') : Reached f y (ifOk (lstC f y) (forX f y)) (lstC f y) := by
  obtain ⟨h1, h2, h3, h4⟩ := forX_is f y
  by_cases h : forX f y = 201
  · rw [lst_no h]
    exact .inr ⟨rfl, fun z hz hz' => h3 z hz (by omega)⟩
  · rw [lst_yes h, ifOk_0]
    refine .inl ⟨rfl, h1, by omega, fun z hz => ⟨fun hl => h3 z hz hl, fun hg => ?_⟩⟩
    rcases h4 with h4 | h4
    · exact absurd h4 h
    · exact Int.le_trans h4 (hm _ _ hg)
theorem prnV_up {n : Nat} {xs ys : Nat → Int} {m : Nat} {us vs : Nat → Int} (c' : Crv m us vs) (x : Int) : ∀ z z', z ≤ z' → prnV n xs ys m us vs x z ≤ prnV n xs ys m us vs x z' := fun z z' h => dens_mono c' (by omega)
theorem prnV_400 {n : Nat} {xs ys : Nat → Int} {m : Nat} {us vs : Nat → Int} (c' : Crv m us vs) (x z : Int) : 0 ≤ prnV n xs ys m us vs x z ∧ prnV n xs ys m us vs x z ≤ 400 := dens_400 c' _

set_option maxRecDepth 100000 in
set_option maxHeartbeats 4000000 in
theorem walk_FnPrinted (A : Option Addr) (n cap : Nat) (bs : Nat → Int) (A' : Option Addr) (n' cap' : Nat) (bs' : Nat → Int) (w : World) (hL : laidMetH Tryd.prog Rows.fnPrintedRow.laid w)
    (hr : BytesIn w A n bs) (hm : n ≤ maxLen) (hbs : ∀ j, j < n → 0 ≤ bs j ∧ bs j ≤ 255) (hr' : BytesIn w A' n' bs') (hm' : n' ≤ maxLen) (hbs' : ∀ j, j < n' → 0 ≤ bs' j ∧ bs' j ≤ 255) :
    Calls Tryd.prog 6 #[.slice A n cap, .slice A' n' cap'] w fun e w' => e = .returned (.bool true) ∧ Below w.heap.size w w' := by
  obtain ⟨s, hE⟩ := errEnv_of_row hL (by kernel_rfl) (by kernel_rfl)
  unfold maxLen at hm hm'
  have HE := Lib.hid hE; clear hE hL
  have e1 := a2Long_any A n cap A' n' cap' (by omega) (by omega) w
  by_cases hbig : 3000 < n ∨ 3000 < n'
  · rw [show (decide (3000 < n) || decide (3000 < n')) = true by rcases hbig with h | h <;> simp [h]] at e1
    have E1 := Lib.hid e1; clear e1
    go_enter Tryd.func6, Tryd.ntmps6
    go_wp2_with fail
    refine E1.out.mono ?_; rintro e w1 ⟨rfl, rfl⟩
    go_wp2_with fail
    go_ret
    exact ⟨rfl, Below.refl _ _⟩
  have hs : n ≤ 3000 := by omega
  have hs' : n' ≤ 3000 := by omega
  rw [show (decide (3000 < n) || decide (3000 < n')) = false by simp; omega] at e1
  have E1 := Lib.hid e1; clear e1
  have Hbs := Lib.hid hbs; clear hbs
  have Hbs' := Lib.hid hbs'; clear hbs'
  clear hbig hm hm'
  go_enter Tryd.func6, Tryd.ntmps6
  go_wp2_with fail
  refine E1.out.mono ?_; rintro e w1 ⟨rfl, rfl⟩
  go_wp2_with fail
  refine (A2Curve_any A n cap bs (by omega) Hbs.out _ hr).mono ?_; rintro e w1 ⟨g, k, c, xs, ys, rfl, hk6, hcv, _, hrow, _, k1⟩
  go_wp2_with fail
  refine (A2Curve_any A' n' cap' bs' (by omega) Hbs'.out _ (hr'.below k1 (Nat.le_refl _))).mono ?_; rintro e w2 ⟨g', k', c', us, vs, rfl, hk6', hcv', _, hrow', _, hb2⟩
  have k2 := k1.trans (hb2.mono k1.size)
  have T2 : Two w2 g k xs ys g' k' us vs := ⟨hcv, hk6, hcv', hk6', hrow.below hb2 hrow.lt, hrow'⟩
  have Hcv' := Lib.hid hcv'; clear hcv' hcv hrow hrow' hb2 k1 hk6 hk6'
  go_wp2_with fail
  refine (a2At_any A' n' cap' bs' 0 60 (by omega) (by omega) (by omega) (by omega) Hbs'.out _ (hr'.below k2 (Nat.le_refl _))).mono ?_; rintro e w3 ⟨r1, rfl, h10, h11, rfl⟩
  go_wp2_with fail
  refine (a2At_any A' n' cap' bs' 1 200 (by omega) (by omega) (by omega) (by omega) Hbs'.out _ (hr'.below k2 (Nat.le_refl _))).mono ?_; rintro e w3 ⟨Y, rfl, h20, h21, rfl⟩
  have l1 := fun W hT hE => okLight s (b := g) (n := k) (xs := xs) (ys := ys) (b' := g') (m := k') (us := us) (vs := vs) (w := W) (r1 - 20) Y (by omega) (by omega) (by omega) (by omega) c c' hT hE
  have l2 := fun W hT => okSpecLight (b := g) (n := k) (xs := xs) (ys := ys) (b' := g') (m := k') (us := us) (vs := vs) (w := W) (r1 - 20) Y (by omega) (by omega) (by omega) (by omega) c c' hT
  have p1 := fun z (h : -40 ≤ z ∧ z ≤ 90) W hT hE => okPrintedAt s (b := g) (n := k) (xs := xs) (ys := ys) (b' := g') (m := k') (us := us) (vs := vs) (w := W) (r1 - 20) z (by omega) (by omega) (by omega) (by omega) c c' hT hE
  have p2 := fun z (h : -40 ≤ z ∧ z ≤ 90) W hT => okSpecPrintedAt (b := g) (n := k) (xs := xs) (ys := ys) (b' := g') (m := k') (us := us) (vs := vs) (w := W) (r1 - 20) z (by omega) (by omega) (by omega) (by omega) c c' hT
  have hup := prnV_up (n := k) (xs := xs) (ys := ys) Hcv'.out (r1 - 20)
  have hbd := prnV_400 (n := k) (xs := xs) (ys := ys) Hcv'.out (r1 - 20)
  have hre := reached_of (y := Y) hup
  generalize prnV k xs ys k' us vs (r1 - 20) = f at l1 l2 p1 p2 hup hbd hre
  generalize ifOk (lstC f Y) (forX f Y) = R at l1 l2 hre
  generalize lstC f Y = C at l1 l2 hre
  have L1 := Lib.hid l1; clear l1
  have L2 := Lib.hid l2; clear l2
  have P1 := Lib.hid p1; clear p1
  have P2 := Lib.hid p2; clear p2
  have Hup := Lib.hid hup; clear hup
  have Hbd := Lib.hid hbd; clear hbd
  have Hre := Lib.hid hre; clear hre
  go_wp2_with fail
  refine (L1.out _ T2 (HE.out.below k2 (Nat.le_refl _))).mono ?_; rintro e w3 ⟨rfl, hb3⟩
  have k3 := k2.trans (hb3.mono k2.size)
  have T3 := T2.below hb3 (Nat.le_refl _)
  clear T2 hb3 k2 L1
  go_wp2_with fail
  refine (L2.out _ T3).mono ?_; rintro e w4 ⟨rfl, hb4⟩
  have k4 := k3.trans (hb4.mono k3.size)
  have T4 := T3.below hb4 (Nat.le_refl _)
  clear T3 hb4 k3 L2
  go_wp2_with fail
  go_loopw [13, 14] (fun bv zv wr => ∃ B z : Int, bv = .int .i64 B ∧ zv = .int .i64 z ∧ -40 ≤ z ∧ z ≤ 91 ∧ -1 ≤ B ∧ B ≤ 400 ∧ B ≤ f z ∧ Below w.heap.size w wr ∧ Two wr g k xs ys g' k' us vs) (fun _ zv _ => (91 - intOf zv).toNat)
  case atStart => exact ⟨-1, -40, rfl, rfl, by omega, by omega, by omega, by omega, by have := Hbd.out (-40); omega, k4, T4⟩
  case round =>
    obtain ⟨B, z, rfl, rfl, hz0, hz1, hB0, hB1, hBf, kr, Tr⟩ := hrel
    by_cases hz : z ≤ 90
    · have q1 := P1.out z ⟨hz0, hz⟩
      have q2 := P2.out z ⟨hz0, hz⟩
      have hnx := Hup.out z (z + 1) (by omega)
      have hD := Hbd.out z
      have hcase : (C = 0 ∧ -200 ≤ R ∧ R ≤ 200 ∧ z < R ∧ f z < Y) ∨ (C = 0 ∧ -200 ≤ R ∧ R ≤ 200 ∧ R ≤ z ∧ Y ≤ f z) ∨ (C = 6 ∧ f z < Y) := by
        rcases Hre.out with ⟨h1, h2, h3, h4⟩ | ⟨h1, h2⟩
        · have h5 := h4 z (by omega)
          by_cases h6 : z < R
          · exact .inl ⟨h1, h2, h3, h6, h5.1 h6⟩
          · exact .inr (.inl ⟨h1, h2, h3, by omega, h5.2 (by omega)⟩)
        · exact .inr (.inr ⟨h1, h2 z (by omega) (by omega)⟩)
      generalize hDe : f z = D at q1 q2 hcase hBf hnx hD
      have Q1 := Lib.hid q1; clear q1
      have Q2 := Lib.hid q2; clear q2
      have Hnx := Lib.hid hnx; clear hnx hDe
      obtain ⟨hD0, hD1⟩ := hD
      have hr0 : (C = 0 ∨ C = 6) := by omega
      clear P1 P2
      rcases hcase with ⟨rfl, hc1, hc2, hc3, hc4⟩ | ⟨rfl, hc1, hc2, hc3, hc4⟩ | ⟨rfl, hc4⟩
      all_goals
        as_aux_lemma =>
          clear k4 T4
          go_wp2_with fail
          refine (Q1.out _ Tr (HE.out.below kr (Nat.le_refl _))).mono ?_; rintro e v1 ⟨rfl, hb1⟩
          have kv := kr.trans (hb1.mono kr.size)
          have Tv := Tr.below hb1 (Nat.le_refl _)
          clear hb1 kr Tr
          go_wp2_with fail
          refine (Q2.out _ Tv).mono ?_; rintro e v2 ⟨rfl, hb2⟩
          have ku := kv.trans (hb2.mono kv.size)
          have Tu := Tv.below hb2 (Nat.le_refl _)
          clear hb2 kv Tv
          go_wp2_with fail
          go_roundw
          case rel => exact ⟨D, z + 1, rfl, by go_num, by omega, by omega, by omega, by omega, Hnx.out, ku, Tu⟩
          case measure => simp [intOf]; omega
    · as_aux_lemma =>
        clear k4 T4 hB0 hB1 hBf P1 P2
        go_wp2_with fail
        refine (a2At_any A n cap bs 0 40 (by omega) (by omega) (by omega) (by omega) Hbs.out _ (hr.below kr (Nat.le_refl _))).mono ?_; rintro e v1 ⟨l, rfl, hl0, hl1, rfl⟩
        go_wp2_with fail
        refine (a2At_any A n cap bs 1 30 (by omega) (by omega) (by omega) (by omega) Hbs.out _ (hr.below kr (Nat.le_refl _))).mono ?_; rintro e v1 ⟨r4, rfl, h40, h41, rfl⟩
        go_wp2_with fail
        refine (a2At_any A n cap bs 2 20 (by omega) (by omega) (by omega) (by omega) Hbs.out _ (hr.below kr (Nat.le_refl _))).mono ?_; rintro e v1 ⟨r5, rfl, h50, h51, rfl⟩
        have q1 := fun W hT hE => okRange s (b := g) (n := k) (xs := xs) (ys := ys) (b' := g') (m := k') (us := us) (vs := vs) (w := W) (r4 - 10) (r4 - 10 + r5) l (by omega) (by omega) (by omega) (by omega) (by omega) c c' hT hE
        have q2 := fun W hT => okSpecRange (b := g) (n := k) (xs := xs) (ys := ys) (b' := g') (m := k') (us := us) (vs := vs) (w := W) (r4 - 10) (r4 - 10 + r5) l (by omega) (by omega) (by omega) (by omega) (by omega) c c' hT
        have q3 := fun W hT hE => okPrintedAt s (b := g) (n := k) (xs := xs) (ys := ys) (b' := g') (m := k') (us := us) (vs := vs) (w := W) (r4 - 10) l (by omega) (by omega) (by omega) (by omega) c c' hT hE
        have q4 := fun W hT hE => okPrintedAt s (b := g) (n := k) (xs := xs) (ys := ys) (b' := g') (m := k') (us := us) (vs := vs) (w := W) (r4 - 10 + r5) l (by omega) (by omega) (by omega) (by omega) c c' hT hE
        generalize prnV k xs ys k' us vs (r4 - 10 + r5) l = U at q1 q2 q4
        generalize prnV k xs ys k' us vs (r4 - 10) l = V at q1 q2 q3
        have Q1 := Lib.hid q1; clear q1
        have Q2 := Lib.hid q2; clear q2
        have Q3 := Lib.hid q3; clear q3
        have Q4 := Lib.hid q4; clear q4
        go_wp2_with fail
        refine (Q1.out _ Tr (HE.out.below kr (Nat.le_refl _))).mono ?_; rintro e v1 ⟨rfl, hb1⟩
        have kv := kr.trans (hb1.mono kr.size)
        have Tv := Tr.below hb1 (Nat.le_refl _)
        clear hb1 kr Tr
        go_wp2_with fail
        refine (Q2.out _ Tv).mono ?_; rintro e v2 ⟨rfl, hb2⟩
        have ku := kv.trans (hb2.mono kv.size)
        have Tu := Tv.below hb2 (Nat.le_refl _)
        clear hb2 kv Tv
        go_wp2_with fail
        refine (Q3.out _ Tu (HE.out.below ku (Nat.le_refl _))).mono ?_; rintro e v3 ⟨rfl, hb3⟩
        have kt := ku.trans (hb3.mono ku.size)
        have Tt := Tu.below hb3 (Nat.le_refl _)
        clear hb3 ku Tu
        go_wp2_with fail
        refine (Q4.out _ Tt (HE.out.below kt (Nat.le_refl _))).mono ?_; rintro e v4 ⟨rfl, hb4⟩
        have ko := kt.trans (hb4.mono kt.size)
        clear hb4 kt Tt
        go_wp2_with fail
        go_ret
        exact ⟨rfl, ko⟩
end Go.Proofs.YtajojnelkddpkaaDoor

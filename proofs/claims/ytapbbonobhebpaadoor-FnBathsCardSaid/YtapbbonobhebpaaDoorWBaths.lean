/-
  The walk of the law FnBaths: it returns true for all bytes. Condition: the listed variables hold what the row lists.
-/
import Derived.Test.YtapbbonobhebpaaDoorBathDrawn2
import Derived.Test.YtapbbonobhebpaaDoorMix
import Derived.Test.YtapbbonobhebpaaDoorEnv
namespace Go.Proofs.YtapbbonobhebpaaDoor
open Go.RowKit

section
variable {p k b t v u a : Int}
theorem okStr (z : Ers) (h : BOk p k b t v u a) (w : World) (hE : ErrEnv z w) :
    Calls Tryd.prog 6 #[devV p k b t, batV v u a] w fun e w' => e = .returned (.tuple #[.int .i64 (strn p k v u a), .int .i64 0]) ∧ Below w.heap.size w w' := by
  have hk := StrengthOf_any (p := p) (k := k) (b := b) (t := t) (v := v) (u := u) (a := a) z (by have := h.b0; omega) (by have := h.b1; omega) (by have := h.t0; omega) (by have := h.t1; omega) w hE
  unfold strR okC at hk
  rw [bathOk_true.2 h, if_pos rfl, if_pos rfl] at hk
  exact hk
theorem okSpecStr (h : BOk p k b t v u a) (w : World) :
    Calls Tryd.prog 7 #[devV p k b t, batV v u a] w fun e w' => e = .returned (.tuple #[.int .i64 (strn p k v u a), .int .i64 0]) ∧ Below w.heap.size w w' := by
  have hk := specStrengthOf_any (p := p) (k := k) (b := b) (t := t) (v := v) (u := u) (a := a) (by have := h.b0; omega) (by have := h.b1; omega) (by have := h.t0; omega) (by have := h.t1; omega) w
  unfold strR okC at hk
  rw [bathOk_true.2 h, if_pos rfl, if_pos rfl] at hk
  exact hk
end

theorem ifC_of {c x : Int} (h : c = 0) : ifC c x = x := if_pos h
section
variable {p k b t v u a : Int}
theorem sheet_of {s : Int} (h : BOk p k b t v u a) (h0 : sheetC p k b t v u a s = 0) : BOk p k b t v (u + s) a := by
  unfold sheetC sheetB at h0
  rw [bathOk_true.2 h] at h0
  rcases h1 : inB s 1 5000 with _ | _
  · rw [h1] at h0; simp at h0
  · rw [h1] at h0
    rcases h2 : bathOk p k b t v (u + s) a with _ | _
    · rw [h2] at h0; simp at h0
    · exact bathOk_true.1 h2
theorem rest_of {s : Int} (h : BOk p k b t v u a) (h0 : restC p k b t v u a s = 0) : BOk p k b t v u (a + s) := by
  unfold restC at h0
  rw [bathOk_true.2 h] at h0
  rcases h1 : inB s 0 100000 with _ | _
  · rw [h1] at h0; simp at h0
  · rw [h1] at h0
    rcases h2 : bathOk p k b t v u (a + s) with _ | _
    · rw [h2] at h0; simp at h0
    · exact bathOk_true.1 h2
theorem fill_0 {s : Int} (h : BOk p k b t v u a) (h0 : 0 ≤ s) (h1 : s ≤ v) : fillC p k b t v u a s = 0 := by
  unfold fillC
  rw [bathOk_true.2 h, inB_true.2 ⟨h0, h1⟩]; rfl
theorem mix_0 {s : Int} (h : BOk p k b t v u a) (hv : v ≤ 2000) (h0 : 1 ≤ s) (h1 : s ≤ 100) : mixC p k b t v u a s 0 0 = 0 ∧ mixA v a s 0 ≤ a := by
  have hv0 := h.v0
  have ha0 := h.a0
  have ha1 := h.a1
  have hav := Int.mul_nonneg ha0 (by omega : 0 ≤ v)
  have hpd : 0 ≤ s * p := Int.mul_nonneg (by omega) (by have := h.p0; omega)
  have hA : mixA v a s 0 = (a * v) / (v + s) := by unfold mixA; rw [Int.zero_mul, Int.add_zero]
  have hA1 : mixA v a s 0 ≤ a := by
    rw [hA]
    refine Int.ediv_le_of_le_mul (by omega) ?_
    exact Int.mul_le_mul_of_nonneg_left (by omega) ha0
  have hA0 : 0 ≤ mixA v a s 0 := by rw [hA]; exact Int.ediv_nonneg hav (by omega)
  have hr := h.room
  have hB : BOk p k b t (v + s) (u + 0) (mixA v a s 0) := { h with v0 := by omega, v1 := by omega, u0 := by have := h.u0; omega, u1 := by have := h.u1; omega, a0 := hA0, a1 := by omega, room := by rw [Int.add_mul]; omega }
  have hO : BOk p k b t s 0 0 := { h with v0 := by omega, v1 := by omega, u0 := by omega, u1 := by omega, a0 := by omega, a1 := by omega, room := by omega }
  refine ⟨?_, hA1⟩
  unfold mixC
  rw [if_pos ⟨bathOk_true.2 h, bathOk_true.2 hO⟩, if_pos (bathOk_true.2 hB)]
end

set_option maxRecDepth 100000 in
set_option maxHeartbeats 40000000 in
theorem walk_FnBaths (A : Option Addr) (n cap : Nat) (bs : Nat → Int) (A' : Option Addr) (n' cap' : Nat) (bs' : Nat → Int) (w : World) (hL : laidMetH Tryd.prog Rows.fnBathsRow.laid w)
    (hr : BytesIn w A n bs) (hm : n ≤ maxLen) (hbs : ∀ j, j < n → 0 ≤ bs j ∧ bs j ≤ 255) (hr' : BytesIn w A' n' bs') (hm' : n' ≤ maxLen) (hbs' : ∀ j, j < n' → 0 ≤ bs' j ∧ bs' j ≤ 255) :
    Calls Tryd.prog 3 #[.slice A n cap, .slice A' n' cap'] w fun e w' => e = .returned (.bool true) ∧ Below w.heap.size w w' := by
  obtain ⟨z, hE⟩ := errEnv_of_row hL (by kernel_rfl) (by kernel_rfl)
  have hT := timEnv_of_row hL (by kernel_rfl) (by kernel_rfl)
  unfold maxLen at hm hm'
  have HE := Lib.hid hE; clear hE
  have HT := Lib.hid hT; clear hT hL
  have e1 := a2Long_any A n cap A' n' cap' (by omega) (by omega) w
  by_cases hbig : 3000 < n ∨ 3000 < n'
  · rw [show (decide (3000 < n) || decide (3000 < n')) = true by rcases hbig with h | h <;> simp [h]] at e1
    have E1 := Lib.hid e1; clear e1
    go_enter Tryd.func3, Tryd.ntmps3
    go_wp2_with fail
    refine E1.out.mono ?_; rintro e w1 ⟨rfl, rfl⟩
    go_wp2_with fail
    go_ret
    exact ⟨rfl, Below.refl _ _⟩
  have hs : n ≤ 3000 := by omega
  have hs' : n' ≤ 3000 := by omega
  rw [show (decide (3000 < n) || decide (3000 < n')) = false by simp; omega] at e1
  have E1 := Lib.hid e1; clear e1
  have Hbs := Lib.hid hbs; clear hbs
  have Hbs' := Lib.hid hbs'; clear hbs'
  clear hbig hm hm'
  go_enter Tryd.func3, Tryd.ntmps3
  go_wp2_with fail
  refine E1.out.mono ?_; rintro e w1 ⟨rfl, rfl⟩
  go_wp2_with fail
  refine (A2Bath_any (by omega) Hbs.out _ hr).mono ?_; rintro e w2 ⟨p, k, c, t, v, u, a, rfl, h, hp1, hk1, hv1, k2⟩
  have HB := Lib.hid h; clear h
  go_wp2_with fail
  have W0k := k2.alloc k2.size (.cells #[.int .i64 p, .int .i64 k, .int .i8 c, .int .i8 t] 26)
  have W0k := W0k.alloc W0k.size (.cells #[.int .i64 v, .int .i64 u, .int .i64 a] 28)
  have D0 := (DvAt.newAt w2 w2.heap.size rfl 26 p k c t).alloc (.cells #[.int .i64 v, .int .i64 u, .int .i64 a] 28)
  have B0 := BtAt.newAt (w2.alloc (.cells #[.int .i64 p, .int .i64 k, .int .i8 c, .int .i8 t] 26)) (w2.heap.size + 1) (by simp) 28 v u a
  generalize (w2.alloc (.cells #[.int .i64 p, .int .i64 k, .int .i8 c, .int .i8 t] 26)).alloc (.cells #[.int .i64 v, .int .i64 u, .int .i64 a] 28) = W at *
  have h := HB.out
  have hb := h.b0
  have hb1 := h.b1
  have ht := h.t0
  have ht1 := h.t1
  have HEk := Lib.hid (fun V (hV : Below W.heap.size W V) => HE.out.below (W0k.trans (hV.mono W0k.size)) (Nat.le_refl _))
  have HTk := Lib.hid (fun V (hV : Below W.heap.size W V) => HT.out.below (W0k.trans (hV.mono W0k.size)) (Nat.le_refl _))
  have hsi := fun V hE => okStr z h V hE
  have hss := fun V => okSpecStr h V
  have hvd := fun V => ValidDeveloper_any p k c t (by omega) (by omega) (by omega) (by omega) V
  rw [devOk_true.2 h.toDOk] at hvd
  have hvb := fun V => ValidBath_any p k c t v u a (by omega) (by omega) (by omega) (by omega) V
  rw [bathOk_true.2 h] at hvb
  have hS := h.strn_bd
  have hsl := fun V hT hE => SlowerBy_any z (strn p k v u a) V hT hE
  have hsp := fun V => specSlowerBy_any (strn p k v u a) V
  have hsw := slw_spec hS.1
  have hKb := slw_bd (strn p k v u a)
  have hC5 : slw (strn p k v u a) = 37 → ∀ s, sheetC p k c t v u a s ≠ 0 := fun e s => by
    unfold sheetC sheetB
    rw [decide_eq_false (not_not_intro e), Bool.false_and]
    repeat split
    all_goals simp_all
  unfold slwR slwC at hsl hsp
  rw [inB_true.2 hS] at hsl hsp
  simp only [if_true] at hsl hsp
  generalize hSd : strn p k v u a = S at *
  generalize slw S = K at *
  have HSd := Lib.hid hSd; clear hSd
  have hRC : (K = 37 ∧ (if K = 37 then (6 : Int) else 0) = 6 ∧ (if K = 37 then (0 : Int) else K) = 0) ∨ (K ≠ 37 ∧ (if K = 37 then (6 : Int) else 0) = 0 ∧ (if K = 37 then (0 : Int) else K) = K) := by
    by_cases e : K = 37
    · exact .inl ⟨e, if_pos e, if_pos e⟩
    · exact .inr ⟨e, if_neg e, if_neg e⟩
  generalize (if K = 37 then (6 : Int) else 0) = C2 at *
  generalize (if K = 37 then (0 : Int) else K) = R2 at *
  have HRC := Lib.hid hRC; clear hRC
  have q1 : decide (S < 0) = false := decide_eq_false (by omega)
  have q2 : decide (1000 < S) = false := decide_eq_false (by omega)
  have Hsi := Lib.hid hsi; clear hsi
  have Hss := Lib.hid hss; clear hss
  have Hvd := Lib.hid hvd; clear hvd
  have Hvb := Lib.hid hvb; clear hvb
  have Hsl := Lib.hid hsl; clear hsl
  have Hsp := Lib.hid hsp; clear hsp
  have Hsw := Lib.hid hsw; clear hsw
  have HC5 := Lib.hid hC5; clear hC5
  clear h
  have kW0 := Below.refl W.heap.size W
  obtain ⟨d0, d1, d2, d3⟩ := D0.below kW0 (Nat.le_refl _)
  obtain ⟨b0, b1, b2, _, _, _⟩ := B0.below kW0 (Nat.le_refl _)
  refine (Hsi.out _ (HEk.out _ kW0)).mono ?_; rintro e v1 ⟨rfl, hb1⟩
  have kW1 := kW0.trans (hb1.mono kW0.size)
  clear d0 d1 d2 d3 b0 b1 b2
  clear hb1 kW0
  obtain ⟨d0, d1, d2, d3⟩ := D0.below kW1 (Nat.le_refl _)
  obtain ⟨b0, b1, b2, _, _, _⟩ := B0.below kW1 (Nat.le_refl _)
  go_wp2_with fail
  refine (Hss.out _).mono ?_; rintro e v2 ⟨rfl, hb2⟩
  have kW2 := kW1.trans (hb2.mono kW1.size)
  clear d0 d1 d2 d3 b0 b1 b2
  clear hb2 kW1
  obtain ⟨d0, d1, d2, d3⟩ := D0.below kW2 (Nat.le_refl _)
  obtain ⟨b0, b1, b2, _, _, _⟩ := B0.below kW2 (Nat.le_refl _)
  go_wp2_with fail
  refine (Hvd.out _).mono ?_; rintro e v3 ⟨rfl, hb3⟩
  have kW3 := kW2.trans (hb3.mono kW2.size)
  clear d0 d1 d2 d3 b0 b1 b2
  clear hb3 kW2
  obtain ⟨d0, d1, d2, d3⟩ := D0.below kW3 (Nat.le_refl _)
  obtain ⟨b0, b1, b2, _, _, _⟩ := B0.below kW3 (Nat.le_refl _)
  go_wp2_with fail
  refine (Hvb.out _).mono ?_; rintro e v4 ⟨rfl, hb4⟩
  have kW4 := kW3.trans (hb4.mono kW3.size)
  clear d0 d1 d2 d3 b0 b1 b2
  clear hb4 kW3
  obtain ⟨d0, d1, d2, d3⟩ := D0.below kW4 (Nat.le_refl _)
  obtain ⟨b0, b1, b2, _, _, _⟩ := B0.below kW4 (Nat.le_refl _)
  go_wp2_with fail
  refine (Hsl.out _ (HTk.out _ kW4) (HEk.out _ kW4)).mono ?_; rintro e v5 ⟨rfl, hb5⟩
  have kW5 := kW4.trans (hb5.mono kW4.size)
  clear d0 d1 d2 d3 b0 b1 b2
  clear hb5 kW4
  obtain ⟨d0, d1, d2, d3⟩ := D0.below kW5 (Nat.le_refl _)
  obtain ⟨b0, b1, b2, _, _, _⟩ := B0.below kW5 (Nat.le_refl _)
  go_wp2_with fail
  refine (Hsp.out _).mono ?_; rintro e v6 ⟨rfl, hb6⟩
  have kW6 := kW5.trans (hb6.mono kW5.size)
  clear d0 d1 d2 d3 b0 b1 b2
  clear hb6 kW5
  obtain ⟨d0, d1, d2, d3⟩ := D0.below kW6 (Nat.le_refl _)
  obtain ⟨b0, b1, b2, _, _, _⟩ := B0.below kW6 (Nat.le_refl _)
  rcases HRC.out with ⟨hK, rfl, rfl⟩ | ⟨hK, rfl, rfl⟩
  · have kX0 := kW6
    have hat := fun (j : Nat) (m : Int) (hj : j ≤ 10) (hm : 1 ≤ m) (hm' : m ≤ 100000) V (hV : Below W.heap.size W V) => (atV_any A' n' cap' bs' j m hj hm hm' (by omega) Hbs'.out V (hr'.below (W0k.trans (hV.mono W0k.size)) (Nat.le_refl _))).mono (R' := fun e w' => e = .returned (.int .i64 (atV bs' n' j m)) ∧ Below V.heap.size V w') fun _ _ ⟨e, hw⟩ => ⟨e, hw ▸ Below.refl _ _⟩
    have Hat := Lib.hid hat; clear hat
    have h := HB.out
    have hr0 := atV_bd (bs := bs') (n := n') (k := 0) (m := 200) (by omega)
    have hr1 := atV_bd (bs := bs') (n := n') (k := 1) (m := 30) (by omega)
    have hr2 := atV_bd (bs := bs') (n := n') (k := 2) (m := v + 1) (by have := h.v0; omega)
    have hr3 := atV_bd (bs := bs') (n := n') (k := 3) (m := 100) (by omega)
    have hat0 := fun V hV => Hat.out 0 200 (by omega) (by omega) (by omega) V hV
    have hat1 := fun V hV => Hat.out 1 30 (by omega) (by omega) (by omega) V hV
    have hat2 := fun V hV => Hat.out 2 (v + 1) (by omega) (by have := h.v0; omega) (by omega) V hV
    have hat3 := fun V hV => Hat.out 3 100 (by omega) (by omega) (by omega) V hV
    generalize atV bs' n' 0 200 = r0 at *
    generalize atV bs' n' 1 30 = r1 at *
    generalize atV bs' n' 2 (v + 1) = r2 at *
    generalize atV bs' n' 3 100 = r3 at *
    have Hat0 := Lib.hid hat0; clear hat0
    have Hat1 := Lib.hid hat1; clear hat1
    have Hat2 := Lib.hid hat2; clear hat2
    have Hat3 := Lib.hid hat3; clear hat3
    clear Hat
    have hdi := fun V hT hE => DevelopSheet_any (p := p) (k := k) (b := c) (t := t) (v := v) (u := u) (a := a) z (1 + r0) (by omega) (by omega) (by omega) (by omega) V hT hE
    have hds := fun V => specDevelopSheet_any (p := p) (k := k) (b := c) (t := t) (v := v) (u := u) (a := a) (1 + r0) (by omega) (by omega) (by omega) (by omega) V
    have hri := fun V hE => RestBath_any (p := p) (k := k) (b := c) (t := t) (v := v) (u := u) (a := a) z r1 (by omega) (by omega) (by omega) (by omega) V hE
    have hrs := fun V => specRestBath_any (p := p) (k := k) (b := c) (t := t) (v := v) (u := u) (a := a) r1 (by omega) (by omega) (by omega) (by omega) V
    have hfi := fun V hE => Replenish_any (p := p) (k := k) (b := c) (t := t) (v := v) (u := u) (a := a) z r2 (by omega) (by omega) (by omega) (by omega) V hE
    have hfs := fun V => specReplenish_any (p := p) (k := k) (b := c) (t := t) (v := v) (u := u) (a := a) r2 (by omega) (by omega) (by omega) (by omega) V
    have hmi := fun V hE => MixBaths_any (p := p) (k := k) (b := c) (t := t) (v := v) (u := u) (a := a) (v1 := 1 + r3) (u1 := 0) (a1 := 0) z (by omega) (by omega) (by omega) (by omega) V hE
    have hms := fun V => specMixBaths_any (p := p) (k := k) (b := c) (t := t) (v := v) (u := u) (a := a) (v1 := 1 + r3) (u1 := 0) (a1 := 0) (by omega) (by omega) (by omega) (by omega) V
    unfold BathCode at hdi hri hfi hmi
    have hf0 := fill_0 h hr2.1 (by omega : r2 ≤ v)
    have hm0 := mix_0 h hv1 (by omega : 1 ≤ 1 + r3) (by omega)
    rw [hf0] at hfi hfs
    rw [hm0.1] at hmi hms
    simp only [ifC_0, Int.add_zero] at hfi hfs hmi hms
    have hst8 := fun V hE => okStr z (h.fill hr2.1 (by omega)) V hE
    have h8 := fill_mono h (m := 0) (m' := r2) (Int.le_refl _) hr2.1 (by omega)
    rw [left_none h.v0, left_none h.v0, HSd.out] at h8
    have hm1 := hm0.2
    clear hm0 hf0
    generalize strn p k v (left u v r2) (left a v r2) = S8 at *
    generalize left u v r2 = L1 at *
    generalize left a v r2 = L2 at *
    generalize mixA v a (1 + r3) 0 = M2 at *
    have h5 := fun e => sheet_of (s := 1 + r0) h e
    have h6 := fun e => rest_of (s := r1) h e
    have hs5 := fun (e : sheetC p k c t v u a (1 + r0) = 0) V hE => okStr z (h5 e) V hE
    have hs6 := fun (e : restC p k c t v u a r1 = 0) V hE => okStr z (h6 e) V hE
    have m5 : sheetC p k c t v u a (1 + r0) = 0 → strn p k v (u + (1 + r0)) a ≤ S := fun e => by rw [← HSd.out]; exact strn_mono (h5 e) (by omega) h.u0 (Int.le_refl _) h.a0
    have m6 : restC p k c t v u a r1 = 0 → strn p k v u (a + r1) ≤ S := fun e => by rw [← HSd.out]; exact strn_mono (h6 e) (Int.le_refl _) h.u0 (by omega) h.a0
    have c5 := HC5.out
    have c5 := fun e => c5 e (1 + r0)
    have u0 := h.u0
    have u1 := h.u1
    have a0 := h.a0
    have a1 := h.a1
    have vv := h.v0
    generalize sheetC p k c t v u a (1 + r0) = C5 at *
    generalize restC p k c t v u a r1 = C6 at *
    generalize strn p k v (u + (1 + r0)) a = S5 at *
    generalize strn p k v u (a + r1) = S6 at *
    generalize e50 : ifC C5 v = s0 at *
    generalize e51 : ifC C5 (u + (1 + r0)) = s1 at *
    generalize e52 : ifC C5 a = s2 at *
    generalize e60 : ifC C6 v = o0 at *
    generalize e61 : ifC C6 u = o1 at *
    generalize e62 : ifC C6 (a + r1) = o2 at *
    have Hdi := Lib.hid hdi; clear hdi
    have Hds := Lib.hid hds; clear hds
    have Hri := Lib.hid hri; clear hri
    have Hrs := Lib.hid hrs; clear hrs
    have Hfi := Lib.hid hfi; clear hfi
    have Hfs := Lib.hid hfs; clear hfs
    have Hmi := Lib.hid hmi; clear hmi
    have Hms := Lib.hid hms; clear hms
    have H8 := Lib.hid hst8; clear hst8
    have H5 := Lib.hid hs5; clear hs5 h5
    have H6 := Lib.hid hs6; clear hs6 h6
    have M5 := Lib.hid m5; clear m5
    have M6 := Lib.hid m6; clear m6
    have K5 := Lib.hid c5; clear c5
    have E5 := Lib.hid (And.intro e50 (And.intro e51 e52)); clear e50 e51 e52
    have E6 := Lib.hid (And.intro e60 (And.intro e61 e62)); clear e60 e61 e62
    clear h
    go_wp2_with fail
    refine (Hat0.out _ kX0).mono ?_; rintro e y1 ⟨rfl, hb1'⟩
    have kY1 := kX0.trans (hb1'.mono kX0.size)
    clear hb1' d0 d1 d2 d3 b0 b1 b2
    obtain ⟨d0, d1, d2, d3⟩ := D0.below kY1 (Nat.le_refl _)
    obtain ⟨b0, b1, b2, _, _, _⟩ := B0.below kY1 (Nat.le_refl _)
    have l0 := cell_ltB d0
    have l1 := cell_ltB b0
    go_wp2_with fail
    refine (Hdi.out _ (HTk.out _ kY1) (HEk.out _ kY1)).mono ?_; rintro e y2 ⟨rfl, hb2'⟩
    have kY2 := kY1.trans (hb2'.mono kY1.size)
    clear hb2' d0 d1 d2 d3 b0 b1 b2 l0 l1
    have x20 := BtAt.newAt y2 y2.heap.size rfl 28 s0 s1 s2
    have kA2 := kY2.alloc kY2.size (.cells #[.int .i64 s0, .int .i64 s1, .int .i64 s2] 28)
    obtain ⟨d0, d1, d2, d3⟩ := D0.below kY2 (Nat.le_refl _)
    obtain ⟨b0, b1, b2, _, _, _⟩ := B0.below kY2 (Nat.le_refl _)
    have l0 := cell_ltB d0
    have l1 := cell_ltB b0
    go_wp2_with fail
    refine (Hds.out _).mono ?_; rintro e y3 ⟨rfl, hb3'⟩
    have kY3 := kA2.trans (hb3'.mono kA2.size)
    have x20 := (x20.below hb3' (Nat.le_refl _)).alloc (.cells #[.int .i64 s0, .int .i64 s1, .int .i64 s2] 28)
    have x22 := BtAt.newAt y3 y3.heap.size rfl 28 s0 s1 s2
    have kA3 := kY3.alloc kY3.size (.cells #[.int .i64 s0, .int .i64 s1, .int .i64 s2] 28)
    clear hb3' d0 d1 d2 d3 b0 b1 b2 l0 l1 kY2 kA2
    go_wp2_with fail
    generalize hA3 : y3.alloc (.cells #[.int .i64 s0, .int .i64 s1, .int .i64 s2] 28) = A3 at *
    clear hA3
    obtain ⟨d0, d1, d2, d3⟩ := D0.below kA3 (Nat.le_refl _)
    obtain ⟨b0, b1, b2, _, _, _⟩ := B0.below kA3 (Nat.le_refl _)
    have l0 := cell_ltB d0
    have l1 := cell_ltB b0
    refine wp_region_phases 8 (clB A3 o0 o1 o2) .p0 (by kernel_rfl) (by kernel_rfl) ⟨⟨_, below_drew1 _⟩, rfl⟩ ?_
    apply Exists.intro
    refine ⟨fun ph => ?_, ?_⟩
    · simp only [List.take_succ_cons, List.take_zero]
      have n0 := phB_nonempty A3 o0 o1 o2 ph
      have f0 := fun (x : WIn (phB A3 o0 o1 o2 ph)) => inCellP d0 x
      have f1 := fun (x : WIn (phB A3 o0 o1 o2 ph)) => inCellP d1 x
      have f2 := fun (x : WIn (phB A3 o0 o1 o2 ph)) => inCellP d2 x
      have f3 := fun (x : WIn (phB A3 o0 o1 o2 ph)) => inCellP d3 x
      have f4 := fun (x : WIn (phB A3 o0 o1 o2 ph)) => inCellP b0 x
      have f5 := fun (x : WIn (phB A3 o0 o1 o2 ph)) => inCellP b1 x
      have f6 := fun (x : WIn (phB A3 o0 o1 o2 ph)) => inCellP b2 x
      have Ha := Lib.hid (fun (x : WIn (phB A3 o0 o1 o2 ph)) => Hat1.out x.w (kA3.trans (x.ok.bel.mono kA3.size)))
      have Hc := Lib.hid (fun (x : WIn (phB A3 o0 o1 o2 ph)) => Hri.out x.w (HEk.out _ (kA3.trans (x.ok.bel.mono kA3.size))))
      repeat (go_big_quiet_step (first | (go_at_call 13; exact inCallP _ (Ha.out _)) | (go_at_call 16; exact inCallP _ (Hc.out _))))
      exact wpQuiet_nil rfl
    simp only [List.drop_succ_cons, List.drop_zero]
    refine tail_bath (T := 28) (u := .int .i64 C6) rfl (fun w' => ?rA) (fun q => rfl) (fun q w' hw' => ?rS) (fun q => rfl) (fun q w' => ?rZ) (fun j1 => ?_)
    case rA => first | rfl | kernel_rfl | (go_simp; done) | simp [go_sem]
    case rS =>
      obtain ⟨g0, g1, g2, h0, h1, h2⟩ := hw'
      first | (go_simp; done) | (simp [go_sem, g0, g1, g2, h0, h1, h2]; done)
    case rZ => first | rfl | (go_simp; done) | simp [go_sem]
    rintro _ ⟨y, rfl⟩
    have Y := y.ok
    generalize y.w = y4 at *
    obtain ⟨ky4, x24⟩ := Y
    have kY4 := kA3.trans (ky4.mono kA3.size)
    have x20 := x20.below ky4 (Nat.le_refl _)
    have x22 := x22.below ky4 (Nat.le_refl _)
    clear d0 d1 d2 d3 b0 b1 b2 l0 l1
    simp [Act.put]
    obtain ⟨d0, d1, d2, d3⟩ := D0.below kY4 (Nat.le_refl _)
    obtain ⟨b0, b1, b2, _, _, _⟩ := B0.below kY4 (Nat.le_refl _)
    have l0 := cell_ltB d0
    have l1 := cell_ltB b0
    go_wp2_with fail
    refine wp_region_phases 8 (clB y4 o0 o1 o2) .p0 (by kernel_rfl) (by kernel_rfl) ⟨⟨_, below_drew1 _⟩, rfl⟩ ?_
    apply Exists.intro
    refine ⟨fun ph => ?_, ?_⟩
    · simp only [List.take_succ_cons, List.take_zero]
      have n0 := phB_nonempty y4 o0 o1 o2 ph
      have f0 := fun (x : WIn (phB y4 o0 o1 o2 ph)) => inCellP d0 x
      have f1 := fun (x : WIn (phB y4 o0 o1 o2 ph)) => inCellP d1 x
      have f2 := fun (x : WIn (phB y4 o0 o1 o2 ph)) => inCellP d2 x
      have f3 := fun (x : WIn (phB y4 o0 o1 o2 ph)) => inCellP d3 x
      have f4 := fun (x : WIn (phB y4 o0 o1 o2 ph)) => inCellP b0 x
      have f5 := fun (x : WIn (phB y4 o0 o1 o2 ph)) => inCellP b1 x
      have f6 := fun (x : WIn (phB y4 o0 o1 o2 ph)) => inCellP b2 x
      have Ha := Lib.hid (fun (x : WIn (phB y4 o0 o1 o2 ph)) => Hat1.out x.w (kY4.trans (x.ok.bel.mono kY4.size)))
      have Hc := Lib.hid (fun (x : WIn (phB y4 o0 o1 o2 ph)) => Hrs.out x.w)
      repeat (go_big_quiet_step (first | (go_at_call 13; exact inCallP _ (Ha.out _)) | (go_at_call 17; exact inCallP _ (Hc.out _))))
      exact wpQuiet_nil rfl
    simp only [List.drop_succ_cons, List.drop_zero]
    refine tail_bath (T := 28) (u := .int .i64 C6) rfl (fun w' => ?rA) (fun q => rfl) (fun q w' hw' => ?rS) (fun q => rfl) (fun q w' => ?rZ) (fun j2 => ?_)
    case rA => first | rfl | kernel_rfl | (go_simp; done) | simp [go_sem]
    case rS =>
      obtain ⟨g0, g1, g2, h0, h1, h2⟩ := hw'
      first | (go_simp; done) | (simp [go_sem, g0, g1, g2, h0, h1, h2]; done)
    case rZ => first | rfl | (go_simp; done) | simp [go_sem]
    rintro _ ⟨y, rfl⟩
    have Y := y.ok
    generalize y.w = y5 at *
    obtain ⟨ky5, x26⟩ := Y
    have kY5 := kY4.trans (ky5.mono kY4.size)
    have x20 := x20.below ky5 (Nat.le_refl _)
    have x22 := x22.below ky5 (Nat.le_refl _)
    have x24 := x24.below ky5 (Nat.le_refl _)
    clear d0 d1 d2 d3 b0 b1 b2 l0 l1
    simp [Act.put]
    obtain ⟨d0, d1, d2, d3⟩ := D0.below kY5 (Nat.le_refl _)
    obtain ⟨b0, b1, b2, _, _, _⟩ := B0.below kY5 (Nat.le_refl _)
    have l0 := cell_ltB d0
    have l1 := cell_ltB b0
    have z20 := x20
    have z22 := x22
    have z24 := x24
    have z26 := x26
    obtain ⟨p0, p1, p2, _, _, _⟩ := z20
    obtain ⟨q0, q1', q2', _, _, _⟩ := z22
    obtain ⟨t0, t1, t2, _, _, _⟩ := z24
    obtain ⟨o0', o1', o2', _, _, _⟩ := z26
    by_cases h5y : C5 = 0
    · exact absurd h5y (K5.out hK)
    · by_cases h6 : C6 = 0
      · subst h6
        have E6' := E6.out
        simp only [ifC_0] at E6'
        obtain ⟨rfl, rfl, rfl⟩ := E6'
        have w6 := M6.out (by first | rfl | trivial)
        have w6 : decide (S < S6) = false := decide_eq_false (by omega)
        go_wp2_with fail
        refine (H6.out (by first | rfl | trivial) _ (HEk.out _ kY5)).mono ?_; rintro e y8 ⟨rfl, hd8⟩
        have kY8 := kY5.trans (hd8.mono kY5.size)
        clear hd8
        clear d0 d1 d2 d3 b0 b1 b2 l0 l1
        obtain ⟨d0, d1, d2, d3⟩ := D0.below kY8 (Nat.le_refl _)
        obtain ⟨b0, b1, b2, _, _, _⟩ := B0.below kY8 (Nat.le_refl _)
        have l0 := cell_ltB d0
        have l1 := cell_ltB b0
        go_wp2_with fail
        refine (Hat2.out _ kY8).mono ?_; rintro e g1 ⟨rfl, hc1⟩
        have kTg1 := kY8.trans (hc1.mono kY8.size)
        clear hc1
        clear d0 d1 d2 d3 b0 b1 b2 l0 l1
        obtain ⟨d0, d1, d2, d3⟩ := D0.below kTg1 (Nat.le_refl _)
        obtain ⟨b0, b1, b2, _, _, _⟩ := B0.below kTg1 (Nat.le_refl _)
        have l0 := cell_ltB d0
        have l1 := cell_ltB b0
        go_wp2_with fail
        refine (Hfi.out _ (HEk.out _ kTg1)).mono ?_; rintro e g2 ⟨rfl, hc2⟩
        have kTg2 := kTg1.trans (hc2.mono kTg1.size)
        clear hc2
        clear d0 d1 d2 d3 b0 b1 b2 l0 l1
        have x33 := BtAt.newAt g2 g2.heap.size rfl 28 v L1 L2
        have kUg2 := kTg2.alloc kTg2.size (.cells #[.int .i64 v, .int .i64 L1, .int .i64 L2] 28)
        obtain ⟨d0, d1, d2, d3⟩ := D0.below kUg2 (Nat.le_refl _)
        obtain ⟨b0, b1, b2, _, _, _⟩ := B0.below kUg2 (Nat.le_refl _)
        have l0 := cell_ltB d0
        have l1 := cell_ltB b0
        go_wp2_with fail
        refine (Hfs.out _).mono ?_; rintro e g3 ⟨rfl, hc3⟩
        have kTg3 := kUg2.trans (hc3.mono kUg2.size)
        have x33 := x33.below hc3 (Nat.le_refl _)
        clear hc3
        clear d0 d1 d2 d3 b0 b1 b2 l0 l1
        have x33 := x33.alloc (.cells #[.int .i64 v, .int .i64 L1, .int .i64 L2] 28)
        have x35 := BtAt.newAt g3 g3.heap.size rfl 28 v L1 L2
        have kUg3 := kTg3.alloc kTg3.size (.cells #[.int .i64 v, .int .i64 L1, .int .i64 L2] 28)
        obtain ⟨d0, d1, d2, d3⟩ := D0.below kUg3 (Nat.le_refl _)
        obtain ⟨b0, b1, b2, _, _, _⟩ := B0.below kUg3 (Nat.le_refl _)
        have l0 := cell_ltB d0
        have l1 := cell_ltB b0
        have z35 := x35
        obtain ⟨f0, f1, f2, _, _, _⟩ := z35
        have l2 := cell_ltB f0
        go_wp2_with fail
        refine (H8.out _ (HEk.out _ kUg3)).mono ?_; rintro e g4 ⟨rfl, hc4⟩
        have kTg4 := kUg3.trans (hc4.mono kUg3.size)
        have x33 := x33.below hc4 (Nat.le_refl _)
        have x35 := x35.below hc4 (Nat.le_refl _)
        clear hc4
        clear d0 d1 d2 d3 b0 b1 b2 l0 l1
        clear f0 f1 f2 l2
        obtain ⟨d0, d1, d2, d3⟩ := D0.below kTg4 (Nat.le_refl _)
        obtain ⟨b0, b1, b2, _, _, _⟩ := B0.below kTg4 (Nat.le_refl _)
        have l0 := cell_ltB d0
        have l1 := cell_ltB b0
        go_wp2_with fail
        refine (Hat3.out _ kTg4).mono ?_; rintro e g5 ⟨rfl, hc5⟩
        have kTg5 := kTg4.trans (hc5.mono kTg4.size)
        have x33 := x33.below hc5 (Nat.le_refl _)
        have x35 := x35.below hc5 (Nat.le_refl _)
        clear hc5
        clear d0 d1 d2 d3 b0 b1 b2 l0 l1
        have x33 := x33.alloc (.cells #[.int .i64 (1 + r3), .int .i64 0, .int .i64 0] 28)
        have x35 := x35.alloc (.cells #[.int .i64 (1 + r3), .int .i64 0, .int .i64 0] 28)
        have x39 := BtAt.newAt g5 g5.heap.size rfl 28 (1 + r3) 0 0
        have kUg5 := kTg5.alloc kTg5.size (.cells #[.int .i64 (1 + r3), .int .i64 0, .int .i64 0] 28)
        obtain ⟨d0, d1, d2, d3⟩ := D0.below kUg5 (Nat.le_refl _)
        obtain ⟨b0, b1, b2, _, _, _⟩ := B0.below kUg5 (Nat.le_refl _)
        have l0 := cell_ltB d0
        have l1 := cell_ltB b0
        have z39 := x39
        obtain ⟨f0, f1, f2, _, _, _⟩ := z39
        have l2 := cell_ltB f0
        go_wp2_with fail
        refine (Hmi.out _ (HEk.out _ kUg5)).mono ?_; rintro e g6 ⟨rfl, hc6⟩
        have kTg6 := kUg5.trans (hc6.mono kUg5.size)
        have x33 := x33.below hc6 (Nat.le_refl _)
        have x35 := x35.below hc6 (Nat.le_refl _)
        have x39 := x39.below hc6 (Nat.le_refl _)
        clear hc6
        clear d0 d1 d2 d3 b0 b1 b2 l0 l1
        clear f0 f1 f2 l2
        have x33 := x33.alloc (.cells #[.int .i64 (v + (1 + r3)), .int .i64 u, .int .i64 M2] 28)
        have x35 := x35.alloc (.cells #[.int .i64 (v + (1 + r3)), .int .i64 u, .int .i64 M2] 28)
        have x39 := x39.alloc (.cells #[.int .i64 (v + (1 + r3)), .int .i64 u, .int .i64 M2] 28)
        have x40 := BtAt.newAt g6 g6.heap.size rfl 28 (v + (1 + r3)) u M2
        have kUg6 := kTg6.alloc kTg6.size (.cells #[.int .i64 (v + (1 + r3)), .int .i64 u, .int .i64 M2] 28)
        obtain ⟨d0, d1, d2, d3⟩ := D0.below kUg6 (Nat.le_refl _)
        obtain ⟨b0, b1, b2, _, _, _⟩ := B0.below kUg6 (Nat.le_refl _)
        have l0 := cell_ltB d0
        have l1 := cell_ltB b0
        have z39 := x39
        obtain ⟨f0, f1, f2, _, _, _⟩ := z39
        have l2 := cell_ltB f0
        go_wp2_with fail
        refine (Hms.out _).mono ?_; rintro e g7 ⟨rfl, hc7⟩
        have kTg7 := kUg6.trans (hc7.mono kUg6.size)
        have x33 := x33.below hc7 (Nat.le_refl _)
        have x35 := x35.below hc7 (Nat.le_refl _)
        have x39 := x39.below hc7 (Nat.le_refl _)
        have x40 := x40.below hc7 (Nat.le_refl _)
        clear hc7
        clear d0 d1 d2 d3 b0 b1 b2 l0 l1
        clear f0 f1 f2 l2
        have x33 := x33.alloc (.cells #[.int .i64 (v + (1 + r3)), .int .i64 u, .int .i64 M2] 28)
        have x35 := x35.alloc (.cells #[.int .i64 (v + (1 + r3)), .int .i64 u, .int .i64 M2] 28)
        have x39 := x39.alloc (.cells #[.int .i64 (v + (1 + r3)), .int .i64 u, .int .i64 M2] 28)
        have x40 := x40.alloc (.cells #[.int .i64 (v + (1 + r3)), .int .i64 u, .int .i64 M2] 28)
        have x42 := BtAt.newAt g7 g7.heap.size rfl 28 (v + (1 + r3)) u M2
        have kUg7 := kTg7.alloc kTg7.size (.cells #[.int .i64 (v + (1 + r3)), .int .i64 u, .int .i64 M2] 28)
        obtain ⟨d0, d1, d2, d3⟩ := D0.below kUg7 (Nat.le_refl _)
        obtain ⟨b0, b1, b2, _, _, _⟩ := B0.below kUg7 (Nat.le_refl _)
        have l0 := cell_ltB d0
        have l1 := cell_ltB b0
        obtain ⟨i0, i1, i2, _, _, _⟩ := x33
        obtain ⟨i3, i4, i5, _, _, _⟩ := x35
        obtain ⟨i6, i7, i8, _, _, _⟩ := x39
        obtain ⟨j0, j1', j2', _, _, _⟩ := x40
        obtain ⟨j3, j4, j5, _, _, _⟩ := x42
        have w8 : decide (S ≤ S8) = true := decide_eq_true h8
        have wM : decide (M2 ≤ a) = true := decide_eq_true hm1
        have ni0 := cell_ltB i0
        have ni3 := cell_ltB i3
        have ni6 := cell_ltB i6
        have nj0 := cell_ltB j0
        have nj3 := cell_ltB j3
        go_wp2_with fail
        go_ret
        exact ⟨rfl, W0k.trans (kUg7.mono W0k.size)⟩
      · clear d0 d1 d2 d3 b0 b1 b2 l0 l1
        obtain ⟨d0, d1, d2, d3⟩ := D0.below kY5 (Nat.le_refl _)
        obtain ⟨b0, b1, b2, _, _, _⟩ := B0.below kY5 (Nat.le_refl _)
        have l0 := cell_ltB d0
        have l1 := cell_ltB b0
        go_wp2_with fail
        refine (Hat2.out _ kY5).mono ?_; rintro e g1 ⟨rfl, hc1⟩
        have kTg1 := kY5.trans (hc1.mono kY5.size)
        clear hc1
        clear d0 d1 d2 d3 b0 b1 b2 l0 l1
        obtain ⟨d0, d1, d2, d3⟩ := D0.below kTg1 (Nat.le_refl _)
        obtain ⟨b0, b1, b2, _, _, _⟩ := B0.below kTg1 (Nat.le_refl _)
        have l0 := cell_ltB d0
        have l1 := cell_ltB b0
        go_wp2_with fail
        refine (Hfi.out _ (HEk.out _ kTg1)).mono ?_; rintro e g2 ⟨rfl, hc2⟩
        have kTg2 := kTg1.trans (hc2.mono kTg1.size)
        clear hc2
        clear d0 d1 d2 d3 b0 b1 b2 l0 l1
        have x33 := BtAt.newAt g2 g2.heap.size rfl 28 v L1 L2
        have kUg2 := kTg2.alloc kTg2.size (.cells #[.int .i64 v, .int .i64 L1, .int .i64 L2] 28)
        obtain ⟨d0, d1, d2, d3⟩ := D0.below kUg2 (Nat.le_refl _)
        obtain ⟨b0, b1, b2, _, _, _⟩ := B0.below kUg2 (Nat.le_refl _)
        have l0 := cell_ltB d0
        have l1 := cell_ltB b0
        go_wp2_with fail
        refine (Hfs.out _).mono ?_; rintro e g3 ⟨rfl, hc3⟩
        have kTg3 := kUg2.trans (hc3.mono kUg2.size)
        have x33 := x33.below hc3 (Nat.le_refl _)
        clear hc3
        clear d0 d1 d2 d3 b0 b1 b2 l0 l1
        have x33 := x33.alloc (.cells #[.int .i64 v, .int .i64 L1, .int .i64 L2] 28)
        have x35 := BtAt.newAt g3 g3.heap.size rfl 28 v L1 L2
        have kUg3 := kTg3.alloc kTg3.size (.cells #[.int .i64 v, .int .i64 L1, .int .i64 L2] 28)
        obtain ⟨d0, d1, d2, d3⟩ := D0.below kUg3 (Nat.le_refl _)
        obtain ⟨b0, b1, b2, _, _, _⟩ := B0.below kUg3 (Nat.le_refl _)
        have l0 := cell_ltB d0
        have l1 := cell_ltB b0
        have z35 := x35
        obtain ⟨f0, f1, f2, _, _, _⟩ := z35
        have l2 := cell_ltB f0
        go_wp2_with fail
        refine (H8.out _ (HEk.out _ kUg3)).mono ?_; rintro e g4 ⟨rfl, hc4⟩
        have kTg4 := kUg3.trans (hc4.mono kUg3.size)
        have x33 := x33.below hc4 (Nat.le_refl _)
        have x35 := x35.below hc4 (Nat.le_refl _)
        clear hc4
        clear d0 d1 d2 d3 b0 b1 b2 l0 l1
        clear f0 f1 f2 l2
        obtain ⟨d0, d1, d2, d3⟩ := D0.below kTg4 (Nat.le_refl _)
        obtain ⟨b0, b1, b2, _, _, _⟩ := B0.below kTg4 (Nat.le_refl _)
        have l0 := cell_ltB d0
        have l1 := cell_ltB b0
        go_wp2_with fail
        refine (Hat3.out _ kTg4).mono ?_; rintro e g5 ⟨rfl, hc5⟩
        have kTg5 := kTg4.trans (hc5.mono kTg4.size)
        have x33 := x33.below hc5 (Nat.le_refl _)
        have x35 := x35.below hc5 (Nat.le_refl _)
        clear hc5
        clear d0 d1 d2 d3 b0 b1 b2 l0 l1
        have x33 := x33.alloc (.cells #[.int .i64 (1 + r3), .int .i64 0, .int .i64 0] 28)
        have x35 := x35.alloc (.cells #[.int .i64 (1 + r3), .int .i64 0, .int .i64 0] 28)
        have x39 := BtAt.newAt g5 g5.heap.size rfl 28 (1 + r3) 0 0
        have kUg5 := kTg5.alloc kTg5.size (.cells #[.int .i64 (1 + r3), .int .i64 0, .int .i64 0] 28)
        obtain ⟨d0, d1, d2, d3⟩ := D0.below kUg5 (Nat.le_refl _)
        obtain ⟨b0, b1, b2, _, _, _⟩ := B0.below kUg5 (Nat.le_refl _)
        have l0 := cell_ltB d0
        have l1 := cell_ltB b0
        have z39 := x39
        obtain ⟨f0, f1, f2, _, _, _⟩ := z39
        have l2 := cell_ltB f0
        go_wp2_with fail
        refine (Hmi.out _ (HEk.out _ kUg5)).mono ?_; rintro e g6 ⟨rfl, hc6⟩
        have kTg6 := kUg5.trans (hc6.mono kUg5.size)
        have x33 := x33.below hc6 (Nat.le_refl _)
        have x35 := x35.below hc6 (Nat.le_refl _)
        have x39 := x39.below hc6 (Nat.le_refl _)
        clear hc6
        clear d0 d1 d2 d3 b0 b1 b2 l0 l1
        clear f0 f1 f2 l2
        have x33 := x33.alloc (.cells #[.int .i64 (v + (1 + r3)), .int .i64 u, .int .i64 M2] 28)
        have x35 := x35.alloc (.cells #[.int .i64 (v + (1 + r3)), .int .i64 u, .int .i64 M2] 28)
        have x39 := x39.alloc (.cells #[.int .i64 (v + (1 + r3)), .int .i64 u, .int .i64 M2] 28)
        have x40 := BtAt.newAt g6 g6.heap.size rfl 28 (v + (1 + r3)) u M2
        have kUg6 := kTg6.alloc kTg6.size (.cells #[.int .i64 (v + (1 + r3)), .int .i64 u, .int .i64 M2] 28)
        obtain ⟨d0, d1, d2, d3⟩ := D0.below kUg6 (Nat.le_refl _)
        obtain ⟨b0, b1, b2, _, _, _⟩ := B0.below kUg6 (Nat.le_refl _)
        have l0 := cell_ltB d0
        have l1 := cell_ltB b0
        have z39 := x39
        obtain ⟨f0, f1, f2, _, _, _⟩ := z39
        have l2 := cell_ltB f0
        go_wp2_with fail
        refine (Hms.out _).mono ?_; rintro e g7 ⟨rfl, hc7⟩
        have kTg7 := kUg6.trans (hc7.mono kUg6.size)
        have x33 := x33.below hc7 (Nat.le_refl _)
        have x35 := x35.below hc7 (Nat.le_refl _)
        have x39 := x39.below hc7 (Nat.le_refl _)
        have x40 := x40.below hc7 (Nat.le_refl _)
        clear hc7
        clear d0 d1 d2 d3 b0 b1 b2 l0 l1
        clear f0 f1 f2 l2
        have x33 := x33.alloc (.cells #[.int .i64 (v + (1 + r3)), .int .i64 u, .int .i64 M2] 28)
        have x35 := x35.alloc (.cells #[.int .i64 (v + (1 + r3)), .int .i64 u, .int .i64 M2] 28)
        have x39 := x39.alloc (.cells #[.int .i64 (v + (1 + r3)), .int .i64 u, .int .i64 M2] 28)
        have x40 := x40.alloc (.cells #[.int .i64 (v + (1 + r3)), .int .i64 u, .int .i64 M2] 28)
        have x42 := BtAt.newAt g7 g7.heap.size rfl 28 (v + (1 + r3)) u M2
        have kUg7 := kTg7.alloc kTg7.size (.cells #[.int .i64 (v + (1 + r3)), .int .i64 u, .int .i64 M2] 28)
        obtain ⟨d0, d1, d2, d3⟩ := D0.below kUg7 (Nat.le_refl _)
        obtain ⟨b0, b1, b2, _, _, _⟩ := B0.below kUg7 (Nat.le_refl _)
        have l0 := cell_ltB d0
        have l1 := cell_ltB b0
        obtain ⟨i0, i1, i2, _, _, _⟩ := x33
        obtain ⟨i3, i4, i5, _, _, _⟩ := x35
        obtain ⟨i6, i7, i8, _, _, _⟩ := x39
        obtain ⟨j0, j1', j2', _, _, _⟩ := x40
        obtain ⟨j3, j4, j5, _, _, _⟩ := x42
        have w8 : decide (S ≤ S8) = true := decide_eq_true h8
        have wM : decide (M2 ≤ a) = true := decide_eq_true hm1
        have ni0 := cell_ltB i0
        have ni3 := cell_ltB i3
        have ni6 := cell_ltB i6
        have nj0 := cell_ltB j0
        have nj3 := cell_ltB j3
        go_wp2_with fail
        go_ret
        exact ⟨rfl, W0k.trans (kUg7.mono W0k.size)⟩
  · have hk0 := hKb.1
    have hk1 := hKb.2
    have hti := fun V hT hE => TimeOf_any z R2 V hT hE
    have hti' := fun V hT hE => TimeOf_any z (R2 - 1) V hT hE
    have hP := tmul_bd hS.1 hS.2 hk0 hk1
    have hsw := Hsw.out
    have hT1 : 1000000 ≤ tm R2 * S := by rcases hsw.2 with e | e <;> omega
    unfold timeR timeC at hti hti'
    rw [inB_true.2 ⟨hk0, (by omega : R2 ≤ 36)⟩] at hti
    simp only [if_true] at hti
    generalize hTm : tm R2 = Tm at *
    generalize hPd : Tm * S = Pd at *
    have wP : decide (Pd < 1000000) = false := decide_eq_false (by omega)
    have Hti := Lib.hid hti; clear hti
    by_cases hpos : 0 < R2
    · rw [inB_true.2 ⟨(by omega : 0 ≤ R2 - 1), (by omega : R2 - 1 ≤ 36)⟩] at hti'
      simp only [if_true] at hti'
      have hP' := tmul_bd (k := R2 - 1) hS.1 hS.2 (by omega) (by omega)
      have hT2 : tm (R2 - 1) * S < 1000000 := by rcases hsw.1 with e | e <;> omega
      clear hsw
      generalize hTm' : tm (R2 - 1) = Tn at *
      generalize hPd' : Tn * S = Pe at *
      have wP' : decide (1000000 ≤ Pe) = false := decide_eq_false (by omega)
      have Hti' := Lib.hid hti'; clear hti'
      go_wp2_with fail
      refine (Hti.out _ (HTk.out _ kW6) (HEk.out _ kW6)).mono ?_; rintro e v7 ⟨rfl, hb7⟩
      have kW7 := kW6.trans (hb7.mono kW6.size)
      clear hb7
      go_wp2_with fail
      refine (Hti'.out _ (HTk.out _ kW7) (HEk.out _ kW7)).mono ?_; rintro e v8 ⟨rfl, hb8⟩
      have kW8 := kW7.trans (hb8.mono kW7.size)
      clear hb8
      have kX0 := kW8
      have hat := fun (j : Nat) (m : Int) (hj : j ≤ 10) (hm : 1 ≤ m) (hm' : m ≤ 100000) V (hV : Below W.heap.size W V) => (atV_any A' n' cap' bs' j m hj hm hm' (by omega) Hbs'.out V (hr'.below (W0k.trans (hV.mono W0k.size)) (Nat.le_refl _))).mono (R' := fun e w' => e = .returned (.int .i64 (atV bs' n' j m)) ∧ Below V.heap.size V w') fun _ _ ⟨e, hw⟩ => ⟨e, hw ▸ Below.refl _ _⟩
      have Hat := Lib.hid hat; clear hat
      have h := HB.out
      have hr0 := atV_bd (bs := bs') (n := n') (k := 0) (m := 200) (by omega)
      have hr1 := atV_bd (bs := bs') (n := n') (k := 1) (m := 30) (by omega)
      have hr2 := atV_bd (bs := bs') (n := n') (k := 2) (m := v + 1) (by have := h.v0; omega)
      have hr3 := atV_bd (bs := bs') (n := n') (k := 3) (m := 100) (by omega)
      have hat0 := fun V hV => Hat.out 0 200 (by omega) (by omega) (by omega) V hV
      have hat1 := fun V hV => Hat.out 1 30 (by omega) (by omega) (by omega) V hV
      have hat2 := fun V hV => Hat.out 2 (v + 1) (by omega) (by have := h.v0; omega) (by omega) V hV
      have hat3 := fun V hV => Hat.out 3 100 (by omega) (by omega) (by omega) V hV
      generalize atV bs' n' 0 200 = r0 at *
      generalize atV bs' n' 1 30 = r1 at *
      generalize atV bs' n' 2 (v + 1) = r2 at *
      generalize atV bs' n' 3 100 = r3 at *
      have Hat0 := Lib.hid hat0; clear hat0
      have Hat1 := Lib.hid hat1; clear hat1
      have Hat2 := Lib.hid hat2; clear hat2
      have Hat3 := Lib.hid hat3; clear hat3
      clear Hat
      have hdi := fun V hT hE => DevelopSheet_any (p := p) (k := k) (b := c) (t := t) (v := v) (u := u) (a := a) z (1 + r0) (by omega) (by omega) (by omega) (by omega) V hT hE
      have hds := fun V => specDevelopSheet_any (p := p) (k := k) (b := c) (t := t) (v := v) (u := u) (a := a) (1 + r0) (by omega) (by omega) (by omega) (by omega) V
      have hri := fun V hE => RestBath_any (p := p) (k := k) (b := c) (t := t) (v := v) (u := u) (a := a) z r1 (by omega) (by omega) (by omega) (by omega) V hE
      have hrs := fun V => specRestBath_any (p := p) (k := k) (b := c) (t := t) (v := v) (u := u) (a := a) r1 (by omega) (by omega) (by omega) (by omega) V
      have hfi := fun V hE => Replenish_any (p := p) (k := k) (b := c) (t := t) (v := v) (u := u) (a := a) z r2 (by omega) (by omega) (by omega) (by omega) V hE
      have hfs := fun V => specReplenish_any (p := p) (k := k) (b := c) (t := t) (v := v) (u := u) (a := a) r2 (by omega) (by omega) (by omega) (by omega) V
      have hmi := fun V hE => MixBaths_any (p := p) (k := k) (b := c) (t := t) (v := v) (u := u) (a := a) (v1 := 1 + r3) (u1 := 0) (a1 := 0) z (by omega) (by omega) (by omega) (by omega) V hE
      have hms := fun V => specMixBaths_any (p := p) (k := k) (b := c) (t := t) (v := v) (u := u) (a := a) (v1 := 1 + r3) (u1 := 0) (a1 := 0) (by omega) (by omega) (by omega) (by omega) V
      unfold BathCode at hdi hri hfi hmi
      have hf0 := fill_0 h hr2.1 (by omega : r2 ≤ v)
      have hm0 := mix_0 h hv1 (by omega : 1 ≤ 1 + r3) (by omega)
      rw [hf0] at hfi hfs
      rw [hm0.1] at hmi hms
      simp only [ifC_0, Int.add_zero] at hfi hfs hmi hms
      have hst8 := fun V hE => okStr z (h.fill hr2.1 (by omega)) V hE
      have h8 := fill_mono h (m := 0) (m' := r2) (Int.le_refl _) hr2.1 (by omega)
      rw [left_none h.v0, left_none h.v0, HSd.out] at h8
      have hm1 := hm0.2
      clear hm0 hf0
      generalize strn p k v (left u v r2) (left a v r2) = S8 at *
      generalize left u v r2 = L1 at *
      generalize left a v r2 = L2 at *
      generalize mixA v a (1 + r3) 0 = M2 at *
      have h5 := fun e => sheet_of (s := 1 + r0) h e
      have h6 := fun e => rest_of (s := r1) h e
      have hs5 := fun (e : sheetC p k c t v u a (1 + r0) = 0) V hE => okStr z (h5 e) V hE
      have hs6 := fun (e : restC p k c t v u a r1 = 0) V hE => okStr z (h6 e) V hE
      have m5 : sheetC p k c t v u a (1 + r0) = 0 → strn p k v (u + (1 + r0)) a ≤ S := fun e => by rw [← HSd.out]; exact strn_mono (h5 e) (by omega) h.u0 (Int.le_refl _) h.a0
      have m6 : restC p k c t v u a r1 = 0 → strn p k v u (a + r1) ≤ S := fun e => by rw [← HSd.out]; exact strn_mono (h6 e) (Int.le_refl _) h.u0 (by omega) h.a0
      have c5 := HC5.out
      have c5 := fun e => c5 e (1 + r0)
      have u0 := h.u0
      have u1 := h.u1
      have a0 := h.a0
      have a1 := h.a1
      have vv := h.v0
      generalize sheetC p k c t v u a (1 + r0) = C5 at *
      generalize restC p k c t v u a r1 = C6 at *
      generalize strn p k v (u + (1 + r0)) a = S5 at *
      generalize strn p k v u (a + r1) = S6 at *
      generalize e50 : ifC C5 v = s0 at *
      generalize e51 : ifC C5 (u + (1 + r0)) = s1 at *
      generalize e52 : ifC C5 a = s2 at *
      generalize e60 : ifC C6 v = o0 at *
      generalize e61 : ifC C6 u = o1 at *
      generalize e62 : ifC C6 (a + r1) = o2 at *
      have Hdi := Lib.hid hdi; clear hdi
      have Hds := Lib.hid hds; clear hds
      have Hri := Lib.hid hri; clear hri
      have Hrs := Lib.hid hrs; clear hrs
      have Hfi := Lib.hid hfi; clear hfi
      have Hfs := Lib.hid hfs; clear hfs
      have Hmi := Lib.hid hmi; clear hmi
      have Hms := Lib.hid hms; clear hms
      have H8 := Lib.hid hst8; clear hst8
      have H5 := Lib.hid hs5; clear hs5 h5
      have H6 := Lib.hid hs6; clear hs6 h6
      have M5 := Lib.hid m5; clear m5
      have M6 := Lib.hid m6; clear m6
      have K5 := Lib.hid c5; clear c5
      have E5 := Lib.hid (And.intro e50 (And.intro e51 e52)); clear e50 e51 e52
      have E6 := Lib.hid (And.intro e60 (And.intro e61 e62)); clear e60 e61 e62
      clear h
      go_wp2_with fail
      refine (Hat0.out _ kX0).mono ?_; rintro e y1 ⟨rfl, hb1'⟩
      have kY1 := kX0.trans (hb1'.mono kX0.size)
      clear hb1' d0 d1 d2 d3 b0 b1 b2
      obtain ⟨d0, d1, d2, d3⟩ := D0.below kY1 (Nat.le_refl _)
      obtain ⟨b0, b1, b2, _, _, _⟩ := B0.below kY1 (Nat.le_refl _)
      have l0 := cell_ltB d0
      have l1 := cell_ltB b0
      go_wp2_with fail
      refine (Hdi.out _ (HTk.out _ kY1) (HEk.out _ kY1)).mono ?_; rintro e y2 ⟨rfl, hb2'⟩
      have kY2 := kY1.trans (hb2'.mono kY1.size)
      clear hb2' d0 d1 d2 d3 b0 b1 b2 l0 l1
      have x20 := BtAt.newAt y2 y2.heap.size rfl 28 s0 s1 s2
      have kA2 := kY2.alloc kY2.size (.cells #[.int .i64 s0, .int .i64 s1, .int .i64 s2] 28)
      obtain ⟨d0, d1, d2, d3⟩ := D0.below kY2 (Nat.le_refl _)
      obtain ⟨b0, b1, b2, _, _, _⟩ := B0.below kY2 (Nat.le_refl _)
      have l0 := cell_ltB d0
      have l1 := cell_ltB b0
      go_wp2_with fail
      refine (Hds.out _).mono ?_; rintro e y3 ⟨rfl, hb3'⟩
      have kY3 := kA2.trans (hb3'.mono kA2.size)
      have x20 := (x20.below hb3' (Nat.le_refl _)).alloc (.cells #[.int .i64 s0, .int .i64 s1, .int .i64 s2] 28)
      have x22 := BtAt.newAt y3 y3.heap.size rfl 28 s0 s1 s2
      have kA3 := kY3.alloc kY3.size (.cells #[.int .i64 s0, .int .i64 s1, .int .i64 s2] 28)
      clear hb3' d0 d1 d2 d3 b0 b1 b2 l0 l1 kY2 kA2
      go_wp2_with fail
      generalize hA3 : y3.alloc (.cells #[.int .i64 s0, .int .i64 s1, .int .i64 s2] 28) = A3 at *
      clear hA3
      obtain ⟨d0, d1, d2, d3⟩ := D0.below kA3 (Nat.le_refl _)
      obtain ⟨b0, b1, b2, _, _, _⟩ := B0.below kA3 (Nat.le_refl _)
      have l0 := cell_ltB d0
      have l1 := cell_ltB b0
      refine wp_region_phases 8 (clB A3 o0 o1 o2) .p0 (by kernel_rfl) (by kernel_rfl) ⟨⟨_, below_drew1 _⟩, rfl⟩ ?_
      apply Exists.intro
      refine ⟨fun ph => ?_, ?_⟩
      · simp only [List.take_succ_cons, List.take_zero]
        have n0 := phB_nonempty A3 o0 o1 o2 ph
        have f0 := fun (x : WIn (phB A3 o0 o1 o2 ph)) => inCellP d0 x
        have f1 := fun (x : WIn (phB A3 o0 o1 o2 ph)) => inCellP d1 x
        have f2 := fun (x : WIn (phB A3 o0 o1 o2 ph)) => inCellP d2 x
        have f3 := fun (x : WIn (phB A3 o0 o1 o2 ph)) => inCellP d3 x
        have f4 := fun (x : WIn (phB A3 o0 o1 o2 ph)) => inCellP b0 x
        have f5 := fun (x : WIn (phB A3 o0 o1 o2 ph)) => inCellP b1 x
        have f6 := fun (x : WIn (phB A3 o0 o1 o2 ph)) => inCellP b2 x
        have Ha := Lib.hid (fun (x : WIn (phB A3 o0 o1 o2 ph)) => Hat1.out x.w (kA3.trans (x.ok.bel.mono kA3.size)))
        have Hc := Lib.hid (fun (x : WIn (phB A3 o0 o1 o2 ph)) => Hri.out x.w (HEk.out _ (kA3.trans (x.ok.bel.mono kA3.size))))
        repeat (go_big_quiet_step (first | (go_at_call 13; exact inCallP _ (Ha.out _)) | (go_at_call 16; exact inCallP _ (Hc.out _))))
        exact wpQuiet_nil rfl
      simp only [List.drop_succ_cons, List.drop_zero]
      refine tail_bath (T := 28) (u := .int .i64 C6) rfl (fun w' => ?rA) (fun q => rfl) (fun q w' hw' => ?rS) (fun q => rfl) (fun q w' => ?rZ) (fun j1 => ?_)
      case rA => first | rfl | kernel_rfl | (go_simp; done) | simp [go_sem]
      case rS =>
        obtain ⟨g0, g1, g2, h0, h1, h2⟩ := hw'
        first | (go_simp; done) | (simp [go_sem, g0, g1, g2, h0, h1, h2]; done)
      case rZ => first | rfl | (go_simp; done) | simp [go_sem]
      rintro _ ⟨y, rfl⟩
      have Y := y.ok
      generalize y.w = y4 at *
      obtain ⟨ky4, x24⟩ := Y
      have kY4 := kA3.trans (ky4.mono kA3.size)
      have x20 := x20.below ky4 (Nat.le_refl _)
      have x22 := x22.below ky4 (Nat.le_refl _)
      clear d0 d1 d2 d3 b0 b1 b2 l0 l1
      simp [Act.put]
      obtain ⟨d0, d1, d2, d3⟩ := D0.below kY4 (Nat.le_refl _)
      obtain ⟨b0, b1, b2, _, _, _⟩ := B0.below kY4 (Nat.le_refl _)
      have l0 := cell_ltB d0
      have l1 := cell_ltB b0
      go_wp2_with fail
      refine wp_region_phases 8 (clB y4 o0 o1 o2) .p0 (by kernel_rfl) (by kernel_rfl) ⟨⟨_, below_drew1 _⟩, rfl⟩ ?_
      apply Exists.intro
      refine ⟨fun ph => ?_, ?_⟩
      · simp only [List.take_succ_cons, List.take_zero]
        have n0 := phB_nonempty y4 o0 o1 o2 ph
        have f0 := fun (x : WIn (phB y4 o0 o1 o2 ph)) => inCellP d0 x
        have f1 := fun (x : WIn (phB y4 o0 o1 o2 ph)) => inCellP d1 x
        have f2 := fun (x : WIn (phB y4 o0 o1 o2 ph)) => inCellP d2 x
        have f3 := fun (x : WIn (phB y4 o0 o1 o2 ph)) => inCellP d3 x
        have f4 := fun (x : WIn (phB y4 o0 o1 o2 ph)) => inCellP b0 x
        have f5 := fun (x : WIn (phB y4 o0 o1 o2 ph)) => inCellP b1 x
        have f6 := fun (x : WIn (phB y4 o0 o1 o2 ph)) => inCellP b2 x
        have Ha := Lib.hid (fun (x : WIn (phB y4 o0 o1 o2 ph)) => Hat1.out x.w (kY4.trans (x.ok.bel.mono kY4.size)))
        have Hc := Lib.hid (fun (x : WIn (phB y4 o0 o1 o2 ph)) => Hrs.out x.w)
        repeat (go_big_quiet_step (first | (go_at_call 13; exact inCallP _ (Ha.out _)) | (go_at_call 17; exact inCallP _ (Hc.out _))))
        exact wpQuiet_nil rfl
      simp only [List.drop_succ_cons, List.drop_zero]
      refine tail_bath (T := 28) (u := .int .i64 C6) rfl (fun w' => ?rA) (fun q => rfl) (fun q w' hw' => ?rS) (fun q => rfl) (fun q w' => ?rZ) (fun j2 => ?_)
      case rA => first | rfl | kernel_rfl | (go_simp; done) | simp [go_sem]
      case rS =>
        obtain ⟨g0, g1, g2, h0, h1, h2⟩ := hw'
        first | (go_simp; done) | (simp [go_sem, g0, g1, g2, h0, h1, h2]; done)
      case rZ => first | rfl | (go_simp; done) | simp [go_sem]
      rintro _ ⟨y, rfl⟩
      have Y := y.ok
      generalize y.w = y5 at *
      obtain ⟨ky5, x26⟩ := Y
      have kY5 := kY4.trans (ky5.mono kY4.size)
      have x20 := x20.below ky5 (Nat.le_refl _)
      have x22 := x22.below ky5 (Nat.le_refl _)
      have x24 := x24.below ky5 (Nat.le_refl _)
      clear d0 d1 d2 d3 b0 b1 b2 l0 l1
      simp [Act.put]
      obtain ⟨d0, d1, d2, d3⟩ := D0.below kY5 (Nat.le_refl _)
      obtain ⟨b0, b1, b2, _, _, _⟩ := B0.below kY5 (Nat.le_refl _)
      have l0 := cell_ltB d0
      have l1 := cell_ltB b0
      have z20 := x20
      have z22 := x22
      have z24 := x24
      have z26 := x26
      obtain ⟨p0, p1, p2, _, _, _⟩ := z20
      obtain ⟨q0, q1', q2', _, _, _⟩ := z22
      obtain ⟨t0, t1, t2, _, _, _⟩ := z24
      obtain ⟨o0', o1', o2', _, _, _⟩ := z26
      by_cases h5y : C5 = 0
      · subst h5y
        have E5' := E5.out
        simp only [ifC_0] at E5'
        obtain ⟨rfl, rfl, rfl⟩ := E5'
        have w5 := M5.out (by first | rfl | trivial)
        have w5 : decide (S < S5) = false := decide_eq_false (by omega)
        go_wp2_with fail
        refine (H5.out (by first | rfl | trivial) _ (HEk.out _ kY5)).mono ?_; rintro e y7 ⟨rfl, hd7⟩
        have kY7 := kY5.trans (hd7.mono kY5.size)
        have x22 := x22.below hd7 (Nat.le_refl _)
        have x26 := x26.below hd7 (Nat.le_refl _)
        clear hd7 p0 p1 p2 q0 q1' q2' t0 t1 t2 o0' o1' o2' d0 d1 d2 d3 b0 b1 b2 l0 l1
        obtain ⟨d0, d1, d2, d3⟩ := D0.below kY7 (Nat.le_refl _)
        obtain ⟨b0, b1, b2, _, _, _⟩ := B0.below kY7 (Nat.le_refl _)
        have l0 := cell_ltB d0
        have l1 := cell_ltB b0
        have z22 := x22
        have z26 := x26
        obtain ⟨q0, q1', q2', _, _, _⟩ := z22
        obtain ⟨o0', o1', o2', _, _, _⟩ := z26
        by_cases h6 : C6 = 0
        · subst h6
          have E6' := E6.out
          simp only [ifC_0] at E6'
          obtain ⟨rfl, rfl, rfl⟩ := E6'
          have w6 := M6.out (by first | rfl | trivial)
          have w6 : decide (S < S6) = false := decide_eq_false (by omega)
          go_wp2_with fail
          refine (H6.out (by first | rfl | trivial) _ (HEk.out _ kY7)).mono ?_; rintro e y8 ⟨rfl, hd8⟩
          have kY8 := kY7.trans (hd8.mono kY7.size)
          clear hd8
          clear d0 d1 d2 d3 b0 b1 b2 l0 l1
          obtain ⟨d0, d1, d2, d3⟩ := D0.below kY8 (Nat.le_refl _)
          obtain ⟨b0, b1, b2, _, _, _⟩ := B0.below kY8 (Nat.le_refl _)
          have l0 := cell_ltB d0
          have l1 := cell_ltB b0
          go_wp2_with fail
          refine (Hat2.out _ kY8).mono ?_; rintro e g1 ⟨rfl, hc1⟩
          have kTg1 := kY8.trans (hc1.mono kY8.size)
          clear hc1
          clear d0 d1 d2 d3 b0 b1 b2 l0 l1
          obtain ⟨d0, d1, d2, d3⟩ := D0.below kTg1 (Nat.le_refl _)
          obtain ⟨b0, b1, b2, _, _, _⟩ := B0.below kTg1 (Nat.le_refl _)
          have l0 := cell_ltB d0
          have l1 := cell_ltB b0
          go_wp2_with fail
          refine (Hfi.out _ (HEk.out _ kTg1)).mono ?_; rintro e g2 ⟨rfl, hc2⟩
          have kTg2 := kTg1.trans (hc2.mono kTg1.size)
          clear hc2
          clear d0 d1 d2 d3 b0 b1 b2 l0 l1
          have x33 := BtAt.newAt g2 g2.heap.size rfl 28 v L1 L2
          have kUg2 := kTg2.alloc kTg2.size (.cells #[.int .i64 v, .int .i64 L1, .int .i64 L2] 28)
          obtain ⟨d0, d1, d2, d3⟩ := D0.below kUg2 (Nat.le_refl _)
          obtain ⟨b0, b1, b2, _, _, _⟩ := B0.below kUg2 (Nat.le_refl _)
          have l0 := cell_ltB d0
          have l1 := cell_ltB b0
          go_wp2_with fail
          refine (Hfs.out _).mono ?_; rintro e g3 ⟨rfl, hc3⟩
          have kTg3 := kUg2.trans (hc3.mono kUg2.size)
          have x33 := x33.below hc3 (Nat.le_refl _)
          clear hc3
          clear d0 d1 d2 d3 b0 b1 b2 l0 l1
          have x33 := x33.alloc (.cells #[.int .i64 v, .int .i64 L1, .int .i64 L2] 28)
          have x35 := BtAt.newAt g3 g3.heap.size rfl 28 v L1 L2
          have kUg3 := kTg3.alloc kTg3.size (.cells #[.int .i64 v, .int .i64 L1, .int .i64 L2] 28)
          obtain ⟨d0, d1, d2, d3⟩ := D0.below kUg3 (Nat.le_refl _)
          obtain ⟨b0, b1, b2, _, _, _⟩ := B0.below kUg3 (Nat.le_refl _)
          have l0 := cell_ltB d0
          have l1 := cell_ltB b0
          have z35 := x35
          obtain ⟨f0, f1, f2, _, _, _⟩ := z35
          have l2 := cell_ltB f0
          go_wp2_with fail
          refine (H8.out _ (HEk.out _ kUg3)).mono ?_; rintro e g4 ⟨rfl, hc4⟩
          have kTg4 := kUg3.trans (hc4.mono kUg3.size)
          have x33 := x33.below hc4 (Nat.le_refl _)
          have x35 := x35.below hc4 (Nat.le_refl _)
          clear hc4
          clear d0 d1 d2 d3 b0 b1 b2 l0 l1
          clear f0 f1 f2 l2
          obtain ⟨d0, d1, d2, d3⟩ := D0.below kTg4 (Nat.le_refl _)
          obtain ⟨b0, b1, b2, _, _, _⟩ := B0.below kTg4 (Nat.le_refl _)
          have l0 := cell_ltB d0
          have l1 := cell_ltB b0
          go_wp2_with fail
          refine (Hat3.out _ kTg4).mono ?_; rintro e g5 ⟨rfl, hc5⟩
          have kTg5 := kTg4.trans (hc5.mono kTg4.size)
          have x33 := x33.below hc5 (Nat.le_refl _)
          have x35 := x35.below hc5 (Nat.le_refl _)
          clear hc5
          clear d0 d1 d2 d3 b0 b1 b2 l0 l1
          have x33 := x33.alloc (.cells #[.int .i64 (1 + r3), .int .i64 0, .int .i64 0] 28)
          have x35 := x35.alloc (.cells #[.int .i64 (1 + r3), .int .i64 0, .int .i64 0] 28)
          have x39 := BtAt.newAt g5 g5.heap.size rfl 28 (1 + r3) 0 0
          have kUg5 := kTg5.alloc kTg5.size (.cells #[.int .i64 (1 + r3), .int .i64 0, .int .i64 0] 28)
          obtain ⟨d0, d1, d2, d3⟩ := D0.below kUg5 (Nat.le_refl _)
          obtain ⟨b0, b1, b2, _, _, _⟩ := B0.below kUg5 (Nat.le_refl _)
          have l0 := cell_ltB d0
          have l1 := cell_ltB b0
          have z39 := x39
          obtain ⟨f0, f1, f2, _, _, _⟩ := z39
          have l2 := cell_ltB f0
          go_wp2_with fail
          refine (Hmi.out _ (HEk.out _ kUg5)).mono ?_; rintro e g6 ⟨rfl, hc6⟩
          have kTg6 := kUg5.trans (hc6.mono kUg5.size)
          have x33 := x33.below hc6 (Nat.le_refl _)
          have x35 := x35.below hc6 (Nat.le_refl _)
          have x39 := x39.below hc6 (Nat.le_refl _)
          clear hc6
          clear d0 d1 d2 d3 b0 b1 b2 l0 l1
          clear f0 f1 f2 l2
          have x33 := x33.alloc (.cells #[.int .i64 (v + (1 + r3)), .int .i64 u, .int .i64 M2] 28)
          have x35 := x35.alloc (.cells #[.int .i64 (v + (1 + r3)), .int .i64 u, .int .i64 M2] 28)
          have x39 := x39.alloc (.cells #[.int .i64 (v + (1 + r3)), .int .i64 u, .int .i64 M2] 28)
          have x40 := BtAt.newAt g6 g6.heap.size rfl 28 (v + (1 + r3)) u M2
          have kUg6 := kTg6.alloc kTg6.size (.cells #[.int .i64 (v + (1 + r3)), .int .i64 u, .int .i64 M2] 28)
          obtain ⟨d0, d1, d2, d3⟩ := D0.below kUg6 (Nat.le_refl _)
          obtain ⟨b0, b1, b2, _, _, _⟩ := B0.below kUg6 (Nat.le_refl _)
          have l0 := cell_ltB d0
          have l1 := cell_ltB b0
          have z39 := x39
          obtain ⟨f0, f1, f2, _, _, _⟩ := z39
          have l2 := cell_ltB f0
          go_wp2_with fail
          refine (Hms.out _).mono ?_; rintro e g7 ⟨rfl, hc7⟩
          have kTg7 := kUg6.trans (hc7.mono kUg6.size)
          have x33 := x33.below hc7 (Nat.le_refl _)
          have x35 := x35.below hc7 (Nat.le_refl _)
          have x39 := x39.below hc7 (Nat.le_refl _)
          have x40 := x40.below hc7 (Nat.le_refl _)
          clear hc7
          clear d0 d1 d2 d3 b0 b1 b2 l0 l1
          clear f0 f1 f2 l2
          have x33 := x33.alloc (.cells #[.int .i64 (v + (1 + r3)), .int .i64 u, .int .i64 M2] 28)
          have x35 := x35.alloc (.cells #[.int .i64 (v + (1 + r3)), .int .i64 u, .int .i64 M2] 28)
          have x39 := x39.alloc (.cells #[.int .i64 (v + (1 + r3)), .int .i64 u, .int .i64 M2] 28)
          have x40 := x40.alloc (.cells #[.int .i64 (v + (1 + r3)), .int .i64 u, .int .i64 M2] 28)
          have x42 := BtAt.newAt g7 g7.heap.size rfl 28 (v + (1 + r3)) u M2
          have kUg7 := kTg7.alloc kTg7.size (.cells #[.int .i64 (v + (1 + r3)), .int .i64 u, .int .i64 M2] 28)
          obtain ⟨d0, d1, d2, d3⟩ := D0.below kUg7 (Nat.le_refl _)
          obtain ⟨b0, b1, b2, _, _, _⟩ := B0.below kUg7 (Nat.le_refl _)
          have l0 := cell_ltB d0
          have l1 := cell_ltB b0
          obtain ⟨i0, i1, i2, _, _, _⟩ := x33
          obtain ⟨i3, i4, i5, _, _, _⟩ := x35
          obtain ⟨i6, i7, i8, _, _, _⟩ := x39
          obtain ⟨j0, j1', j2', _, _, _⟩ := x40
          obtain ⟨j3, j4, j5, _, _, _⟩ := x42
          have w8 : decide (S ≤ S8) = true := decide_eq_true h8
          have wM : decide (M2 ≤ a) = true := decide_eq_true hm1
          have ni0 := cell_ltB i0
          have ni3 := cell_ltB i3
          have ni6 := cell_ltB i6
          have nj0 := cell_ltB j0
          have nj3 := cell_ltB j3
          go_wp2_with fail
          go_ret
          exact ⟨rfl, W0k.trans (kUg7.mono W0k.size)⟩
        · clear d0 d1 d2 d3 b0 b1 b2 l0 l1
          obtain ⟨d0, d1, d2, d3⟩ := D0.below kY7 (Nat.le_refl _)
          obtain ⟨b0, b1, b2, _, _, _⟩ := B0.below kY7 (Nat.le_refl _)
          have l0 := cell_ltB d0
          have l1 := cell_ltB b0
          go_wp2_with fail
          refine (Hat2.out _ kY7).mono ?_; rintro e g1 ⟨rfl, hc1⟩
          have kTg1 := kY7.trans (hc1.mono kY7.size)
          clear hc1
          clear d0 d1 d2 d3 b0 b1 b2 l0 l1
          obtain ⟨d0, d1, d2, d3⟩ := D0.below kTg1 (Nat.le_refl _)
          obtain ⟨b0, b1, b2, _, _, _⟩ := B0.below kTg1 (Nat.le_refl _)
          have l0 := cell_ltB d0
          have l1 := cell_ltB b0
          go_wp2_with fail
          refine (Hfi.out _ (HEk.out _ kTg1)).mono ?_; rintro e g2 ⟨rfl, hc2⟩
          have kTg2 := kTg1.trans (hc2.mono kTg1.size)
          clear hc2
          clear d0 d1 d2 d3 b0 b1 b2 l0 l1
          have x33 := BtAt.newAt g2 g2.heap.size rfl 28 v L1 L2
          have kUg2 := kTg2.alloc kTg2.size (.cells #[.int .i64 v, .int .i64 L1, .int .i64 L2] 28)
          obtain ⟨d0, d1, d2, d3⟩ := D0.below kUg2 (Nat.le_refl _)
          obtain ⟨b0, b1, b2, _, _, _⟩ := B0.below kUg2 (Nat.le_refl _)
          have l0 := cell_ltB d0
          have l1 := cell_ltB b0
          go_wp2_with fail
          refine (Hfs.out _).mono ?_; rintro e g3 ⟨rfl, hc3⟩
          have kTg3 := kUg2.trans (hc3.mono kUg2.size)
          have x33 := x33.below hc3 (Nat.le_refl _)
          clear hc3
          clear d0 d1 d2 d3 b0 b1 b2 l0 l1
          have x33 := x33.alloc (.cells #[.int .i64 v, .int .i64 L1, .int .i64 L2] 28)
          have x35 := BtAt.newAt g3 g3.heap.size rfl 28 v L1 L2
          have kUg3 := kTg3.alloc kTg3.size (.cells #[.int .i64 v, .int .i64 L1, .int .i64 L2] 28)
          obtain ⟨d0, d1, d2, d3⟩ := D0.below kUg3 (Nat.le_refl _)
          obtain ⟨b0, b1, b2, _, _, _⟩ := B0.below kUg3 (Nat.le_refl _)
          have l0 := cell_ltB d0
          have l1 := cell_ltB b0
          have z35 := x35
          obtain ⟨f0, f1, f2, _, _, _⟩ := z35
          have l2 := cell_ltB f0
          go_wp2_with fail
          refine (H8.out _ (HEk.out _ kUg3)).mono ?_; rintro e g4 ⟨rfl, hc4⟩
          have kTg4 := kUg3.trans (hc4.mono kUg3.size)
          have x33 := x33.below hc4 (Nat.le_refl _)
          have x35 := x35.below hc4 (Nat.le_refl _)
          clear hc4
          clear d0 d1 d2 d3 b0 b1 b2 l0 l1
          clear f0 f1 f2 l2
          obtain ⟨d0, d1, d2, d3⟩ := D0.below kTg4 (Nat.le_refl _)
          obtain ⟨b0, b1, b2, _, _, _⟩ := B0.below kTg4 (Nat.le_refl _)
          have l0 := cell_ltB d0
          have l1 := cell_ltB b0
          go_wp2_with fail
          refine (Hat3.out _ kTg4).mono ?_; rintro e g5 ⟨rfl, hc5⟩
          have kTg5 := kTg4.trans (hc5.mono kTg4.size)
          have x33 := x33.below hc5 (Nat.le_refl _)
          have x35 := x35.below hc5 (Nat.le_refl _)
          clear hc5
          clear d0 d1 d2 d3 b0 b1 b2 l0 l1
          have x33 := x33.alloc (.cells #[.int .i64 (1 + r3), .int .i64 0, .int .i64 0] 28)
          have x35 := x35.alloc (.cells #[.int .i64 (1 + r3), .int .i64 0, .int .i64 0] 28)
          have x39 := BtAt.newAt g5 g5.heap.size rfl 28 (1 + r3) 0 0
          have kUg5 := kTg5.alloc kTg5.size (.cells #[.int .i64 (1 + r3), .int .i64 0, .int .i64 0] 28)
          obtain ⟨d0, d1, d2, d3⟩ := D0.below kUg5 (Nat.le_refl _)
          obtain ⟨b0, b1, b2, _, _, _⟩ := B0.below kUg5 (Nat.le_refl _)
          have l0 := cell_ltB d0
          have l1 := cell_ltB b0
          have z39 := x39
          obtain ⟨f0, f1, f2, _, _, _⟩ := z39
          have l2 := cell_ltB f0
          go_wp2_with fail
          refine (Hmi.out _ (HEk.out _ kUg5)).mono ?_; rintro e g6 ⟨rfl, hc6⟩
          have kTg6 := kUg5.trans (hc6.mono kUg5.size)
          have x33 := x33.below hc6 (Nat.le_refl _)
          have x35 := x35.below hc6 (Nat.le_refl _)
          have x39 := x39.below hc6 (Nat.le_refl _)
          clear hc6
          clear d0 d1 d2 d3 b0 b1 b2 l0 l1
          clear f0 f1 f2 l2
          have x33 := x33.alloc (.cells #[.int .i64 (v + (1 + r3)), .int .i64 u, .int .i64 M2] 28)
          have x35 := x35.alloc (.cells #[.int .i64 (v + (1 + r3)), .int .i64 u, .int .i64 M2] 28)
          have x39 := x39.alloc (.cells #[.int .i64 (v + (1 + r3)), .int .i64 u, .int .i64 M2] 28)
          have x40 := BtAt.newAt g6 g6.heap.size rfl 28 (v + (1 + r3)) u M2
          have kUg6 := kTg6.alloc kTg6.size (.cells #[.int .i64 (v + (1 + r3)), .int .i64 u, .int .i64 M2] 28)
          obtain ⟨d0, d1, d2, d3⟩ := D0.below kUg6 (Nat.le_refl _)
          obtain ⟨b0, b1, b2, _, _, _⟩ := B0.below kUg6 (Nat.le_refl _)
          have l0 := cell_ltB d0
          have l1 := cell_ltB b0
          have z39 := x39
          obtain ⟨f0, f1, f2, _, _, _⟩ := z39
          have l2 := cell_ltB f0
          go_wp2_with fail
          refine (Hms.out _).mono ?_; rintro e g7 ⟨rfl, hc7⟩
          have kTg7 := kUg6.trans (hc7.mono kUg6.size)
          have x33 := x33.below hc7 (Nat.le_refl _)
          have x35 := x35.below hc7 (Nat.le_refl _)
          have x39 := x39.below hc7 (Nat.le_refl _)
          have x40 := x40.below hc7 (Nat.le_refl _)
          clear hc7
          clear d0 d1 d2 d3 b0 b1 b2 l0 l1
          clear f0 f1 f2 l2
          have x33 := x33.alloc (.cells #[.int .i64 (v + (1 + r3)), .int .i64 u, .int .i64 M2] 28)
          have x35 := x35.alloc (.cells #[.int .i64 (v + (1 + r3)), .int .i64 u, .int .i64 M2] 28)
          have x39 := x39.alloc (.cells #[.int .i64 (v + (1 + r3)), .int .i64 u, .int .i64 M2] 28)
          have x40 := x40.alloc (.cells #[.int .i64 (v + (1 + r3)), .int .i64 u, .int .i64 M2] 28)
          have x42 := BtAt.newAt g7 g7.heap.size rfl 28 (v + (1 + r3)) u M2
          have kUg7 := kTg7.alloc kTg7.size (.cells #[.int .i64 (v + (1 + r3)), .int .i64 u, .int .i64 M2] 28)
          obtain ⟨d0, d1, d2, d3⟩ := D0.below kUg7 (Nat.le_refl _)
          obtain ⟨b0, b1, b2, _, _, _⟩ := B0.below kUg7 (Nat.le_refl _)
          have l0 := cell_ltB d0
          have l1 := cell_ltB b0
          obtain ⟨i0, i1, i2, _, _, _⟩ := x33
          obtain ⟨i3, i4, i5, _, _, _⟩ := x35
          obtain ⟨i6, i7, i8, _, _, _⟩ := x39
          obtain ⟨j0, j1', j2', _, _, _⟩ := x40
          obtain ⟨j3, j4, j5, _, _, _⟩ := x42
          have w8 : decide (S ≤ S8) = true := decide_eq_true h8
          have wM : decide (M2 ≤ a) = true := decide_eq_true hm1
          have ni0 := cell_ltB i0
          have ni3 := cell_ltB i3
          have ni6 := cell_ltB i6
          have nj0 := cell_ltB j0
          have nj3 := cell_ltB j3
          go_wp2_with fail
          go_ret
          exact ⟨rfl, W0k.trans (kUg7.mono W0k.size)⟩
      · by_cases h6 : C6 = 0
        · subst h6
          have E6' := E6.out
          simp only [ifC_0] at E6'
          obtain ⟨rfl, rfl, rfl⟩ := E6'
          have w6 := M6.out (by first | rfl | trivial)
          have w6 : decide (S < S6) = false := decide_eq_false (by omega)
          go_wp2_with fail
          refine (H6.out (by first | rfl | trivial) _ (HEk.out _ kY5)).mono ?_; rintro e y8 ⟨rfl, hd8⟩
          have kY8 := kY5.trans (hd8.mono kY5.size)
          clear hd8
          clear d0 d1 d2 d3 b0 b1 b2 l0 l1
          obtain ⟨d0, d1, d2, d3⟩ := D0.below kY8 (Nat.le_refl _)
          obtain ⟨b0, b1, b2, _, _, _⟩ := B0.below kY8 (Nat.le_refl _)
          have l0 := cell_ltB d0
          have l1 := cell_ltB b0
          go_wp2_with fail
          refine (Hat2.out _ kY8).mono ?_; rintro e g1 ⟨rfl, hc1⟩
          have kTg1 := kY8.trans (hc1.mono kY8.size)
          clear hc1
          clear d0 d1 d2 d3 b0 b1 b2 l0 l1
          obtain ⟨d0, d1, d2, d3⟩ := D0.below kTg1 (Nat.le_refl _)
          obtain ⟨b0, b1, b2, _, _, _⟩ := B0.below kTg1 (Nat.le_refl _)
          have l0 := cell_ltB d0
          have l1 := cell_ltB b0
          go_wp2_with fail
          refine (Hfi.out _ (HEk.out _ kTg1)).mono ?_; rintro e g2 ⟨rfl, hc2⟩
          have kTg2 := kTg1.trans (hc2.mono kTg1.size)
          clear hc2
          clear d0 d1 d2 d3 b0 b1 b2 l0 l1
          have x33 := BtAt.newAt g2 g2.heap.size rfl 28 v L1 L2
          have kUg2 := kTg2.alloc kTg2.size (.cells #[.int .i64 v, .int .i64 L1, .int .i64 L2] 28)
          obtain ⟨d0, d1, d2, d3⟩ := D0.below kUg2 (Nat.le_refl _)
          obtain ⟨b0, b1, b2, _, _, _⟩ := B0.below kUg2 (Nat.le_refl _)
          have l0 := cell_ltB d0
          have l1 := cell_ltB b0
          go_wp2_with fail
          refine (Hfs.out _).mono ?_; rintro e g3 ⟨rfl, hc3⟩
          have kTg3 := kUg2.trans (hc3.mono kUg2.size)
          have x33 := x33.below hc3 (Nat.le_refl _)
          clear hc3
          clear d0 d1 d2 d3 b0 b1 b2 l0 l1
          have x33 := x33.alloc (.cells #[.int .i64 v, .int .i64 L1, .int .i64 L2] 28)
          have x35 := BtAt.newAt g3 g3.heap.size rfl 28 v L1 L2
          have kUg3 := kTg3.alloc kTg3.size (.cells #[.int .i64 v, .int .i64 L1, .int .i64 L2] 28)
          obtain ⟨d0, d1, d2, d3⟩ := D0.below kUg3 (Nat.le_refl _)
          obtain ⟨b0, b1, b2, _, _, _⟩ := B0.below kUg3 (Nat.le_refl _)
          have l0 := cell_ltB d0
          have l1 := cell_ltB b0
          have z35 := x35
          obtain ⟨f0, f1, f2, _, _, _⟩ := z35
          have l2 := cell_ltB f0
          go_wp2_with fail
          refine (H8.out _ (HEk.out _ kUg3)).mono ?_; rintro e g4 ⟨rfl, hc4⟩
          have kTg4 := kUg3.trans (hc4.mono kUg3.size)
          have x33 := x33.below hc4 (Nat.le_refl _)
          have x35 := x35.below hc4 (Nat.le_refl _)
          clear hc4
          clear d0 d1 d2 d3 b0 b1 b2 l0 l1
          clear f0 f1 f2 l2
          obtain ⟨d0, d1, d2, d3⟩ := D0.below kTg4 (Nat.le_refl _)
          obtain ⟨b0, b1, b2, _, _, _⟩ := B0.below kTg4 (Nat.le_refl _)
          have l0 := cell_ltB d0
          have l1 := cell_ltB b0
          go_wp2_with fail
          refine (Hat3.out _ kTg4).mono ?_; rintro e g5 ⟨rfl, hc5⟩
          have kTg5 := kTg4.trans (hc5.mono kTg4.size)
          have x33 := x33.below hc5 (Nat.le_refl _)
          have x35 := x35.below hc5 (Nat.le_refl _)
          clear hc5
          clear d0 d1 d2 d3 b0 b1 b2 l0 l1
          have x33 := x33.alloc (.cells #[.int .i64 (1 + r3), .int .i64 0, .int .i64 0] 28)
          have x35 := x35.alloc (.cells #[.int .i64 (1 + r3), .int .i64 0, .int .i64 0] 28)
          have x39 := BtAt.newAt g5 g5.heap.size rfl 28 (1 + r3) 0 0
          have kUg5 := kTg5.alloc kTg5.size (.cells #[.int .i64 (1 + r3), .int .i64 0, .int .i64 0] 28)
          obtain ⟨d0, d1, d2, d3⟩ := D0.below kUg5 (Nat.le_refl _)
          obtain ⟨b0, b1, b2, _, _, _⟩ := B0.below kUg5 (Nat.le_refl _)
          have l0 := cell_ltB d0
          have l1 := cell_ltB b0
          have z39 := x39
          obtain ⟨f0, f1, f2, _, _, _⟩ := z39
          have l2 := cell_ltB f0
          go_wp2_with fail
          refine (Hmi.out _ (HEk.out _ kUg5)).mono ?_; rintro e g6 ⟨rfl, hc6⟩
          have kTg6 := kUg5.trans (hc6.mono kUg5.size)
          have x33 := x33.below hc6 (Nat.le_refl _)
          have x35 := x35.below hc6 (Nat.le_refl _)
          have x39 := x39.below hc6 (Nat.le_refl _)
          clear hc6
          clear d0 d1 d2 d3 b0 b1 b2 l0 l1
          clear f0 f1 f2 l2
          have x33 := x33.alloc (.cells #[.int .i64 (v + (1 + r3)), .int .i64 u, .int .i64 M2] 28)
          have x35 := x35.alloc (.cells #[.int .i64 (v + (1 + r3)), .int .i64 u, .int .i64 M2] 28)
          have x39 := x39.alloc (.cells #[.int .i64 (v + (1 + r3)), .int .i64 u, .int .i64 M2] 28)
          have x40 := BtAt.newAt g6 g6.heap.size rfl 28 (v + (1 + r3)) u M2
          have kUg6 := kTg6.alloc kTg6.size (.cells #[.int .i64 (v + (1 + r3)), .int .i64 u, .int .i64 M2] 28)
          obtain ⟨d0, d1, d2, d3⟩ := D0.below kUg6 (Nat.le_refl _)
          obtain ⟨b0, b1, b2, _, _, _⟩ := B0.below kUg6 (Nat.le_refl _)
          have l0 := cell_ltB d0
          have l1 := cell_ltB b0
          have z39 := x39
          obtain ⟨f0, f1, f2, _, _, _⟩ := z39
          have l2 := cell_ltB f0
          go_wp2_with fail
          refine (Hms.out _).mono ?_; rintro e g7 ⟨rfl, hc7⟩
          have kTg7 := kUg6.trans (hc7.mono kUg6.size)
          have x33 := x33.below hc7 (Nat.le_refl _)
          have x35 := x35.below hc7 (Nat.le_refl _)
          have x39 := x39.below hc7 (Nat.le_refl _)
          have x40 := x40.below hc7 (Nat.le_refl _)
          clear hc7
          clear d0 d1 d2 d3 b0 b1 b2 l0 l1
          clear f0 f1 f2 l2
          have x33 := x33.alloc (.cells #[.int .i64 (v + (1 + r3)), .int .i64 u, .int .i64 M2] 28)
          have x35 := x35.alloc (.cells #[.int .i64 (v + (1 + r3)), .int .i64 u, .int .i64 M2] 28)
          have x39 := x39.alloc (.cells #[.int .i64 (v + (1 + r3)), .int .i64 u, .int .i64 M2] 28)
          have x40 := x40.alloc (.cells #[.int .i64 (v + (1 + r3)), .int .i64 u, .int .i64 M2] 28)
          have x42 := BtAt.newAt g7 g7.heap.size rfl 28 (v + (1 + r3)) u M2
          have kUg7 := kTg7.alloc kTg7.size (.cells #[.int .i64 (v + (1 + r3)), .int .i64 u, .int .i64 M2] 28)
          obtain ⟨d0, d1, d2, d3⟩ := D0.below kUg7 (Nat.le_refl _)
          obtain ⟨b0, b1, b2, _, _, _⟩ := B0.below kUg7 (Nat.le_refl _)
          have l0 := cell_ltB d0
          have l1 := cell_ltB b0
          obtain ⟨i0, i1, i2, _, _, _⟩ := x33
          obtain ⟨i3, i4, i5, _, _, _⟩ := x35
          obtain ⟨i6, i7, i8, _, _, _⟩ := x39
          obtain ⟨j0, j1', j2', _, _, _⟩ := x40
          obtain ⟨j3, j4, j5, _, _, _⟩ := x42
          have w8 : decide (S ≤ S8) = true := decide_eq_true h8
          have wM : decide (M2 ≤ a) = true := decide_eq_true hm1
          have ni0 := cell_ltB i0
          have ni3 := cell_ltB i3
          have ni6 := cell_ltB i6
          have nj0 := cell_ltB j0
          have nj3 := cell_ltB j3
          go_wp2_with fail
          go_ret
          exact ⟨rfl, W0k.trans (kUg7.mono W0k.size)⟩
        · clear d0 d1 d2 d3 b0 b1 b2 l0 l1
          obtain ⟨d0, d1, d2, d3⟩ := D0.below kY5 (Nat.le_refl _)
          obtain ⟨b0, b1, b2, _, _, _⟩ := B0.below kY5 (Nat.le_refl _)
          have l0 := cell_ltB d0
          have l1 := cell_ltB b0
          go_wp2_with fail
          refine (Hat2.out _ kY5).mono ?_; rintro e g1 ⟨rfl, hc1⟩
          have kTg1 := kY5.trans (hc1.mono kY5.size)
          clear hc1
          clear d0 d1 d2 d3 b0 b1 b2 l0 l1
          obtain ⟨d0, d1, d2, d3⟩ := D0.below kTg1 (Nat.le_refl _)
          obtain ⟨b0, b1, b2, _, _, _⟩ := B0.below kTg1 (Nat.le_refl _)
          have l0 := cell_ltB d0
          have l1 := cell_ltB b0
          go_wp2_with fail
          refine (Hfi.out _ (HEk.out _ kTg1)).mono ?_; rintro e g2 ⟨rfl, hc2⟩
          have kTg2 := kTg1.trans (hc2.mono kTg1.size)
          clear hc2
          clear d0 d1 d2 d3 b0 b1 b2 l0 l1
          have x33 := BtAt.newAt g2 g2.heap.size rfl 28 v L1 L2
          have kUg2 := kTg2.alloc kTg2.size (.cells #[.int .i64 v, .int .i64 L1, .int .i64 L2] 28)
          obtain ⟨d0, d1, d2, d3⟩ := D0.below kUg2 (Nat.le_refl _)
          obtain ⟨b0, b1, b2, _, _, _⟩ := B0.below kUg2 (Nat.le_refl _)
          have l0 := cell_ltB d0
          have l1 := cell_ltB b0
          go_wp2_with fail
          refine (Hfs.out _).mono ?_; rintro e g3 ⟨rfl, hc3⟩
          have kTg3 := kUg2.trans (hc3.mono kUg2.size)
          have x33 := x33.below hc3 (Nat.le_refl _)
          clear hc3
          clear d0 d1 d2 d3 b0 b1 b2 l0 l1
          have x33 := x33.alloc (.cells #[.int .i64 v, .int .i64 L1, .int .i64 L2] 28)
          have x35 := BtAt.newAt g3 g3.heap.size rfl 28 v L1 L2
          have kUg3 := kTg3.alloc kTg3.size (.cells #[.int .i64 v, .int .i64 L1, .int .i64 L2] 28)
          obtain ⟨d0, d1, d2, d3⟩ := D0.below kUg3 (Nat.le_refl _)
          obtain ⟨b0, b1, b2, _, _, _⟩ := B0.below kUg3 (Nat.le_refl _)
          have l0 := cell_ltB d0
          have l1 := cell_ltB b0
          have z35 := x35
          obtain ⟨f0, f1, f2, _, _, _⟩ := z35
          have l2 := cell_ltB f0
          go_wp2_with fail
          refine (H8.out _ (HEk.out _ kUg3)).mono ?_; rintro e g4 ⟨rfl, hc4⟩
          have kTg4 := kUg3.trans (hc4.mono kUg3.size)
          have x33 := x33.below hc4 (Nat.le_refl _)
          have x35 := x35.below hc4 (Nat.le_refl _)
          clear hc4
          clear d0 d1 d2 d3 b0 b1 b2 l0 l1
          clear f0 f1 f2 l2
          obtain ⟨d0, d1, d2, d3⟩ := D0.below kTg4 (Nat.le_refl _)
          obtain ⟨b0, b1, b2, _, _, _⟩ := B0.below kTg4 (Nat.le_refl _)
          have l0 := cell_ltB d0
          have l1 := cell_ltB b0
          go_wp2_with fail
          refine (Hat3.out _ kTg4).mono ?_; rintro e g5 ⟨rfl, hc5⟩
          have kTg5 := kTg4.trans (hc5.mono kTg4.size)
          have x33 := x33.below hc5 (Nat.le_refl _)
          have x35 := x35.below hc5 (Nat.le_refl _)
          clear hc5
          clear d0 d1 d2 d3 b0 b1 b2 l0 l1
          have x33 := x33.alloc (.cells #[.int .i64 (1 + r3), .int .i64 0, .int .i64 0] 28)
          have x35 := x35.alloc (.cells #[.int .i64 (1 + r3), .int .i64 0, .int .i64 0] 28)
          have x39 := BtAt.newAt g5 g5.heap.size rfl 28 (1 + r3) 0 0
          have kUg5 := kTg5.alloc kTg5.size (.cells #[.int .i64 (1 + r3), .int .i64 0, .int .i64 0] 28)
          obtain ⟨d0, d1, d2, d3⟩ := D0.below kUg5 (Nat.le_refl _)
          obtain ⟨b0, b1, b2, _, _, _⟩ := B0.below kUg5 (Nat.le_refl _)
          have l0 := cell_ltB d0
          have l1 := cell_ltB b0
          have z39 := x39
          obtain ⟨f0, f1, f2, _, _, _⟩ := z39
          have l2 := cell_ltB f0
          go_wp2_with fail
          refine (Hmi.out _ (HEk.out _ kUg5)).mono ?_; rintro e g6 ⟨rfl, hc6⟩
          have kTg6 := kUg5.trans (hc6.mono kUg5.size)
          have x33 := x33.below hc6 (Nat.le_refl _)
          have x35 := x35.below hc6 (Nat.le_refl _)
          have x39 := x39.below hc6 (Nat.le_refl _)
          clear hc6
          clear d0 d1 d2 d3 b0 b1 b2 l0 l1
          clear f0 f1 f2 l2
          have x33 := x33.alloc (.cells #[.int .i64 (v + (1 + r3)), .int .i64 u, .int .i64 M2] 28)
          have x35 := x35.alloc (.cells #[.int .i64 (v + (1 + r3)), .int .i64 u, .int .i64 M2] 28)
          have x39 := x39.alloc (.cells #[.int .i64 (v + (1 + r3)), .int .i64 u, .int .i64 M2] 28)
          have x40 := BtAt.newAt g6 g6.heap.size rfl 28 (v + (1 + r3)) u M2
          have kUg6 := kTg6.alloc kTg6.size (.cells #[.int .i64 (v + (1 + r3)), .int .i64 u, .int .i64 M2] 28)
          obtain ⟨d0, d1, d2, d3⟩ := D0.below kUg6 (Nat.le_refl _)
          obtain ⟨b0, b1, b2, _, _, _⟩ := B0.below kUg6 (Nat.le_refl _)
          have l0 := cell_ltB d0
          have l1 := cell_ltB b0
          have z39 := x39
          obtain ⟨f0, f1, f2, _, _, _⟩ := z39
          have l2 := cell_ltB f0
          go_wp2_with fail
          refine (Hms.out _).mono ?_; rintro e g7 ⟨rfl, hc7⟩
          have kTg7 := kUg6.trans (hc7.mono kUg6.size)
          have x33 := x33.below hc7 (Nat.le_refl _)
          have x35 := x35.below hc7 (Nat.le_refl _)
          have x39 := x39.below hc7 (Nat.le_refl _)
          have x40 := x40.below hc7 (Nat.le_refl _)
          clear hc7
          clear d0 d1 d2 d3 b0 b1 b2 l0 l1
          clear f0 f1 f2 l2
          have x33 := x33.alloc (.cells #[.int .i64 (v + (1 + r3)), .int .i64 u, .int .i64 M2] 28)
          have x35 := x35.alloc (.cells #[.int .i64 (v + (1 + r3)), .int .i64 u, .int .i64 M2] 28)
          have x39 := x39.alloc (.cells #[.int .i64 (v + (1 + r3)), .int .i64 u, .int .i64 M2] 28)
          have x40 := x40.alloc (.cells #[.int .i64 (v + (1 + r3)), .int .i64 u, .int .i64 M2] 28)
          have x42 := BtAt.newAt g7 g7.heap.size rfl 28 (v + (1 + r3)) u M2
          have kUg7 := kTg7.alloc kTg7.size (.cells #[.int .i64 (v + (1 + r3)), .int .i64 u, .int .i64 M2] 28)
          obtain ⟨d0, d1, d2, d3⟩ := D0.below kUg7 (Nat.le_refl _)
          obtain ⟨b0, b1, b2, _, _, _⟩ := B0.below kUg7 (Nat.le_refl _)
          have l0 := cell_ltB d0
          have l1 := cell_ltB b0
          obtain ⟨i0, i1, i2, _, _, _⟩ := x33
          obtain ⟨i3, i4, i5, _, _, _⟩ := x35
          obtain ⟨i6, i7, i8, _, _, _⟩ := x39
          obtain ⟨j0, j1', j2', _, _, _⟩ := x40
          obtain ⟨j3, j4, j5, _, _, _⟩ := x42
          have w8 : decide (S ≤ S8) = true := decide_eq_true h8
          have wM : decide (M2 ≤ a) = true := decide_eq_true hm1
          have ni0 := cell_ltB i0
          have ni3 := cell_ltB i3
          have ni6 := cell_ltB i6
          have nj0 := cell_ltB j0
          have nj3 := cell_ltB j3
          go_wp2_with fail
          go_ret
          exact ⟨rfl, W0k.trans (kUg7.mono W0k.size)⟩
    · clear hti' hsw
      have hz : R2 = 0 := by omega
      subst hz
      go_wp2_with fail
      refine (Hti.out _ (HTk.out _ kW6) (HEk.out _ kW6)).mono ?_; rintro e v7 ⟨rfl, hb7⟩
      have kW7 := kW6.trans (hb7.mono kW6.size)
      clear hb7
      have kX0 := kW7
      have hat := fun (j : Nat) (m : Int) (hj : j ≤ 10) (hm : 1 ≤ m) (hm' : m ≤ 100000) V (hV : Below W.heap.size W V) => (atV_any A' n' cap' bs' j m hj hm hm' (by omega) Hbs'.out V (hr'.below (W0k.trans (hV.mono W0k.size)) (Nat.le_refl _))).mono (R' := fun e w' => e = .returned (.int .i64 (atV bs' n' j m)) ∧ Below V.heap.size V w') fun _ _ ⟨e, hw⟩ => ⟨e, hw ▸ Below.refl _ _⟩
      have Hat := Lib.hid hat; clear hat
      have h := HB.out
      have hr0 := atV_bd (bs := bs') (n := n') (k := 0) (m := 200) (by omega)
      have hr1 := atV_bd (bs := bs') (n := n') (k := 1) (m := 30) (by omega)
      have hr2 := atV_bd (bs := bs') (n := n') (k := 2) (m := v + 1) (by have := h.v0; omega)
      have hr3 := atV_bd (bs := bs') (n := n') (k := 3) (m := 100) (by omega)
      have hat0 := fun V hV => Hat.out 0 200 (by omega) (by omega) (by omega) V hV
      have hat1 := fun V hV => Hat.out 1 30 (by omega) (by omega) (by omega) V hV
      have hat2 := fun V hV => Hat.out 2 (v + 1) (by omega) (by have := h.v0; omega) (by omega) V hV
      have hat3 := fun V hV => Hat.out 3 100 (by omega) (by omega) (by omega) V hV
      generalize atV bs' n' 0 200 = r0 at *
      generalize atV bs' n' 1 30 = r1 at *
      generalize atV bs' n' 2 (v + 1) = r2 at *
      generalize atV bs' n' 3 100 = r3 at *
      have Hat0 := Lib.hid hat0; clear hat0
      have Hat1 := Lib.hid hat1; clear hat1
      have Hat2 := Lib.hid hat2; clear hat2
      have Hat3 := Lib.hid hat3; clear hat3
      clear Hat
      have hdi := fun V hT hE => DevelopSheet_any (p := p) (k := k) (b := c) (t := t) (v := v) (u := u) (a := a) z (1 + r0) (by omega) (by omega) (by omega) (by omega) V hT hE
      have hds := fun V => specDevelopSheet_any (p := p) (k := k) (b := c) (t := t) (v := v) (u := u) (a := a) (1 + r0) (by omega) (by omega) (by omega) (by omega) V
      have hri := fun V hE => RestBath_any (p := p) (k := k) (b := c) (t := t) (v := v) (u := u) (a := a) z r1 (by omega) (by omega) (by omega) (by omega) V hE
      have hrs := fun V => specRestBath_any (p := p) (k := k) (b := c) (t := t) (v := v) (u := u) (a := a) r1 (by omega) (by omega) (by omega) (by omega) V
      have hfi := fun V hE => Replenish_any (p := p) (k := k) (b := c) (t := t) (v := v) (u := u) (a := a) z r2 (by omega) (by omega) (by omega) (by omega) V hE
      have hfs := fun V => specReplenish_any (p := p) (k := k) (b := c) (t := t) (v := v) (u := u) (a := a) r2 (by omega) (by omega) (by omega) (by omega) V
      have hmi := fun V hE => MixBaths_any (p := p) (k := k) (b := c) (t := t) (v := v) (u := u) (a := a) (v1 := 1 + r3) (u1 := 0) (a1 := 0) z (by omega) (by omega) (by omega) (by omega) V hE
      have hms := fun V => specMixBaths_any (p := p) (k := k) (b := c) (t := t) (v := v) (u := u) (a := a) (v1 := 1 + r3) (u1 := 0) (a1 := 0) (by omega) (by omega) (by omega) (by omega) V
      unfold BathCode at hdi hri hfi hmi
      have hf0 := fill_0 h hr2.1 (by omega : r2 ≤ v)
      have hm0 := mix_0 h hv1 (by omega : 1 ≤ 1 + r3) (by omega)
      rw [hf0] at hfi hfs
      rw [hm0.1] at hmi hms
      simp only [ifC_0, Int.add_zero] at hfi hfs hmi hms
      have hst8 := fun V hE => okStr z (h.fill hr2.1 (by omega)) V hE
      have h8 := fill_mono h (m := 0) (m' := r2) (Int.le_refl _) hr2.1 (by omega)
      rw [left_none h.v0, left_none h.v0, HSd.out] at h8
      have hm1 := hm0.2
      clear hm0 hf0
      generalize strn p k v (left u v r2) (left a v r2) = S8 at *
      generalize left u v r2 = L1 at *
      generalize left a v r2 = L2 at *
      generalize mixA v a (1 + r3) 0 = M2 at *
      have h5 := fun e => sheet_of (s := 1 + r0) h e
      have h6 := fun e => rest_of (s := r1) h e
      have hs5 := fun (e : sheetC p k c t v u a (1 + r0) = 0) V hE => okStr z (h5 e) V hE
      have hs6 := fun (e : restC p k c t v u a r1 = 0) V hE => okStr z (h6 e) V hE
      have m5 : sheetC p k c t v u a (1 + r0) = 0 → strn p k v (u + (1 + r0)) a ≤ S := fun e => by rw [← HSd.out]; exact strn_mono (h5 e) (by omega) h.u0 (Int.le_refl _) h.a0
      have m6 : restC p k c t v u a r1 = 0 → strn p k v u (a + r1) ≤ S := fun e => by rw [← HSd.out]; exact strn_mono (h6 e) (Int.le_refl _) h.u0 (by omega) h.a0
      have c5 := HC5.out
      have c5 := fun e => c5 e (1 + r0)
      have u0 := h.u0
      have u1 := h.u1
      have a0 := h.a0
      have a1 := h.a1
      have vv := h.v0
      generalize sheetC p k c t v u a (1 + r0) = C5 at *
      generalize restC p k c t v u a r1 = C6 at *
      generalize strn p k v (u + (1 + r0)) a = S5 at *
      generalize strn p k v u (a + r1) = S6 at *
      generalize e50 : ifC C5 v = s0 at *
      generalize e51 : ifC C5 (u + (1 + r0)) = s1 at *
      generalize e52 : ifC C5 a = s2 at *
      generalize e60 : ifC C6 v = o0 at *
      generalize e61 : ifC C6 u = o1 at *
      generalize e62 : ifC C6 (a + r1) = o2 at *
      have Hdi := Lib.hid hdi; clear hdi
      have Hds := Lib.hid hds; clear hds
      have Hri := Lib.hid hri; clear hri
      have Hrs := Lib.hid hrs; clear hrs
      have Hfi := Lib.hid hfi; clear hfi
      have Hfs := Lib.hid hfs; clear hfs
      have Hmi := Lib.hid hmi; clear hmi
      have Hms := Lib.hid hms; clear hms
      have H8 := Lib.hid hst8; clear hst8
      have H5 := Lib.hid hs5; clear hs5 h5
      have H6 := Lib.hid hs6; clear hs6 h6
      have M5 := Lib.hid m5; clear m5
      have M6 := Lib.hid m6; clear m6
      have K5 := Lib.hid c5; clear c5
      have E5 := Lib.hid (And.intro e50 (And.intro e51 e52)); clear e50 e51 e52
      have E6 := Lib.hid (And.intro e60 (And.intro e61 e62)); clear e60 e61 e62
      clear h
      go_wp2_with fail
      refine (Hat0.out _ kX0).mono ?_; rintro e y1 ⟨rfl, hb1'⟩
      have kY1 := kX0.trans (hb1'.mono kX0.size)
      clear hb1' d0 d1 d2 d3 b0 b1 b2
      obtain ⟨d0, d1, d2, d3⟩ := D0.below kY1 (Nat.le_refl _)
      obtain ⟨b0, b1, b2, _, _, _⟩ := B0.below kY1 (Nat.le_refl _)
      have l0 := cell_ltB d0
      have l1 := cell_ltB b0
      go_wp2_with fail
      refine (Hdi.out _ (HTk.out _ kY1) (HEk.out _ kY1)).mono ?_; rintro e y2 ⟨rfl, hb2'⟩
      have kY2 := kY1.trans (hb2'.mono kY1.size)
      clear hb2' d0 d1 d2 d3 b0 b1 b2 l0 l1
      have x20 := BtAt.newAt y2 y2.heap.size rfl 28 s0 s1 s2
      have kA2 := kY2.alloc kY2.size (.cells #[.int .i64 s0, .int .i64 s1, .int .i64 s2] 28)
      obtain ⟨d0, d1, d2, d3⟩ := D0.below kY2 (Nat.le_refl _)
      obtain ⟨b0, b1, b2, _, _, _⟩ := B0.below kY2 (Nat.le_refl _)
      have l0 := cell_ltB d0
      have l1 := cell_ltB b0
      go_wp2_with fail
      refine (Hds.out _).mono ?_; rintro e y3 ⟨rfl, hb3'⟩
      have kY3 := kA2.trans (hb3'.mono kA2.size)
      have x20 := (x20.below hb3' (Nat.le_refl _)).alloc (.cells #[.int .i64 s0, .int .i64 s1, .int .i64 s2] 28)
      have x22 := BtAt.newAt y3 y3.heap.size rfl 28 s0 s1 s2
      have kA3 := kY3.alloc kY3.size (.cells #[.int .i64 s0, .int .i64 s1, .int .i64 s2] 28)
      clear hb3' d0 d1 d2 d3 b0 b1 b2 l0 l1 kY2 kA2
      go_wp2_with fail
      generalize hA3 : y3.alloc (.cells #[.int .i64 s0, .int .i64 s1, .int .i64 s2] 28) = A3 at *
      clear hA3
      obtain ⟨d0, d1, d2, d3⟩ := D0.below kA3 (Nat.le_refl _)
      obtain ⟨b0, b1, b2, _, _, _⟩ := B0.below kA3 (Nat.le_refl _)
      have l0 := cell_ltB d0
      have l1 := cell_ltB b0
      refine wp_region_phases 8 (clB A3 o0 o1 o2) .p0 (by kernel_rfl) (by kernel_rfl) ⟨⟨_, below_drew1 _⟩, rfl⟩ ?_
      apply Exists.intro
      refine ⟨fun ph => ?_, ?_⟩
      · simp only [List.take_succ_cons, List.take_zero]
        have n0 := phB_nonempty A3 o0 o1 o2 ph
        have f0 := fun (x : WIn (phB A3 o0 o1 o2 ph)) => inCellP d0 x
        have f1 := fun (x : WIn (phB A3 o0 o1 o2 ph)) => inCellP d1 x
        have f2 := fun (x : WIn (phB A3 o0 o1 o2 ph)) => inCellP d2 x
        have f3 := fun (x : WIn (phB A3 o0 o1 o2 ph)) => inCellP d3 x
        have f4 := fun (x : WIn (phB A3 o0 o1 o2 ph)) => inCellP b0 x
        have f5 := fun (x : WIn (phB A3 o0 o1 o2 ph)) => inCellP b1 x
        have f6 := fun (x : WIn (phB A3 o0 o1 o2 ph)) => inCellP b2 x
        have Ha := Lib.hid (fun (x : WIn (phB A3 o0 o1 o2 ph)) => Hat1.out x.w (kA3.trans (x.ok.bel.mono kA3.size)))
        have Hc := Lib.hid (fun (x : WIn (phB A3 o0 o1 o2 ph)) => Hri.out x.w (HEk.out _ (kA3.trans (x.ok.bel.mono kA3.size))))
        repeat (go_big_quiet_step (first | (go_at_call 13; exact inCallP _ (Ha.out _)) | (go_at_call 16; exact inCallP _ (Hc.out _))))
        exact wpQuiet_nil rfl
      simp only [List.drop_succ_cons, List.drop_zero]
      refine tail_bath (T := 28) (u := .int .i64 C6) rfl (fun w' => ?rA) (fun q => rfl) (fun q w' hw' => ?rS) (fun q => rfl) (fun q w' => ?rZ) (fun j1 => ?_)
      case rA => first | rfl | kernel_rfl | (go_simp; done) | simp [go_sem]
      case rS =>
        obtain ⟨g0, g1, g2, h0, h1, h2⟩ := hw'
        first | (go_simp; done) | (simp [go_sem, g0, g1, g2, h0, h1, h2]; done)
      case rZ => first | rfl | (go_simp; done) | simp [go_sem]
      rintro _ ⟨y, rfl⟩
      have Y := y.ok
      generalize y.w = y4 at *
      obtain ⟨ky4, x24⟩ := Y
      have kY4 := kA3.trans (ky4.mono kA3.size)
      have x20 := x20.below ky4 (Nat.le_refl _)
      have x22 := x22.below ky4 (Nat.le_refl _)
      clear d0 d1 d2 d3 b0 b1 b2 l0 l1
      simp [Act.put]
      obtain ⟨d0, d1, d2, d3⟩ := D0.below kY4 (Nat.le_refl _)
      obtain ⟨b0, b1, b2, _, _, _⟩ := B0.below kY4 (Nat.le_refl _)
      have l0 := cell_ltB d0
      have l1 := cell_ltB b0
      go_wp2_with fail
      refine wp_region_phases 8 (clB y4 o0 o1 o2) .p0 (by kernel_rfl) (by kernel_rfl) ⟨⟨_, below_drew1 _⟩, rfl⟩ ?_
      apply Exists.intro
      refine ⟨fun ph => ?_, ?_⟩
      · simp only [List.take_succ_cons, List.take_zero]
        have n0 := phB_nonempty y4 o0 o1 o2 ph
        have f0 := fun (x : WIn (phB y4 o0 o1 o2 ph)) => inCellP d0 x
        have f1 := fun (x : WIn (phB y4 o0 o1 o2 ph)) => inCellP d1 x
        have f2 := fun (x : WIn (phB y4 o0 o1 o2 ph)) => inCellP d2 x
        have f3 := fun (x : WIn (phB y4 o0 o1 o2 ph)) => inCellP d3 x
        have f4 := fun (x : WIn (phB y4 o0 o1 o2 ph)) => inCellP b0 x
        have f5 := fun (x : WIn (phB y4 o0 o1 o2 ph)) => inCellP b1 x
        have f6 := fun (x : WIn (phB y4 o0 o1 o2 ph)) => inCellP b2 x
        have Ha := Lib.hid (fun (x : WIn (phB y4 o0 o1 o2 ph)) => Hat1.out x.w (kY4.trans (x.ok.bel.mono kY4.size)))
        have Hc := Lib.hid (fun (x : WIn (phB y4 o0 o1 o2 ph)) => Hrs.out x.w)
        repeat (go_big_quiet_step (first | (go_at_call 13; exact inCallP _ (Ha.out _)) | (go_at_call 17; exact inCallP _ (Hc.out _))))
        exact wpQuiet_nil rfl
      simp only [List.drop_succ_cons, List.drop_zero]
      refine tail_bath (T := 28) (u := .int .i64 C6) rfl (fun w' => ?rA) (fun q => rfl) (fun q w' hw' => ?rS) (fun q => rfl) (fun q w' => ?rZ) (fun j2 => ?_)
      case rA => first | rfl | kernel_rfl | (go_simp; done) | simp [go_sem]
      case rS =>
        obtain ⟨g0, g1, g2, h0, h1, h2⟩ := hw'
        first | (go_simp; done) | (simp [go_sem, g0, g1, g2, h0, h1, h2]; done)
      case rZ => first | rfl | (go_simp; done) | simp [go_sem]
      rintro _ ⟨y, rfl⟩
      have Y := y.ok
      generalize y.w = y5 at *
      obtain ⟨ky5, x26⟩ := Y
      have kY5 := kY4.trans (ky5.mono kY4.size)
      have x20 := x20.below ky5 (Nat.le_refl _)
      have x22 := x22.below ky5 (Nat.le_refl _)
      have x24 := x24.below ky5 (Nat.le_refl _)
      clear d0 d1 d2 d3 b0 b1 b2 l0 l1
      simp [Act.put]
      obtain ⟨d0, d1, d2, d3⟩ := D0.below kY5 (Nat.le_refl _)
      obtain ⟨b0, b1, b2, _, _, _⟩ := B0.below kY5 (Nat.le_refl _)
      have l0 := cell_ltB d0
      have l1 := cell_ltB b0
      have z20 := x20
      have z22 := x22
      have z24 := x24
      have z26 := x26
      obtain ⟨p0, p1, p2, _, _, _⟩ := z20
      obtain ⟨q0, q1', q2', _, _, _⟩ := z22
      obtain ⟨t0, t1, t2, _, _, _⟩ := z24
      obtain ⟨o0', o1', o2', _, _, _⟩ := z26
      by_cases h5y : C5 = 0
      · subst h5y
        have E5' := E5.out
        simp only [ifC_0] at E5'
        obtain ⟨rfl, rfl, rfl⟩ := E5'
        have w5 := M5.out (by first | rfl | trivial)
        have w5 : decide (S < S5) = false := decide_eq_false (by omega)
        go_wp2_with fail
        refine (H5.out (by first | rfl | trivial) _ (HEk.out _ kY5)).mono ?_; rintro e y7 ⟨rfl, hd7⟩
        have kY7 := kY5.trans (hd7.mono kY5.size)
        have x22 := x22.below hd7 (Nat.le_refl _)
        have x26 := x26.below hd7 (Nat.le_refl _)
        clear hd7 p0 p1 p2 q0 q1' q2' t0 t1 t2 o0' o1' o2' d0 d1 d2 d3 b0 b1 b2 l0 l1
        obtain ⟨d0, d1, d2, d3⟩ := D0.below kY7 (Nat.le_refl _)
        obtain ⟨b0, b1, b2, _, _, _⟩ := B0.below kY7 (Nat.le_refl _)
        have l0 := cell_ltB d0
        have l1 := cell_ltB b0
        have z22 := x22
        have z26 := x26
        obtain ⟨q0, q1', q2', _, _, _⟩ := z22
        obtain ⟨o0', o1', o2', _, _, _⟩ := z26
        by_cases h6 : C6 = 0
        · subst h6
          have E6' := E6.out
          simp only [ifC_0] at E6'
          obtain ⟨rfl, rfl, rfl⟩ := E6'
          have w6 := M6.out (by first | rfl | trivial)
          have w6 : decide (S < S6) = false := decide_eq_false (by omega)
          go_wp2_with fail
          refine (H6.out (by first | rfl | trivial) _ (HEk.out _ kY7)).mono ?_; rintro e y8 ⟨rfl, hd8⟩
          have kY8 := kY7.trans (hd8.mono kY7.size)
          clear hd8
          clear d0 d1 d2 d3 b0 b1 b2 l0 l1
          obtain ⟨d0, d1, d2, d3⟩ := D0.below kY8 (Nat.le_refl _)
          obtain ⟨b0, b1, b2, _, _, _⟩ := B0.below kY8 (Nat.le_refl _)
          have l0 := cell_ltB d0
          have l1 := cell_ltB b0
          go_wp2_with fail
          refine (Hat2.out _ kY8).mono ?_; rintro e g1 ⟨rfl, hc1⟩
          have kTg1 := kY8.trans (hc1.mono kY8.size)
          clear hc1
          clear d0 d1 d2 d3 b0 b1 b2 l0 l1
          obtain ⟨d0, d1, d2, d3⟩ := D0.below kTg1 (Nat.le_refl _)
          obtain ⟨b0, b1, b2, _, _, _⟩ := B0.below kTg1 (Nat.le_refl _)
          have l0 := cell_ltB d0
          have l1 := cell_ltB b0
          go_wp2_with fail
          refine (Hfi.out _ (HEk.out _ kTg1)).mono ?_; rintro e g2 ⟨rfl, hc2⟩
          have kTg2 := kTg1.trans (hc2.mono kTg1.size)
          clear hc2
          clear d0 d1 d2 d3 b0 b1 b2 l0 l1
          have x33 := BtAt.newAt g2 g2.heap.size rfl 28 v L1 L2
          have kUg2 := kTg2.alloc kTg2.size (.cells #[.int .i64 v, .int .i64 L1, .int .i64 L2] 28)
          obtain ⟨d0, d1, d2, d3⟩ := D0.below kUg2 (Nat.le_refl _)
          obtain ⟨b0, b1, b2, _, _, _⟩ := B0.below kUg2 (Nat.le_refl _)
          have l0 := cell_ltB d0
          have l1 := cell_ltB b0
          go_wp2_with fail
          refine (Hfs.out _).mono ?_; rintro e g3 ⟨rfl, hc3⟩
          have kTg3 := kUg2.trans (hc3.mono kUg2.size)
          have x33 := x33.below hc3 (Nat.le_refl _)
          clear hc3
          clear d0 d1 d2 d3 b0 b1 b2 l0 l1
          have x33 := x33.alloc (.cells #[.int .i64 v, .int .i64 L1, .int .i64 L2] 28)
          have x35 := BtAt.newAt g3 g3.heap.size rfl 28 v L1 L2
          have kUg3 := kTg3.alloc kTg3.size (.cells #[.int .i64 v, .int .i64 L1, .int .i64 L2] 28)
          obtain ⟨d0, d1, d2, d3⟩ := D0.below kUg3 (Nat.le_refl _)
          obtain ⟨b0, b1, b2, _, _, _⟩ := B0.below kUg3 (Nat.le_refl _)
          have l0 := cell_ltB d0
          have l1 := cell_ltB b0
          have z35 := x35
          obtain ⟨f0, f1, f2, _, _, _⟩ := z35
          have l2 := cell_ltB f0
          go_wp2_with fail
          refine (H8.out _ (HEk.out _ kUg3)).mono ?_; rintro e g4 ⟨rfl, hc4⟩
          have kTg4 := kUg3.trans (hc4.mono kUg3.size)
          have x33 := x33.below hc4 (Nat.le_refl _)
          have x35 := x35.below hc4 (Nat.le_refl _)
          clear hc4
          clear d0 d1 d2 d3 b0 b1 b2 l0 l1
          clear f0 f1 f2 l2
          obtain ⟨d0, d1, d2, d3⟩ := D0.below kTg4 (Nat.le_refl _)
          obtain ⟨b0, b1, b2, _, _, _⟩ := B0.below kTg4 (Nat.le_refl _)
          have l0 := cell_ltB d0
          have l1 := cell_ltB b0
          go_wp2_with fail
          refine (Hat3.out _ kTg4).mono ?_; rintro e g5 ⟨rfl, hc5⟩
          have kTg5 := kTg4.trans (hc5.mono kTg4.size)
          have x33 := x33.below hc5 (Nat.le_refl _)
          have x35 := x35.below hc5 (Nat.le_refl _)
          clear hc5
          clear d0 d1 d2 d3 b0 b1 b2 l0 l1
          have x33 := x33.alloc (.cells #[.int .i64 (1 + r3), .int .i64 0, .int .i64 0] 28)
          have x35 := x35.alloc (.cells #[.int .i64 (1 + r3), .int .i64 0, .int .i64 0] 28)
          have x39 := BtAt.newAt g5 g5.heap.size rfl 28 (1 + r3) 0 0
          have kUg5 := kTg5.alloc kTg5.size (.cells #[.int .i64 (1 + r3), .int .i64 0, .int .i64 0] 28)
          obtain ⟨d0, d1, d2, d3⟩ := D0.below kUg5 (Nat.le_refl _)
          obtain ⟨b0, b1, b2, _, _, _⟩ := B0.below kUg5 (Nat.le_refl _)
          have l0 := cell_ltB d0
          have l1 := cell_ltB b0
          have z39 := x39
          obtain ⟨f0, f1, f2, _, _, _⟩ := z39
          have l2 := cell_ltB f0
          go_wp2_with fail
          refine (Hmi.out _ (HEk.out _ kUg5)).mono ?_; rintro e g6 ⟨rfl, hc6⟩
          have kTg6 := kUg5.trans (hc6.mono kUg5.size)
          have x33 := x33.below hc6 (Nat.le_refl _)
          have x35 := x35.below hc6 (Nat.le_refl _)
          have x39 := x39.below hc6 (Nat.le_refl _)
          clear hc6
          clear d0 d1 d2 d3 b0 b1 b2 l0 l1
          clear f0 f1 f2 l2
          have x33 := x33.alloc (.cells #[.int .i64 (v + (1 + r3)), .int .i64 u, .int .i64 M2] 28)
          have x35 := x35.alloc (.cells #[.int .i64 (v + (1 + r3)), .int .i64 u, .int .i64 M2] 28)
          have x39 := x39.alloc (.cells #[.int .i64 (v + (1 + r3)), .int .i64 u, .int .i64 M2] 28)
          have x40 := BtAt.newAt g6 g6.heap.size rfl 28 (v + (1 + r3)) u M2
          have kUg6 := kTg6.alloc kTg6.size (.cells #[.int .i64 (v + (1 + r3)), .int .i64 u, .int .i64 M2] 28)
          obtain ⟨d0, d1, d2, d3⟩ := D0.below kUg6 (Nat.le_refl _)
          obtain ⟨b0, b1, b2, _, _, _⟩ := B0.below kUg6 (Nat.le_refl _)
          have l0 := cell_ltB d0
          have l1 := cell_ltB b0
          have z39 := x39
          obtain ⟨f0, f1, f2, _, _, _⟩ := z39
          have l2 := cell_ltB f0
          go_wp2_with fail
          refine (Hms.out _).mono ?_; rintro e g7 ⟨rfl, hc7⟩
          have kTg7 := kUg6.trans (hc7.mono kUg6.size)
          have x33 := x33.below hc7 (Nat.le_refl _)
          have x35 := x35.below hc7 (Nat.le_refl _)
          have x39 := x39.below hc7 (Nat.le_refl _)
          have x40 := x40.below hc7 (Nat.le_refl _)
          clear hc7
          clear d0 d1 d2 d3 b0 b1 b2 l0 l1
          clear f0 f1 f2 l2
          have x33 := x33.alloc (.cells #[.int .i64 (v + (1 + r3)), .int .i64 u, .int .i64 M2] 28)
          have x35 := x35.alloc (.cells #[.int .i64 (v + (1 + r3)), .int .i64 u, .int .i64 M2] 28)
          have x39 := x39.alloc (.cells #[.int .i64 (v + (1 + r3)), .int .i64 u, .int .i64 M2] 28)
          have x40 := x40.alloc (.cells #[.int .i64 (v + (1 + r3)), .int .i64 u, .int .i64 M2] 28)
          have x42 := BtAt.newAt g7 g7.heap.size rfl 28 (v + (1 + r3)) u M2
          have kUg7 := kTg7.alloc kTg7.size (.cells #[.int .i64 (v + (1 + r3)), .int .i64 u, .int .i64 M2] 28)
          obtain ⟨d0, d1, d2, d3⟩ := D0.below kUg7 (Nat.le_refl _)
          obtain ⟨b0, b1, b2, _, _, _⟩ := B0.below kUg7 (Nat.le_refl _)
          have l0 := cell_ltB d0
          have l1 := cell_ltB b0
          obtain ⟨i0, i1, i2, _, _, _⟩ := x33
          obtain ⟨i3, i4, i5, _, _, _⟩ := x35
          obtain ⟨i6, i7, i8, _, _, _⟩ := x39
          obtain ⟨j0, j1', j2', _, _, _⟩ := x40
          obtain ⟨j3, j4, j5, _, _, _⟩ := x42
          have w8 : decide (S ≤ S8) = true := decide_eq_true h8
          have wM : decide (M2 ≤ a) = true := decide_eq_true hm1
          have ni0 := cell_ltB i0
          have ni3 := cell_ltB i3
          have ni6 := cell_ltB i6
          have nj0 := cell_ltB j0
          have nj3 := cell_ltB j3
          go_wp2_with fail
          go_ret
          exact ⟨rfl, W0k.trans (kUg7.mono W0k.size)⟩
        · clear d0 d1 d2 d3 b0 b1 b2 l0 l1
          obtain ⟨d0, d1, d2, d3⟩ := D0.below kY7 (Nat.le_refl _)
          obtain ⟨b0, b1, b2, _, _, _⟩ := B0.below kY7 (Nat.le_refl _)
          have l0 := cell_ltB d0
          have l1 := cell_ltB b0
          go_wp2_with fail
          refine (Hat2.out _ kY7).mono ?_; rintro e g1 ⟨rfl, hc1⟩
          have kTg1 := kY7.trans (hc1.mono kY7.size)
          clear hc1
          clear d0 d1 d2 d3 b0 b1 b2 l0 l1
          obtain ⟨d0, d1, d2, d3⟩ := D0.below kTg1 (Nat.le_refl _)
          obtain ⟨b0, b1, b2, _, _, _⟩ := B0.below kTg1 (Nat.le_refl _)
          have l0 := cell_ltB d0
          have l1 := cell_ltB b0
          go_wp2_with fail
          refine (Hfi.out _ (HEk.out _ kTg1)).mono ?_; rintro e g2 ⟨rfl, hc2⟩
          have kTg2 := kTg1.trans (hc2.mono kTg1.size)
          clear hc2
          clear d0 d1 d2 d3 b0 b1 b2 l0 l1
          have x33 := BtAt.newAt g2 g2.heap.size rfl 28 v L1 L2
          have kUg2 := kTg2.alloc kTg2.size (.cells #[.int .i64 v, .int .i64 L1, .int .i64 L2] 28)
          obtain ⟨d0, d1, d2, d3⟩ := D0.below kUg2 (Nat.le_refl _)
          obtain ⟨b0, b1, b2, _, _, _⟩ := B0.below kUg2 (Nat.le_refl _)
          have l0 := cell_ltB d0
          have l1 := cell_ltB b0
          go_wp2_with fail
          refine (Hfs.out _).mono ?_; rintro e g3 ⟨rfl, hc3⟩
          have kTg3 := kUg2.trans (hc3.mono kUg2.size)
          have x33 := x33.below hc3 (Nat.le_refl _)
          clear hc3
          clear d0 d1 d2 d3 b0 b1 b2 l0 l1
          have x33 := x33.alloc (.cells #[.int .i64 v, .int .i64 L1, .int .i64 L2] 28)
          have x35 := BtAt.newAt g3 g3.heap.size rfl 28 v L1 L2
          have kUg3 := kTg3.alloc kTg3.size (.cells #[.int .i64 v, .int .i64 L1, .int .i64 L2] 28)
          obtain ⟨d0, d1, d2, d3⟩ := D0.below kUg3 (Nat.le_refl _)
          obtain ⟨b0, b1, b2, _, _, _⟩ := B0.below kUg3 (Nat.le_refl _)
          have l0 := cell_ltB d0
          have l1 := cell_ltB b0
          have z35 := x35
          obtain ⟨f0, f1, f2, _, _, _⟩ := z35
          have l2 := cell_ltB f0
          go_wp2_with fail
          refine (H8.out _ (HEk.out _ kUg3)).mono ?_; rintro e g4 ⟨rfl, hc4⟩
          have kTg4 := kUg3.trans (hc4.mono kUg3.size)
          have x33 := x33.below hc4 (Nat.le_refl _)
          have x35 := x35.below hc4 (Nat.le_refl _)
          clear hc4
          clear d0 d1 d2 d3 b0 b1 b2 l0 l1
          clear f0 f1 f2 l2
          obtain ⟨d0, d1, d2, d3⟩ := D0.below kTg4 (Nat.le_refl _)
          obtain ⟨b0, b1, b2, _, _, _⟩ := B0.below kTg4 (Nat.le_refl _)
          have l0 := cell_ltB d0
          have l1 := cell_ltB b0
          go_wp2_with fail
          refine (Hat3.out _ kTg4).mono ?_; rintro e g5 ⟨rfl, hc5⟩
          have kTg5 := kTg4.trans (hc5.mono kTg4.size)
          have x33 := x33.below hc5 (Nat.le_refl _)
          have x35 := x35.below hc5 (Nat.le_refl _)
          clear hc5
          clear d0 d1 d2 d3 b0 b1 b2 l0 l1
          have x33 := x33.alloc (.cells #[.int .i64 (1 + r3), .int .i64 0, .int .i64 0] 28)
          have x35 := x35.alloc (.cells #[.int .i64 (1 + r3), .int .i64 0, .int .i64 0] 28)
          have x39 := BtAt.newAt g5 g5.heap.size rfl 28 (1 + r3) 0 0
          have kUg5 := kTg5.alloc kTg5.size (.cells #[.int .i64 (1 + r3), .int .i64 0, .int .i64 0] 28)
          obtain ⟨d0, d1, d2, d3⟩ := D0.below kUg5 (Nat.le_refl _)
          obtain ⟨b0, b1, b2, _, _, _⟩ := B0.below kUg5 (Nat.le_refl _)
          have l0 := cell_ltB d0
          have l1 := cell_ltB b0
          have z39 := x39
          obtain ⟨f0, f1, f2, _, _, _⟩ := z39
          have l2 := cell_ltB f0
          go_wp2_with fail
          refine (Hmi.out _ (HEk.out _ kUg5)).mono ?_; rintro e g6 ⟨rfl, hc6⟩
          have kTg6 := kUg5.trans (hc6.mono kUg5.size)
          have x33 := x33.below hc6 (Nat.le_refl _)
          have x35 := x35.below hc6 (Nat.le_refl _)
          have x39 := x39.below hc6 (Nat.le_refl _)
          clear hc6
          clear d0 d1 d2 d3 b0 b1 b2 l0 l1
          clear f0 f1 f2 l2
          have x33 := x33.alloc (.cells #[.int .i64 (v + (1 + r3)), .int .i64 u, .int .i64 M2] 28)
          have x35 := x35.alloc (.cells #[.int .i64 (v + (1 + r3)), .int .i64 u, .int .i64 M2] 28)
          have x39 := x39.alloc (.cells #[.int .i64 (v + (1 + r3)), .int .i64 u, .int .i64 M2] 28)
          have x40 := BtAt.newAt g6 g6.heap.size rfl 28 (v + (1 + r3)) u M2
          have kUg6 := kTg6.alloc kTg6.size (.cells #[.int .i64 (v + (1 + r3)), .int .i64 u, .int .i64 M2] 28)
          obtain ⟨d0, d1, d2, d3⟩ := D0.below kUg6 (Nat.le_refl _)
          obtain ⟨b0, b1, b2, _, _, _⟩ := B0.below kUg6 (Nat.le_refl _)
          have l0 := cell_ltB d0
          have l1 := cell_ltB b0
          have z39 := x39
          obtain ⟨f0, f1, f2, _, _, _⟩ := z39
          have l2 := cell_ltB f0
          go_wp2_with fail
          refine (Hms.out _).mono ?_; rintro e g7 ⟨rfl, hc7⟩
          have kTg7 := kUg6.trans (hc7.mono kUg6.size)
          have x33 := x33.below hc7 (Nat.le_refl _)
          have x35 := x35.below hc7 (Nat.le_refl _)
          have x39 := x39.below hc7 (Nat.le_refl _)
          have x40 := x40.below hc7 (Nat.le_refl _)
          clear hc7
          clear d0 d1 d2 d3 b0 b1 b2 l0 l1
          clear f0 f1 f2 l2
          have x33 := x33.alloc (.cells #[.int .i64 (v + (1 + r3)), .int .i64 u, .int .i64 M2] 28)
          have x35 := x35.alloc (.cells #[.int .i64 (v + (1 + r3)), .int .i64 u, .int .i64 M2] 28)
          have x39 := x39.alloc (.cells #[.int .i64 (v + (1 + r3)), .int .i64 u, .int .i64 M2] 28)
          have x40 := x40.alloc (.cells #[.int .i64 (v + (1 + r3)), .int .i64 u, .int .i64 M2] 28)
          have x42 := BtAt.newAt g7 g7.heap.size rfl 28 (v + (1 + r3)) u M2
          have kUg7 := kTg7.alloc kTg7.size (.cells #[.int .i64 (v + (1 + r3)), .int .i64 u, .int .i64 M2] 28)
          obtain ⟨d0, d1, d2, d3⟩ := D0.below kUg7 (Nat.le_refl _)
          obtain ⟨b0, b1, b2, _, _, _⟩ := B0.below kUg7 (Nat.le_refl _)
          have l0 := cell_ltB d0
          have l1 := cell_ltB b0
          obtain ⟨i0, i1, i2, _, _, _⟩ := x33
          obtain ⟨i3, i4, i5, _, _, _⟩ := x35
          obtain ⟨i6, i7, i8, _, _, _⟩ := x39
          obtain ⟨j0, j1', j2', _, _, _⟩ := x40
          obtain ⟨j3, j4, j5, _, _, _⟩ := x42
          have w8 : decide (S ≤ S8) = true := decide_eq_true h8
          have wM : decide (M2 ≤ a) = true := decide_eq_true hm1
          have ni0 := cell_ltB i0
          have ni3 := cell_ltB i3
          have ni6 := cell_ltB i6
          have nj0 := cell_ltB j0
          have nj3 := cell_ltB j3
          go_wp2_with fail
          go_ret
          exact ⟨rfl, W0k.trans (kUg7.mono W0k.size)⟩
      · by_cases h6 : C6 = 0
        · subst h6
          have E6' := E6.out
          simp only [ifC_0] at E6'
          obtain ⟨rfl, rfl, rfl⟩ := E6'
          have w6 := M6.out (by first | rfl | trivial)
          have w6 : decide (S < S6) = false := decide_eq_false (by omega)
          go_wp2_with fail
          refine (H6.out (by first | rfl | trivial) _ (HEk.out _ kY5)).mono ?_; rintro e y8 ⟨rfl, hd8⟩
          have kY8 := kY5.trans (hd8.mono kY5.size)
          clear hd8
          clear d0 d1 d2 d3 b0 b1 b2 l0 l1
          obtain ⟨d0, d1, d2, d3⟩ := D0.below kY8 (Nat.le_refl _)
          obtain ⟨b0, b1, b2, _, _, _⟩ := B0.below kY8 (Nat.le_refl _)
          have l0 := cell_ltB d0
          have l1 := cell_ltB b0
          go_wp2_with fail
          refine (Hat2.out _ kY8).mono ?_; rintro e g1 ⟨rfl, hc1⟩
          have kTg1 := kY8.trans (hc1.mono kY8.size)
          clear hc1
          clear d0 d1 d2 d3 b0 b1 b2 l0 l1
          obtain ⟨d0, d1, d2, d3⟩ := D0.below kTg1 (Nat.le_refl _)
          obtain ⟨b0, b1, b2, _, _, _⟩ := B0.below kTg1 (Nat.le_refl _)
          have l0 := cell_ltB d0
          have l1 := cell_ltB b0
          go_wp2_with fail
          refine (Hfi.out _ (HEk.out _ kTg1)).mono ?_; rintro e g2 ⟨rfl, hc2⟩
          have kTg2 := kTg1.trans (hc2.mono kTg1.size)
          clear hc2
          clear d0 d1 d2 d3 b0 b1 b2 l0 l1
          have x33 := BtAt.newAt g2 g2.heap.size rfl 28 v L1 L2
          have kUg2 := kTg2.alloc kTg2.size (.cells #[.int .i64 v, .int .i64 L1, .int .i64 L2] 28)
          obtain ⟨d0, d1, d2, d3⟩ := D0.below kUg2 (Nat.le_refl _)
          obtain ⟨b0, b1, b2, _, _, _⟩ := B0.below kUg2 (Nat.le_refl _)
          have l0 := cell_ltB d0
          have l1 := cell_ltB b0
          go_wp2_with fail
          refine (Hfs.out _).mono ?_; rintro e g3 ⟨rfl, hc3⟩
          have kTg3 := kUg2.trans (hc3.mono kUg2.size)
          have x33 := x33.below hc3 (Nat.le_refl _)
          clear hc3
          clear d0 d1 d2 d3 b0 b1 b2 l0 l1
          have x33 := x33.alloc (.cells #[.int .i64 v, .int .i64 L1, .int .i64 L2] 28)
          have x35 := BtAt.newAt g3 g3.heap.size rfl 28 v L1 L2
          have kUg3 := kTg3.alloc kTg3.size (.cells #[.int .i64 v, .int .i64 L1, .int .i64 L2] 28)
          obtain ⟨d0, d1, d2, d3⟩ := D0.below kUg3 (Nat.le_refl _)
          obtain ⟨b0, b1, b2, _, _, _⟩ := B0.below kUg3 (Nat.le_refl _)
          have l0 := cell_ltB d0
          have l1 := cell_ltB b0
          have z35 := x35
          obtain ⟨f0, f1, f2, _, _, _⟩ := z35
          have l2 := cell_ltB f0
          go_wp2_with fail
          refine (H8.out _ (HEk.out _ kUg3)).mono ?_; rintro e g4 ⟨rfl, hc4⟩
          have kTg4 := kUg3.trans (hc4.mono kUg3.size)
          have x33 := x33.below hc4 (Nat.le_refl _)
          have x35 := x35.below hc4 (Nat.le_refl _)
          clear hc4
          clear d0 d1 d2 d3 b0 b1 b2 l0 l1
          clear f0 f1 f2 l2
          obtain ⟨d0, d1, d2, d3⟩ := D0.below kTg4 (Nat.le_refl _)
          obtain ⟨b0, b1, b2, _, _, _⟩ := B0.below kTg4 (Nat.le_refl _)
          have l0 := cell_ltB d0
          have l1 := cell_ltB b0
          go_wp2_with fail
          refine (Hat3.out _ kTg4).mono ?_; rintro e g5 ⟨rfl, hc5⟩
          have kTg5 := kTg4.trans (hc5.mono kTg4.size)
          have x33 := x33.below hc5 (Nat.le_refl _)
          have x35 := x35.below hc5 (Nat.le_refl _)
          clear hc5
          clear d0 d1 d2 d3 b0 b1 b2 l0 l1
          have x33 := x33.alloc (.cells #[.int .i64 (1 + r3), .int .i64 0, .int .i64 0] 28)
          have x35 := x35.alloc (.cells #[.int .i64 (1 + r3), .int .i64 0, .int .i64 0] 28)
          have x39 := BtAt.newAt g5 g5.heap.size rfl 28 (1 + r3) 0 0
          have kUg5 := kTg5.alloc kTg5.size (.cells #[.int .i64 (1 + r3), .int .i64 0, .int .i64 0] 28)
          obtain ⟨d0, d1, d2, d3⟩ := D0.below kUg5 (Nat.le_refl _)
          obtain ⟨b0, b1, b2, _, _, _⟩ := B0.below kUg5 (Nat.le_refl _)
          have l0 := cell_ltB d0
          have l1 := cell_ltB b0
          have z39 := x39
          obtain ⟨f0, f1, f2, _, _, _⟩ := z39
          have l2 := cell_ltB f0
          go_wp2_with fail
          refine (Hmi.out _ (HEk.out _ kUg5)).mono ?_; rintro e g6 ⟨rfl, hc6⟩
          have kTg6 := kUg5.trans (hc6.mono kUg5.size)
          have x33 := x33.below hc6 (Nat.le_refl _)
          have x35 := x35.below hc6 (Nat.le_refl _)
          have x39 := x39.below hc6 (Nat.le_refl _)
          clear hc6
          clear d0 d1 d2 d3 b0 b1 b2 l0 l1
          clear f0 f1 f2 l2
          have x33 := x33.alloc (.cells #[.int .i64 (v + (1 + r3)), .int .i64 u, .int .i64 M2] 28)
          have x35 := x35.alloc (.cells #[.int .i64 (v + (1 + r3)), .int .i64 u, .int .i64 M2] 28)
          have x39 := x39.alloc (.cells #[.int .i64 (v + (1 + r3)), .int .i64 u, .int .i64 M2] 28)
          have x40 := BtAt.newAt g6 g6.heap.size rfl 28 (v + (1 + r3)) u M2
          have kUg6 := kTg6.alloc kTg6.size (.cells #[.int .i64 (v + (1 + r3)), .int .i64 u, .int .i64 M2] 28)
          obtain ⟨d0, d1, d2, d3⟩ := D0.below kUg6 (Nat.le_refl _)
          obtain ⟨b0, b1, b2, _, _, _⟩ := B0.below kUg6 (Nat.le_refl _)
          have l0 := cell_ltB d0
          have l1 := cell_ltB b0
          have z39 := x39
          obtain ⟨f0, f1, f2, _, _, _⟩ := z39
          have l2 := cell_ltB f0
          go_wp2_with fail
          refine (Hms.out _).mono ?_; rintro e g7 ⟨rfl, hc7⟩
          have kTg7 := kUg6.trans (hc7.mono kUg6.size)
          have x33 := x33.below hc7 (Nat.le_refl _)
          have x35 := x35.below hc7 (Nat.le_refl _)
          have x39 := x39.below hc7 (Nat.le_refl _)
          have x40 := x40.below hc7 (Nat.le_refl _)
          clear hc7
          clear d0 d1 d2 d3 b0 b1 b2 l0 l1
          clear f0 f1 f2 l2
          have x33 := x33.alloc (.cells #[.int .i64 (v + (1 + r3)), .int .i64 u, .int .i64 M2] 28)
          have x35 := x35.alloc (.cells #[.int .i64 (v + (1 + r3)), .int .i64 u, .int .i64 M2] 28)
          have x39 := x39.alloc (.cells #[.int .i64 (v + (1 + r3)), .int .i64 u, .int .i64 M2] 28)
          have x40 := x40.alloc (.cells #[.int .i64 (v + (1 + r3)), .int .i64 u, .int .i64 M2] 28)
          have x42 := BtAt.newAt g7 g7.heap.size rfl 28 (v + (1 + r3)) u M2
          have kUg7 := kTg7.alloc kTg7.size (.cells #[.int .i64 (v + (1 + r3)), .int .i64 u, .int .i64 M2] 28)
          obtain ⟨d0, d1, d2, d3⟩ := D0.below kUg7 (Nat.le_refl _)
          obtain ⟨b0, b1, b2, _, _, _⟩ := B0.below kUg7 (Nat.le_refl _)
          have l0 := cell_ltB d0
          have l1 := cell_ltB b0
          obtain ⟨i0, i1, i2, _, _, _⟩ := x33
          obtain ⟨i3, i4, i5, _, _, _⟩ := x35
          obtain ⟨i6, i7, i8, _, _, _⟩ := x39
          obtain ⟨j0, j1', j2', _, _, _⟩ := x40
          obtain ⟨j3, j4, j5, _, _, _⟩ := x42
          have w8 : decide (S ≤ S8) = true := decide_eq_true h8
          have wM : decide (M2 ≤ a) = true := decide_eq_true hm1
          have ni0 := cell_ltB i0
          have ni3 := cell_ltB i3
          have ni6 := cell_ltB i6
          have nj0 := cell_ltB j0
          have nj3 := cell_ltB j3
          go_wp2_with fail
          go_ret
          exact ⟨rfl, W0k.trans (kUg7.mono W0k.size)⟩
        · clear d0 d1 d2 d3 b0 b1 b2 l0 l1
          obtain ⟨d0, d1, d2, d3⟩ := D0.below kY5 (Nat.le_refl _)
          obtain ⟨b0, b1, b2, _, _, _⟩ := B0.below kY5 (Nat.le_refl _)
          have l0 := cell_ltB d0
          have l1 := cell_ltB b0
          go_wp2_with fail
          refine (Hat2.out _ kY5).mono ?_; rintro e g1 ⟨rfl, hc1⟩
          have kTg1 := kY5.trans (hc1.mono kY5.size)
          clear hc1
          clear d0 d1 d2 d3 b0 b1 b2 l0 l1
          obtain ⟨d0, d1, d2, d3⟩ := D0.below kTg1 (Nat.le_refl _)
          obtain ⟨b0, b1, b2, _, _, _⟩ := B0.below kTg1 (Nat.le_refl _)
          have l0 := cell_ltB d0
          have l1 := cell_ltB b0
          go_wp2_with fail
          refine (Hfi.out _ (HEk.out _ kTg1)).mono ?_; rintro e g2 ⟨rfl, hc2⟩
          have kTg2 := kTg1.trans (hc2.mono kTg1.size)
          clear hc2
          clear d0 d1 d2 d3 b0 b1 b2 l0 l1
          have x33 := BtAt.newAt g2 g2.heap.size rfl 28 v L1 L2
          have kUg2 := kTg2.alloc kTg2.size (.cells #[.int .i64 v, .int .i64 L1, .int .i64 L2] 28)
          obtain ⟨d0, d1, d2, d3⟩ := D0.below kUg2 (Nat.le_refl _)
          obtain ⟨b0, b1, b2, _, _, _⟩ := B0.below kUg2 (Nat.le_refl _)
          have l0 := cell_ltB d0
          have l1 := cell_ltB b0
          go_wp2_with fail
          refine (Hfs.out _).mono ?_; rintro e g3 ⟨rfl, hc3⟩
          have kTg3 := kUg2.trans (hc3.mono kUg2.size)
          have x33 := x33.below hc3 (Nat.le_refl _)
          clear hc3
          clear d0 d1 d2 d3 b0 b1 b2 l0 l1
          have x33 := x33.alloc (.cells #[.int .i64 v, .int .i64 L1, .int .i64 L2] 28)
          have x35 := BtAt.newAt g3 g3.heap.size rfl 28 v L1 L2
          have kUg3 := kTg3.alloc kTg3.size (.cells #[.int .i64 v, .int .i64 L1, .int .i64 L2] 28)
          obtain ⟨d0, d1, d2, d3⟩ := D0.below kUg3 (Nat.le_refl _)
          obtain ⟨b0, b1, b2, _, _, _⟩ := B0.below kUg3 (Nat.le_refl _)
          have l0 := cell_ltB d0
          have l1 := cell_ltB b0
          have z35 := x35
          obtain ⟨f0, f1, f2, _, _, _⟩ := z35
          have l2 := cell_ltB f0
          go_wp2_with fail
          refine (H8.out _ (HEk.out _ kUg3)).mono ?_; rintro e g4 ⟨rfl, hc4⟩
          have kTg4 := kUg3.trans (hc4.mono kUg3.size)
          have x33 := x33.below hc4 (Nat.le_refl _)
          have x35 := x35.below hc4 (Nat.le_refl _)
          clear hc4
          clear d0 d1 d2 d3 b0 b1 b2 l0 l1
          clear f0 f1 f2 l2
          obtain ⟨d0, d1, d2, d3⟩ := D0.below kTg4 (Nat.le_refl _)
          obtain ⟨b0, b1, b2, _, _, _⟩ := B0.below kTg4 (Nat.le_refl _)
          have l0 := cell_ltB d0
          have l1 := cell_ltB b0
          go_wp2_with fail
          refine (Hat3.out _ kTg4).mono ?_; rintro e g5 ⟨rfl, hc5⟩
          have kTg5 := kTg4.trans (hc5.mono kTg4.size)
          have x33 := x33.below hc5 (Nat.le_refl _)
          have x35 := x35.below hc5 (Nat.le_refl _)
          clear hc5
          clear d0 d1 d2 d3 b0 b1 b2 l0 l1
          have x33 := x33.alloc (.cells #[.int .i64 (1 + r3), .int .i64 0, .int .i64 0] 28)
          have x35 := x35.alloc (.cells #[.int .i64 (1 + r3), .int .i64 0, .int .i64 0] 28)
          have x39 := BtAt.newAt g5 g5.heap.size rfl 28 (1 + r3) 0 0
          have kUg5 := kTg5.alloc kTg5.size (.cells #[.int .i64 (1 + r3), .int .i64 0, .int .i64 0] 28)
          obtain ⟨d0, d1, d2, d3⟩ := D0.below kUg5 (Nat.le_refl _)
          obtain ⟨b0, b1, b2, _, _, _⟩ := B0.below kUg5 (Nat.le_refl _)
          have l0 := cell_ltB d0
          have l1 := cell_ltB b0
          have z39 := x39
          obtain ⟨f0, f1, f2, _, _, _⟩ := z39
          have l2 := cell_ltB f0
          go_wp2_with fail
          refine (Hmi.out _ (HEk.out _ kUg5)).mono ?_; rintro e g6 ⟨rfl, hc6⟩
          have kTg6 := kUg5.trans (hc6.mono kUg5.size)
          have x33 := x33.below hc6 (Nat.le_refl _)
          have x35 := x35.below hc6 (Nat.le_refl _)
          have x39 := x39.below hc6 (Nat.le_refl _)
          clear hc6
          clear d0 d1 d2 d3 b0 b1 b2 l0 l1
          clear f0 f1 f2 l2
          have x33 := x33.alloc (.cells #[.int .i64 (v + (1 + r3)), .int .i64 u, .int .i64 M2] 28)
          have x35 := x35.alloc (.cells #[.int .i64 (v + (1 + r3)), .int .i64 u, .int .i64 M2] 28)
          have x39 := x39.alloc (.cells #[.int .i64 (v + (1 + r3)), .int .i64 u, .int .i64 M2] 28)
          have x40 := BtAt.newAt g6 g6.heap.size rfl 28 (v + (1 + r3)) u M2
          have kUg6 := kTg6.alloc kTg6.size (.cells #[.int .i64 (v + (1 + r3)), .int .i64 u, .int .i64 M2] 28)
          obtain ⟨d0, d1, d2, d3⟩ := D0.below kUg6 (Nat.le_refl _)
          obtain ⟨b0, b1, b2, _, _, _⟩ := B0.below kUg6 (Nat.le_refl _)
          have l0 := cell_ltB d0
          have l1 := cell_ltB b0
          have z39 := x39
          obtain ⟨f0, f1, f2, _, _, _⟩ := z39
          have l2 := cell_ltB f0
          go_wp2_with fail
          refine (Hms.out _).mono ?_; rintro e g7 ⟨rfl, hc7⟩
          have kTg7 := kUg6.trans (hc7.mono kUg6.size)
          have x33 := x33.below hc7 (Nat.le_refl _)
          have x35 := x35.below hc7 (Nat.le_refl _)
          have x39 := x39.below hc7 (Nat.le_refl _)
          have x40 := x40.below hc7 (Nat.le_refl _)
          clear hc7
          clear d0 d1 d2 d3 b0 b1 b2 l0 l1
          clear f0 f1 f2 l2
          have x33 := x33.alloc (.cells #[.int .i64 (v + (1 + r3)), .int .i64 u, .int .i64 M2] 28)
          have x35 := x35.alloc (.cells #[.int .i64 (v + (1 + r3)), .int .i64 u, .int .i64 M2] 28)
          have x39 := x39.alloc (.cells #[.int .i64 (v + (1 + r3)), .int .i64 u, .int .i64 M2] 28)
          have x40 := x40.alloc (.cells #[.int .i64 (v + (1 + r3)), .int .i64 u, .int .i64 M2] 28)
          have x42 := BtAt.newAt g7 g7.heap.size rfl 28 (v + (1 + r3)) u M2
          have kUg7 := kTg7.alloc kTg7.size (.cells #[.int .i64 (v + (1 + r3)), .int .i64 u, .int .i64 M2] 28)
          obtain ⟨d0, d1, d2, d3⟩ := D0.below kUg7 (Nat.le_refl _)
          obtain ⟨b0, b1, b2, _, _, _⟩ := B0.below kUg7 (Nat.le_refl _)
          have l0 := cell_ltB d0
          have l1 := cell_ltB b0
          obtain ⟨i0, i1, i2, _, _, _⟩ := x33
          obtain ⟨i3, i4, i5, _, _, _⟩ := x35
          obtain ⟨i6, i7, i8, _, _, _⟩ := x39
          obtain ⟨j0, j1', j2', _, _, _⟩ := x40
          obtain ⟨j3, j4, j5, _, _, _⟩ := x42
          have w8 : decide (S ≤ S8) = true := decide_eq_true h8
          have wM : decide (M2 ≤ a) = true := decide_eq_true hm1
          have ni0 := cell_ltB i0
          have ni3 := cell_ltB i3
          have ni6 := cell_ltB i6
          have nj0 := cell_ltB j0
          have nj3 := cell_ltB j3
          go_wp2_with fail
          go_ret
          exact ⟨rfl, W0k.trans (kUg7.mono W0k.size)⟩

end Go.Proofs.YtapbbonobhebpaaDoor

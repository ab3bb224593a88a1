/-
  A deed in a valid tray: what the program returns. Condition: its errors, and its table of times.
-/
import Derived.Test.YtkgjkjecfpmlnaaDoorDeedsI
namespace Go.Proofs.YtkgjkjecfpmlnaaDoor
open Go.RowKit

/-- A tray behind a deed, or none and an error. -/
def AfterOut (z : Ers) (C p k b t v u a : Int) (w : World) (e : Ending) (w' : World) : Prop :=
  ∃ ev, e = .returned (.tuple #[trayV (ifC C p) (ifC C k) (ifC C b) (ifC C t) (ifC C v) (ifC C u) (ifC C a), ev]) ∧ IsCode z ev C ∧ Below w.heap.size w w'

section
variable {p k b t v u a : Int}

set_option maxRecDepth 100000 in
set_option maxHeartbeats 2000000 in
theorem after_rest (z : Ers) (n : Int) (h : BOk p k b t v u a) (w : World) (hE : ErrEnv z w) :
    Calls Tryd.prog 51 #[trayV p k b t v u a, rstV n] w (AfterOut z (restA p k b t v u a n) p k b t v u (a + n) w) := by
  have hfit := fun W => rstFits_any (p := p) (k := k) (b := b) (t := t) (v := v) (u := u) (a := a) n W
  have cr := hE.c_erange
  have cs := hE.c_estate
  have t0 := fun V X W => ta_rs V X W
  have t1 := fun V X W => ta_rr V X W
  have hva := fun W => trayValid_any p k b t v u (a + n) (by have := h.b0; omega) (by have := h.b1; omega) (by have := h.t0; omega) (by have := h.t1; omega) W
  have ha0 := h.a0
  have ha1 := h.a1
  clear h hE
  unfold restA
  rcases h1 : inB n 0 100000 with _ | _
  · rw [h1] at hfit
    have Hfit := Lib.hid hfit; clear hfit h1 hva t0 t1 cs
    simp only [Bool.false_eq_true, if_false]
    go_enter Tryd.func51, Tryd.ntmps51
    go_wp2_with fail
    change Oper.upon _ _ _ _ _ ((invoke (.fn (.method "loop.example/g01301/impl.fitsIn") #[]) #[rstV n, trayV p k b t v u a]).run Tryd.prog _)
    rw [inv_rst, Oper.upon_enter]
    refine (Hfit.out _).mono ?_; rintro e w1 ⟨rfl, hb1⟩
    have T1 : TrAt w1 w.heap.size p k b t v u a := TrAt.below ((TrAt.newAt _ w.heap.size rfl _ _ _ _ _ _ _ _).alloc _) hb1 (Nat.le_refl _)
    have R1 : TrAt w1 (w.heap.size + 1) 0 0 0 0 0 0 0 := TrAt.below (TrAt.newAt _ (w.heap.size + 1) (by simp) _ _ _ _ _ _ _ _) hb1 (Nat.le_refl _)
    have k1 : Below w.heap.size w w1 := by
        refine Below.trans ?_ (hb1.mono (by simp; try omega))
        repeat (first | exact Below.refl _ _ | assumption | apply Below.drew | apply below_drewB | (refine Below.alloc ?_ (by first | omega | (simp; done) | (simp; omega)) _) | (refine Below.setCell ?_ (by first | omega | (simp; done) | (simp; omega)) _))
    have hz1a : w.heap.size < w1.heap.size := T1.lt
    have hz1b : w.heap.size + 1 < w1.heap.size := R1.lt
    clear hb1
    have cg := below_cellOf k1 cr (Nat.le_refl _)
    have lg := cell_ltB cr
    have R9 := R1
    obtain ⟨r0, r1, r2, r3, r4, r5, r6, rz⟩ := R9
    go_wp2_with fail
    go_region
    all_goals
      clear r0 r1 r2 r3 r4 r5 r6 rz
      go_wp2
      obtain ⟨W2, e2, D2, kk2⟩ := (R1).stored k1 (by omega) 0 0 0 0 0 0 0
      rw [← e2]
      clear e2
      obtain ⟨c0, c1, c2, c3, c4, c5, c6, _⟩ := D2.below (Below.refl W2.heap.size W2).drew (Nat.le_refl _)
      exact bodyPost_ret (v := .tuple #[trayV 0 0 0 0 0 0 0, errV z.erange]) (by simp [results, Tryd.results51, go_sem, c0, c1, c2, c3, c4, c5, c6]) rfl ⟨_, rfl, .erange, kk2.drew⟩
  · rw [h1] at hfit
    have Hfit := Lib.hid hfit; clear hfit cr
    have hn := inB_true.1 h1
    clear h1
    simp only [if_true]
    rcases h2 : bathOk p k b t v u (a + n) with _ | _
    · rw [h2] at hva
      have Hva := Lib.hid hva; clear hva h2
      simp only [Bool.false_eq_true, if_false]
      go_enter Tryd.func51, Tryd.ntmps51
      go_wp2_with fail
      change Oper.upon _ _ _ _ _ ((invoke (.fn (.method "loop.example/g01301/impl.fitsIn") #[]) #[rstV n, trayV p k b t v u a]).run Tryd.prog _)
      rw [inv_rst, Oper.upon_enter]
      refine (Hfit.out _).mono ?_; rintro e w1 ⟨rfl, hb1⟩
      have T1 : TrAt w1 w.heap.size p k b t v u a := TrAt.below ((TrAt.newAt _ w.heap.size rfl _ _ _ _ _ _ _ _).alloc _) hb1 (Nat.le_refl _)
      have R1 : TrAt w1 (w.heap.size + 1) 0 0 0 0 0 0 0 := TrAt.below (TrAt.newAt _ (w.heap.size + 1) (by simp) _ _ _ _ _ _ _ _) hb1 (Nat.le_refl _)
      have k1 : Below w.heap.size w w1 := by
          refine Below.trans ?_ (hb1.mono (by simp; try omega))
          repeat (first | exact Below.refl _ _ | assumption | apply Below.drew | apply below_drewB | (refine Below.alloc ?_ (by first | omega | (simp; done) | (simp; omega)) _) | (refine Below.setCell ?_ (by first | omega | (simp; done) | (simp; omega)) _))
      have hz1a : w.heap.size < w1.heap.size := T1.lt
      have hz1b : w.heap.size + 1 < w1.heap.size := R1.lt
      clear hb1
      have T9 := T1
      obtain ⟨c0, c1, c2, c3, c4, c5, c6, _⟩ := T9
      go_wp2_with fail
      refine (Hva.out _).mono ?_; rintro e w2 ⟨rfl, hb2⟩
      have N2 : TrAt w2 w1.heap.size p k b t v u (a + n) := TrAt.below ((TrAt.newAt w1 _ rfl 82 p k b t v u (a + n)).alloc _) hb2 (Nat.le_refl _)
      have R2 : TrAt w2 (w.heap.size + 1) 0 0 0 0 0 0 0 := TrAt.below ((R1.alloc _).alloc _) hb2 (Nat.le_refl _)
      have k2 : Below w.heap.size w w2 := by
          refine Below.trans ?_ (hb2.mono (by simp; try omega))
          repeat (first | exact Below.refl _ _ | assumption | apply Below.drew | apply below_drewB | (refine Below.alloc ?_ (by first | omega | (simp; done) | (simp; omega)) _) | (refine Below.setCell ?_ (by first | omega | (simp; done) | (simp; omega)) _))
      have hz2 : w1.heap.size < w2.heap.size := N2.lt
      have hz2b : w.heap.size + 1 < w2.heap.size := R2.lt
      clear c0 c1 c2 c3 c4 c5 c6 hb2 T1 R1 k1
      have cg := below_cellOf k2 cs (Nat.le_refl _)
      have lg := cell_ltB cs
      have R9 := R2
      obtain ⟨r0, r1, r2, r3, r4, r5, r6, rz⟩ := R9
      go_wp2_with fail
      go_region
      all_goals
        clear r0 r1 r2 r3 r4 r5 r6 rz
        go_wp2
        obtain ⟨W2, e2, D2, kk2⟩ := (R2).stored k2 (by omega) 0 0 0 0 0 0 0
        rw [← e2]
        clear e2
        obtain ⟨c0, c1, c2, c3, c4, c5, c6, _⟩ := D2.below (Below.refl W2.heap.size W2).drew (Nat.le_refl _)
        exact bodyPost_ret (v := .tuple #[trayV 0 0 0 0 0 0 0, errV z.estate]) (by simp [results, Tryd.results51, go_sem, c0, c1, c2, c3, c4, c5, c6]) rfl ⟨_, rfl, .estate, kk2.drew⟩
    · rw [h2] at hva
      have Hva := Lib.hid hva; clear hva h2
      simp only [if_true]
      go_enter Tryd.func51, Tryd.ntmps51
      go_wp2_with fail
      change Oper.upon _ _ _ _ _ ((invoke (.fn (.method "loop.example/g01301/impl.fitsIn") #[]) #[rstV n, trayV p k b t v u a]).run Tryd.prog _)
      rw [inv_rst, Oper.upon_enter]
      refine (Hfit.out _).mono ?_; rintro e w1 ⟨rfl, hb1⟩
      have T1 : TrAt w1 w.heap.size p k b t v u a := TrAt.below ((TrAt.newAt _ w.heap.size rfl _ _ _ _ _ _ _ _).alloc _) hb1 (Nat.le_refl _)
      have R1 : TrAt w1 (w.heap.size + 1) 0 0 0 0 0 0 0 := TrAt.below (TrAt.newAt _ (w.heap.size + 1) (by simp) _ _ _ _ _ _ _ _) hb1 (Nat.le_refl _)
      have k1 : Below w.heap.size w w1 := by
          refine Below.trans ?_ (hb1.mono (by simp; try omega))
          repeat (first | exact Below.refl _ _ | assumption | apply Below.drew | apply below_drewB | (refine Below.alloc ?_ (by first | omega | (simp; done) | (simp; omega)) _) | (refine Below.setCell ?_ (by first | omega | (simp; done) | (simp; omega)) _))
      have hz1a : w.heap.size < w1.heap.size := T1.lt
      have hz1b : w.heap.size + 1 < w1.heap.size := R1.lt
      clear hb1
      have T9 := T1
      obtain ⟨c0, c1, c2, c3, c4, c5, c6, _⟩ := T9
      go_wp2_with fail
      refine (Hva.out _).mono ?_; rintro e w2 ⟨rfl, hb2⟩
      have N2 : TrAt w2 w1.heap.size p k b t v u (a + n) := TrAt.below ((TrAt.newAt w1 _ rfl 82 p k b t v u (a + n)).alloc _) hb2 (Nat.le_refl _)
      have R2 : TrAt w2 (w.heap.size + 1) 0 0 0 0 0 0 0 := TrAt.below ((R1.alloc _).alloc _) hb2 (Nat.le_refl _)
      have k2 : Below w.heap.size w w2 := by
          refine Below.trans ?_ (hb2.mono (by simp; try omega))
          repeat (first | exact Below.refl _ _ | assumption | apply Below.drew | apply below_drewB | (refine Below.alloc ?_ (by first | omega | (simp; done) | (simp; omega)) _) | (refine Below.setCell ?_ (by first | omega | (simp; done) | (simp; omega)) _))
      have hz2 : w1.heap.size < w2.heap.size := N2.lt
      have hz2b : w.heap.size + 1 < w2.heap.size := R2.lt
      clear c0 c1 c2 c3 c4 c5 c6 hb2 T1 R1 k1
      obtain ⟨c0, c1, c2, c3, c4, c5, c6, _⟩ := N2
      have R9 := R2
      obtain ⟨r0, r1, r2, r3, r4, r5, r6, rz⟩ := R9
      go_wp2_with fail
      obtain ⟨W2, e2, D2, kk2⟩ := (R2).stored k2 (by omega) p k b t v u (a + n)
      rw [← e2]
      clear e2
      obtain ⟨c0, c1, c2, c3, c4, c5, c6, _⟩ := D2
      exact bodyPost_ret (v := .tuple #[trayV p k b t v u (a + n), .nilIface]) (by simp [results, Tryd.results51, go_sem, c0, c1, c2, c3, c4, c5, c6]) rfl ⟨_, rfl, .ok, kk2⟩

set_option maxRecDepth 100000 in
set_option maxHeartbeats 2000000 in
theorem after_fill (z : Ers) (n : Int) (h : BOk p k b t v u a) (w : World) (hE : ErrEnv z w) :
    Calls Tryd.prog 51 #[trayV p k b t v u a, filV n] w (AfterOut z (fillA v n) p k b t v (left u v n) (left a v n) w) := by
  have hfit := fun W => filFits_any (p := p) (k := k) (b := b) (t := t) (v := v) (u := u) (a := a) n W
  have cr := hE.c_erange
  have t0 := fun V X W => ta_fs V X W
  have t1 := fun V X W => ta_fr V X W
  have t2 := fun V X W => ta_ff V X W
  clear hE
  unfold fillA
  rcases h1 : inB n 0 v with _ | _
  · rw [h1] at hfit
    have Hfit := Lib.hid hfit; clear hfit h1 h t0 t1 t2
    simp only [Bool.false_eq_true, if_false]
    go_enter Tryd.func51, Tryd.ntmps51
    go_wp2_with fail
    change Oper.upon _ _ _ _ _ ((invoke (.fn (.method "loop.example/g01301/impl.fitsIn") #[]) #[filV n, trayV p k b t v u a]).run Tryd.prog _)
    rw [inv_fil, Oper.upon_enter]
    refine (Hfit.out _).mono ?_; rintro e w1 ⟨rfl, hb1⟩
    have T1 : TrAt w1 w.heap.size p k b t v u a := TrAt.below ((TrAt.newAt _ w.heap.size rfl _ _ _ _ _ _ _ _).alloc _) hb1 (Nat.le_refl _)
    have R1 : TrAt w1 (w.heap.size + 1) 0 0 0 0 0 0 0 := TrAt.below (TrAt.newAt _ (w.heap.size + 1) (by simp) _ _ _ _ _ _ _ _) hb1 (Nat.le_refl _)
    have k1 : Below w.heap.size w w1 := by
        refine Below.trans ?_ (hb1.mono (by simp; try omega))
        repeat (first | exact Below.refl _ _ | assumption | apply Below.drew | apply below_drewB | (refine Below.alloc ?_ (by first | omega | (simp; done) | (simp; omega)) _) | (refine Below.setCell ?_ (by first | omega | (simp; done) | (simp; omega)) _))
    have hz1a : w.heap.size < w1.heap.size := T1.lt
    have hz1b : w.heap.size + 1 < w1.heap.size := R1.lt
    clear hb1
    have cg := below_cellOf k1 cr (Nat.le_refl _)
    have lg := cell_ltB cr
    have R9 := R1
    obtain ⟨r0, r1, r2, r3, r4, r5, r6, rz⟩ := R9
    go_wp2_with fail
    go_region
    all_goals
      clear r0 r1 r2 r3 r4 r5 r6 rz
      go_wp2
      obtain ⟨W2, e2, D2, kk2⟩ := (R1).stored k1 (by omega) 0 0 0 0 0 0 0
      rw [← e2]
      clear e2
      obtain ⟨c0, c1, c2, c3, c4, c5, c6, _⟩ := D2.below (Below.refl W2.heap.size W2).drew (Nat.le_refl _)
      exact bodyPost_ret (v := .tuple #[trayV 0 0 0 0 0 0 0, errV z.erange]) (by simp [results, Tryd.results51, go_sem, c0, c1, c2, c3, c4, c5, c6]) rfl ⟨_, rfl, .erange, kk2.drew⟩
  · rw [h1] at hfit
    have Hfit := Lib.hid hfit; clear hfit cr
    have hn := inB_true.1 h1
    clear h1
    simp only [if_true]
    have hrp := fun W => replenished_any n h hn.1 hn.2 W
    have h2 := h.fill hn.1 hn.2
    have hva := fun W => trayValid_any p k b t v (left u v n) (left a v n) (by have := h.b0; omega) (by have := h.b1; omega) (by have := h.t0; omega) (by have := h.t1; omega) W
    rw [bathOk_true.2 h2] at hva
    clear h h2
    have Hrp := Lib.hid hrp; clear hrp
    have Hva := Lib.hid hva; clear hva
    generalize left u v n = U at *
    generalize left a v n = X at *
    go_enter Tryd.func51, Tryd.ntmps51
    go_wp2_with fail
    change Oper.upon _ _ _ _ _ ((invoke (.fn (.method "loop.example/g01301/impl.fitsIn") #[]) #[filV n, trayV p k b t v u a]).run Tryd.prog _)
    rw [inv_fil, Oper.upon_enter]
    refine (Hfit.out _).mono ?_; rintro e w1 ⟨rfl, hb1⟩
    have T1 : TrAt w1 w.heap.size p k b t v u a := TrAt.below ((TrAt.newAt _ w.heap.size rfl _ _ _ _ _ _ _ _).alloc _) hb1 (Nat.le_refl _)
    have R1 : TrAt w1 (w.heap.size + 1) 0 0 0 0 0 0 0 := TrAt.below (TrAt.newAt _ (w.heap.size + 1) (by simp) _ _ _ _ _ _ _ _) hb1 (Nat.le_refl _)
    have k1 : Below w.heap.size w w1 := by
        refine Below.trans ?_ (hb1.mono (by simp; try omega))
        repeat (first | exact Below.refl _ _ | assumption | apply Below.drew | apply below_drewB | (refine Below.alloc ?_ (by first | omega | (simp; done) | (simp; omega)) _) | (refine Below.setCell ?_ (by first | omega | (simp; done) | (simp; omega)) _))
    have hz1a : w.heap.size < w1.heap.size := T1.lt
    have hz1b : w.heap.size + 1 < w1.heap.size := R1.lt
    clear hb1
    have T9 := T1
    obtain ⟨c0, c1, c2, c3, c4, c5, c6, _⟩ := T9
    go_wp2_with fail
    refine (Hrp.out _).mono ?_; rintro e w2 ⟨rfl, hb2⟩
    have N2 : TrAt w2 w1.heap.size p k b t v u a := TrAt.below ((TrAt.newAt w1 _ rfl 82 p k b t v u a).alloc (.cells #[.int .i64 n] 61)) hb2 (by simp)
    have R2 : TrAt w2 (w.heap.size + 1) 0 0 0 0 0 0 0 := TrAt.below ((R1.alloc (.cells #[.int .i64 p, .int .i64 k, .int .i8 b, .int .i8 t, .int .i64 v, .int .i64 u, .int .i64 a] 82)).alloc (.cells #[.int .i64 n] 61)) hb2 (by simp)
    have k2 : Below w.heap.size w w2 := by
        refine Below.trans ?_ (hb2.mono (by simp; try omega))
        repeat (first | exact Below.refl _ _ | assumption | apply Below.drew | apply below_drewB | (refine Below.alloc ?_ (by first | omega | (simp; done) | (simp; omega)) _) | (refine Below.setCell ?_ (by first | omega | (simp; done) | (simp; omega)) _))
    have hz2 : w1.heap.size < w2.heap.size := N2.lt
    have hz2b : w.heap.size + 1 < w2.heap.size := R2.lt
    clear c0 c1 c2 c3 c4 c5 c6 hb2 T1 R1 k1
    have N9 := N2
    obtain ⟨c0, c1, c2, c3, c4, c5, c6, cz⟩ := N9
    go_wp2_with fail
    clear c0 c1 c2 c3 c4 c5 c6 cz
    obtain ⟨W3, e3, N3, k3⟩ := N2.stored k2 (by omega) p k b t v U X
    have R3 : TrAt W3 (w.heap.size + 1) 0 0 0 0 0 0 0 := by
        rw [e3]
        exact ((((((R2.setNe (by show w1.heap.size ≠ w.heap.size + 1; omega) _).setNe (by show w1.heap.size ≠ w.heap.size + 1; omega) _).setNe (by show w1.heap.size ≠ w.heap.size + 1; omega) _).setNe (by show w1.heap.size ≠ w.heap.size + 1; omega) _).setNe (by show w1.heap.size ≠ w.heap.size + 1; omega) _).setNe (by show w1.heap.size ≠ w.heap.size + 1; omega) _).setNe (by show w1.heap.size ≠ w.heap.size + 1; omega) _
    rw [← e3]
    clear e3 N2 R2 k2 hz2 hz2b
    have N9 := N3
    obtain ⟨c0, c1, c2, c3, c4, c5, c6, cz⟩ := N9
    go_wp2_with fail
    refine (Hva.out _).mono ?_; rintro e w4 ⟨rfl, hb4⟩
    clear c0 c1 c2 c3 c4 c5 c6 cz
    have N4 := N3.below hb4 (Nat.le_refl _)
    have R4 := R3.below hb4 (Nat.le_refl _)
    have k4 := k3.trans (hb4.mono k3.size)
    clear N3 R3 k3 hb4
    have hz4 : w1.heap.size < w4.heap.size := N4.lt
    have hz4b : w.heap.size + 1 < w4.heap.size := R4.lt
    obtain ⟨c0, c1, c2, c3, c4, c5, c6, _⟩ := N4
    have R9 := R4
    obtain ⟨r0, r1, r2, r3, r4, r5, r6, rz⟩ := R9
    go_wp2_with fail
    obtain ⟨W2, e2, D2, kk2⟩ := (R4).stored k4 (by omega) p k b t v U X
    rw [← e2]
    clear e2
    obtain ⟨c0, c1, c2, c3, c4, c5, c6, _⟩ := D2
    exact bodyPost_ret (v := .tuple #[trayV p k b t v U X, .nilIface]) (by simp [results, Tryd.results51, go_sem, c0, c1, c2, c3, c4, c5, c6]) rfl ⟨_, rfl, .ok, kk2⟩

set_option maxRecDepth 100000 in
set_option maxHeartbeats 2000000 in
theorem after_sheet (z : Ers) (n : Int) (h : BOk p k b t v u a) (w : World) (hT : TimEnv w) (hE : ErrEnv z w) :
    Calls Tryd.prog 51 #[trayV p k b t v u a, shtV n] w (AfterOut z (sheetA p k b t v u a n) p k b t v (u + n) a w) := by
  have hfit := fun W => shtFits_any (p := p) (k := k) (b := b) (t := t) (v := v) (u := u) (a := a) n W
  have cr := hE.c_erange
  have cs := hE.c_estate
  have t0 := fun V X W => ta_ss V X W
  have hva := fun W => trayValid_any p k b t v (u + n) a (by have := h.b0; omega) (by have := h.b1; omega) (by have := h.t0; omega) (by have := h.t1; omega) W
  have hu0 := h.u0
  have hu1 := h.u1
  have hsl := fun W hT hE => isSlowerThan_any z 36 (by omega) (by omega) h W hT hE
  have hb37 := slw_bd (strn p k v u a)
  clear h
  unfold sheetA sheetB
  generalize slw (strn p k v u a) = K at *
  rcases h1 : inB n 1 5000 with _ | _
  · rw [h1] at hfit
    have Hfit := Lib.hid hfit; clear hfit h1 hva t0 cs hsl
    simp only [Bool.false_eq_true, if_false]
    go_enter Tryd.func51, Tryd.ntmps51
    go_wp2_with fail
    change Oper.upon _ _ _ _ _ ((invoke (.fn (.method "loop.example/g01301/impl.fitsIn") #[]) #[shtV n, trayV p k b t v u a]).run Tryd.prog _)
    rw [inv_sht, Oper.upon_enter]
    refine (Hfit.out _).mono ?_; rintro e w1 ⟨rfl, hb1⟩
    have T1 : TrAt w1 w.heap.size p k b t v u a := TrAt.below ((TrAt.newAt _ w.heap.size rfl _ _ _ _ _ _ _ _).alloc _) hb1 (Nat.le_refl _)
    have R1 : TrAt w1 (w.heap.size + 1) 0 0 0 0 0 0 0 := TrAt.below (TrAt.newAt _ (w.heap.size + 1) (by simp) _ _ _ _ _ _ _ _) hb1 (Nat.le_refl _)
    have k1 : Below w.heap.size w w1 := by
        refine Below.trans ?_ (hb1.mono (by simp; try omega))
        repeat (first | exact Below.refl _ _ | assumption | apply Below.drew | apply below_drewB | (refine Below.alloc ?_ (by first | omega | (simp; done) | (simp; omega)) _) | (refine Below.setCell ?_ (by first | omega | (simp; done) | (simp; omega)) _))
    have hz1a : w.heap.size < w1.heap.size := T1.lt
    have hz1b : w.heap.size + 1 < w1.heap.size := R1.lt
    clear hb1
    have cg := below_cellOf k1 cr (Nat.le_refl _)
    have lg := cell_ltB cr
    have R9 := R1
    obtain ⟨r0, r1, r2, r3, r4, r5, r6, rz⟩ := R9
    go_wp2_with fail
    go_region
    all_goals
      clear r0 r1 r2 r3 r4 r5 r6 rz
      go_wp2
      obtain ⟨W2, e2, D2, kk2⟩ := (R1).stored k1 (by omega) 0 0 0 0 0 0 0
      rw [← e2]
      clear e2
      obtain ⟨c0, c1, c2, c3, c4, c5, c6, _⟩ := D2.below (Below.refl W2.heap.size W2).drew (Nat.le_refl _)
      exact bodyPost_ret (v := .tuple #[trayV 0 0 0 0 0 0 0, errV z.erange]) (by simp [results, Tryd.results51, go_sem, c0, c1, c2, c3, c4, c5, c6]) rfl ⟨_, rfl, .erange, kk2.drew⟩
  · rw [h1] at hfit
    have Hfit := Lib.hid hfit; clear hfit cr
    have hn := inB_true.1 h1
    clear h1
    simp only [if_true]
    by_cases h37 : K = 37
    · rw [decide_eq_true (show (36 : Int) < K by omega)] at hsl
      have Hsl := Lib.hid hsl; clear hsl hva
      rw [decide_eq_false (not_not_intro h37), Bool.false_and]
      simp only [Bool.false_eq_true, if_false]
      go_enter Tryd.func51, Tryd.ntmps51
      go_wp2_with fail
      change Oper.upon _ _ _ _ _ ((invoke (.fn (.method "loop.example/g01301/impl.fitsIn") #[]) #[shtV n, trayV p k b t v u a]).run Tryd.prog _)
      rw [inv_sht, Oper.upon_enter]
      refine (Hfit.out _).mono ?_; rintro e w1 ⟨rfl, hb1⟩
      have T1 : TrAt w1 w.heap.size p k b t v u a := TrAt.below ((TrAt.newAt _ w.heap.size rfl _ _ _ _ _ _ _ _).alloc _) hb1 (Nat.le_refl _)
      have R1 : TrAt w1 (w.heap.size + 1) 0 0 0 0 0 0 0 := TrAt.below (TrAt.newAt _ (w.heap.size + 1) (by simp) _ _ _ _ _ _ _ _) hb1 (Nat.le_refl _)
      have k1 : Below w.heap.size w w1 := by
          refine Below.trans ?_ (hb1.mono (by simp; try omega))
          repeat (first | exact Below.refl _ _ | assumption | apply Below.drew | apply below_drewB | (refine Below.alloc ?_ (by first | omega | (simp; done) | (simp; omega)) _) | (refine Below.setCell ?_ (by first | omega | (simp; done) | (simp; omega)) _))
      have hz1a : w.heap.size < w1.heap.size := T1.lt
      have hz1b : w.heap.size + 1 < w1.heap.size := R1.lt
      clear hb1
      have T9 := T1
      obtain ⟨c0, c1, c2, c3, c4, c5, c6, _⟩ := T9
      go_wp2_with fail
      have kk : Below w.heap.size w ((w1.alloc (.cells #[.int .i64 p, .int .i64 k, .int .i8 b, .int .i8 t, .int .i64 v, .int .i64 u, .int .i64 a] 82)).alloc (.cells #[.int .i64 n] 74)) := (k1.alloc k1.size _).alloc (by have := k1.size; simp; omega) _
      refine (Hsl.out _ (hT.below kk (Nat.le_refl _)) (hE.below kk (Nat.le_refl _))).mono ?_; rintro e w2 ⟨rfl, hb2⟩
      clear kk
      have N2 : TrAt w2 w1.heap.size p k b t v u a := TrAt.below ((TrAt.newAt w1 _ rfl 82 p k b t v u a).alloc (.cells #[.int .i64 n] 74)) hb2 (by simp)
      have R2 : TrAt w2 (w.heap.size + 1) 0 0 0 0 0 0 0 := TrAt.below ((R1.alloc (.cells #[.int .i64 p, .int .i64 k, .int .i8 b, .int .i8 t, .int .i64 v, .int .i64 u, .int .i64 a] 82)).alloc (.cells #[.int .i64 n] 74)) hb2 (by simp)
      have q2 : w2.cell? ⟨w1.heap.size + 1, 0, none⟩ = some (.int .i64 n) := below_cellOf hb2 (by simp) (Nat.le_refl _)
      have k2 : Below w.heap.size w w2 := by
          refine Below.trans ?_ (hb2.mono (by simp; try omega))
          repeat (first | exact Below.refl _ _ | assumption | apply Below.drew | apply below_drewB | (refine Below.alloc ?_ (by first | omega | (simp; done) | (simp; omega)) _) | (refine Below.setCell ?_ (by first | omega | (simp; done) | (simp; omega)) _))
      have hz2 : w1.heap.size < w2.heap.size := N2.lt
      have hz2b : w.heap.size + 1 < w2.heap.size := R2.lt
      clear c0 c1 c2 c3 c4 c5 c6 hb2 T1 R1 k1
      have cg := below_cellOf k2 cs (Nat.le_refl _)
      have lg := cell_ltB cs
      have R9 := R2
      obtain ⟨r0, r1, r2, r3, r4, r5, r6, rz⟩ := R9
      go_wp2_with fail
      go_region
      all_goals
        clear r0 r1 r2 r3 r4 r5 r6 rz
        go_wp2
        obtain ⟨W2, e2, D2, kk2⟩ := (R2).stored k2 (by omega) 0 0 0 0 0 0 0
        rw [← e2]
        clear e2
        obtain ⟨c0, c1, c2, c3, c4, c5, c6, _⟩ := D2.below (Below.refl W2.heap.size W2).drew (Nat.le_refl _)
        exact bodyPost_ret (v := .tuple #[trayV 0 0 0 0 0 0 0, errV z.estate]) (by simp [results, Tryd.results51, go_sem, c0, c1, c2, c3, c4, c5, c6]) rfl ⟨_, rfl, .estate, kk2.drew⟩
    · rw [decide_eq_false (show ¬ (36 : Int) < K by omega)] at hsl
      have Hsl := Lib.hid hsl; clear hsl
      rw [decide_eq_true h37, Bool.true_and]
      rcases h2 : bathOk p k b t v (u + n) a with _ | _
      · rw [h2] at hva
        have Hva := Lib.hid hva; clear hva h2
        simp only [Bool.false_eq_true, if_false]
        go_enter Tryd.func51, Tryd.ntmps51
        go_wp2_with fail
        change Oper.upon _ _ _ _ _ ((invoke (.fn (.method "loop.example/g01301/impl.fitsIn") #[]) #[shtV n, trayV p k b t v u a]).run Tryd.prog _)
        rw [inv_sht, Oper.upon_enter]
        refine (Hfit.out _).mono ?_; rintro e w1 ⟨rfl, hb1⟩
        have T1 : TrAt w1 w.heap.size p k b t v u a := TrAt.below ((TrAt.newAt _ w.heap.size rfl _ _ _ _ _ _ _ _).alloc _) hb1 (Nat.le_refl _)
        have R1 : TrAt w1 (w.heap.size + 1) 0 0 0 0 0 0 0 := TrAt.below (TrAt.newAt _ (w.heap.size + 1) (by simp) _ _ _ _ _ _ _ _) hb1 (Nat.le_refl _)
        have k1 : Below w.heap.size w w1 := by
            refine Below.trans ?_ (hb1.mono (by simp; try omega))
            repeat (first | exact Below.refl _ _ | assumption | apply Below.drew | apply below_drewB | (refine Below.alloc ?_ (by first | omega | (simp; done) | (simp; omega)) _) | (refine Below.setCell ?_ (by first | omega | (simp; done) | (simp; omega)) _))
        have hz1a : w.heap.size < w1.heap.size := T1.lt
        have hz1b : w.heap.size + 1 < w1.heap.size := R1.lt
        clear hb1
        have T9 := T1
        obtain ⟨c0, c1, c2, c3, c4, c5, c6, _⟩ := T9
        go_wp2_with fail
        have kk : Below w.heap.size w ((w1.alloc (.cells #[.int .i64 p, .int .i64 k, .int .i8 b, .int .i8 t, .int .i64 v, .int .i64 u, .int .i64 a] 82)).alloc (.cells #[.int .i64 n] 74)) := (k1.alloc k1.size _).alloc (by have := k1.size; simp; omega) _
        refine (Hsl.out _ (hT.below kk (Nat.le_refl _)) (hE.below kk (Nat.le_refl _))).mono ?_; rintro e w2 ⟨rfl, hb2⟩
        clear kk
        have N2 : TrAt w2 w1.heap.size p k b t v u a := TrAt.below ((TrAt.newAt w1 _ rfl 82 p k b t v u a).alloc (.cells #[.int .i64 n] 74)) hb2 (by simp)
        have R2 : TrAt w2 (w.heap.size + 1) 0 0 0 0 0 0 0 := TrAt.below ((R1.alloc (.cells #[.int .i64 p, .int .i64 k, .int .i8 b, .int .i8 t, .int .i64 v, .int .i64 u, .int .i64 a] 82)).alloc (.cells #[.int .i64 n] 74)) hb2 (by simp)
        have q2 : w2.cell? ⟨w1.heap.size + 1, 0, none⟩ = some (.int .i64 n) := below_cellOf hb2 (by simp) (Nat.le_refl _)
        have k2 : Below w.heap.size w w2 := by
            refine Below.trans ?_ (hb2.mono (by simp; try omega))
            repeat (first | exact Below.refl _ _ | assumption | apply Below.drew | apply below_drewB | (refine Below.alloc ?_ (by first | omega | (simp; done) | (simp; omega)) _) | (refine Below.setCell ?_ (by first | omega | (simp; done) | (simp; omega)) _))
        have hz2 : w1.heap.size < w2.heap.size := N2.lt
        have hz2b : w.heap.size + 1 < w2.heap.size := R2.lt
        clear c0 c1 c2 c3 c4 c5 c6 hb2 T1 R1 k1
        have N9 := N2
        obtain ⟨c0, c1, c2, c3, c4, c5, c6, cz⟩ := N9
        go_wp2_with fail
        clear c0 c1 c2 c3 c4 c5 c6 cz
        refine (Hva.out _).mono ?_; rintro e w4 ⟨rfl, hb4⟩
        have N4 : TrAt w4 w1.heap.size p k b t v (u + n) a := TrAt.below (N2.set5 (u + n)) hb4 (by simp)
        have R4 : TrAt w4 (w.heap.size + 1) 0 0 0 0 0 0 0 := TrAt.below (R2.setNe (q := ⟨w1.heap.size, 5, none⟩) (by show w1.heap.size ≠ w.heap.size + 1; omega) (.int .i64 (u + n))) hb4 (by simp)
        have k4 : Below w.heap.size w w4 := (k2.setCell (by show w.heap.size ≤ w1.heap.size; omega) _).trans (hb4.mono (by simpa using k2.size))
        clear N2 R2 k2 hb4
        have hz4 : w1.heap.size < w4.heap.size := N4.lt
        have hz4b : w.heap.size + 1 < w4.heap.size := R4.lt
        have cg := below_cellOf k4 cs (Nat.le_refl _)
        have lg := cell_ltB cs
        have R9 := R4
        obtain ⟨r0, r1, r2, r3, r4, r5, r6, rz⟩ := R9
        go_wp2_with fail
        go_region
        all_goals
          clear r0 r1 r2 r3 r4 r5 r6 rz
          go_wp2
          obtain ⟨W2, e2, D2, kk2⟩ := (R4).stored k4 (by omega) 0 0 0 0 0 0 0
          rw [← e2]
          clear e2
          obtain ⟨c0, c1, c2, c3, c4, c5, c6, _⟩ := D2.below (Below.refl W2.heap.size W2).drew (Nat.le_refl _)
          exact bodyPost_ret (v := .tuple #[trayV 0 0 0 0 0 0 0, errV z.estate]) (by simp [results, Tryd.results51, go_sem, c0, c1, c2, c3, c4, c5, c6]) rfl ⟨_, rfl, .estate, kk2.drew⟩
      · rw [h2] at hva
        have Hva := Lib.hid hva; clear hva h2
        simp only [if_true]
        go_enter Tryd.func51, Tryd.ntmps51
        go_wp2_with fail
        change Oper.upon _ _ _ _ _ ((invoke (.fn (.method "loop.example/g01301/impl.fitsIn") #[]) #[shtV n, trayV p k b t v u a]).run Tryd.prog _)
        rw [inv_sht, Oper.upon_enter]
        refine (Hfit.out _).mono ?_; rintro e w1 ⟨rfl, hb1⟩
        have T1 : TrAt w1 w.heap.size p k b t v u a := TrAt.below ((TrAt.newAt _ w.heap.size rfl _ _ _ _ _ _ _ _).alloc _) hb1 (Nat.le_refl _)
        have R1 : TrAt w1 (w.heap.size + 1) 0 0 0 0 0 0 0 := TrAt.below (TrAt.newAt _ (w.heap.size + 1) (by simp) _ _ _ _ _ _ _ _) hb1 (Nat.le_refl _)
        have k1 : Below w.heap.size w w1 := by
            refine Below.trans ?_ (hb1.mono (by simp; try omega))
            repeat (first | exact Below.refl _ _ | assumption | apply Below.drew | apply below_drewB | (refine Below.alloc ?_ (by first | omega | (simp; done) | (simp; omega)) _) | (refine Below.setCell ?_ (by first | omega | (simp; done) | (simp; omega)) _))
        have hz1a : w.heap.size < w1.heap.size := T1.lt
        have hz1b : w.heap.size + 1 < w1.heap.size := R1.lt
        clear hb1
        have T9 := T1
        obtain ⟨c0, c1, c2, c3, c4, c5, c6, _⟩ := T9
        go_wp2_with fail
        have kk : Below w.heap.size w ((w1.alloc (.cells #[.int .i64 p, .int .i64 k, .int .i8 b, .int .i8 t, .int .i64 v, .int .i64 u, .int .i64 a] 82)).alloc (.cells #[.int .i64 n] 74)) := (k1.alloc k1.size _).alloc (by have := k1.size; simp; omega) _
        refine (Hsl.out _ (hT.below kk (Nat.le_refl _)) (hE.below kk (Nat.le_refl _))).mono ?_; rintro e w2 ⟨rfl, hb2⟩
        clear kk
        have N2 : TrAt w2 w1.heap.size p k b t v u a := TrAt.below ((TrAt.newAt w1 _ rfl 82 p k b t v u a).alloc (.cells #[.int .i64 n] 74)) hb2 (by simp)
        have R2 : TrAt w2 (w.heap.size + 1) 0 0 0 0 0 0 0 := TrAt.below ((R1.alloc (.cells #[.int .i64 p, .int .i64 k, .int .i8 b, .int .i8 t, .int .i64 v, .int .i64 u, .int .i64 a] 82)).alloc (.cells #[.int .i64 n] 74)) hb2 (by simp)
        have q2 : w2.cell? ⟨w1.heap.size + 1, 0, none⟩ = some (.int .i64 n) := below_cellOf hb2 (by simp) (Nat.le_refl _)
        have k2 : Below w.heap.size w w2 := by
            refine Below.trans ?_ (hb2.mono (by simp; try omega))
            repeat (first | exact Below.refl _ _ | assumption | apply Below.drew | apply below_drewB | (refine Below.alloc ?_ (by first | omega | (simp; done) | (simp; omega)) _) | (refine Below.setCell ?_ (by first | omega | (simp; done) | (simp; omega)) _))
        have hz2 : w1.heap.size < w2.heap.size := N2.lt
        have hz2b : w.heap.size + 1 < w2.heap.size := R2.lt
        clear c0 c1 c2 c3 c4 c5 c6 hb2 T1 R1 k1
        have N9 := N2
        obtain ⟨c0, c1, c2, c3, c4, c5, c6, cz⟩ := N9
        go_wp2_with fail
        clear c0 c1 c2 c3 c4 c5 c6 cz
        refine (Hva.out _).mono ?_; rintro e w4 ⟨rfl, hb4⟩
        have N4 : TrAt w4 w1.heap.size p k b t v (u + n) a := TrAt.below (N2.set5 (u + n)) hb4 (by simp)
        have R4 : TrAt w4 (w.heap.size + 1) 0 0 0 0 0 0 0 := TrAt.below (R2.setNe (q := ⟨w1.heap.size, 5, none⟩) (by show w1.heap.size ≠ w.heap.size + 1; omega) (.int .i64 (u + n))) hb4 (by simp)
        have k4 : Below w.heap.size w w4 := (k2.setCell (by show w.heap.size ≤ w1.heap.size; omega) _).trans (hb4.mono (by simpa using k2.size))
        clear N2 R2 k2 hb4
        have hz4 : w1.heap.size < w4.heap.size := N4.lt
        have hz4b : w.heap.size + 1 < w4.heap.size := R4.lt
        obtain ⟨c0, c1, c2, c3, c4, c5, c6, _⟩ := N4
        have R9 := R4
        obtain ⟨r0, r1, r2, r3, r4, r5, r6, rz⟩ := R9
        go_wp2_with fail
        obtain ⟨W2, e2, D2, kk2⟩ := (R4).stored k4 (by omega) p k b t v (u + n) a
        rw [← e2]
        clear e2
        obtain ⟨c0, c1, c2, c3, c4, c5, c6, _⟩ := D2
        exact bodyPost_ret (v := .tuple #[trayV p k b t v (u + n) a, .nilIface]) (by simp [results, Tryd.results51, go_sem, c0, c1, c2, c3, c4, c5, c6]) rfl ⟨_, rfl, .ok, kk2⟩

end
end Go.Proofs.YtkgjkjecfpmlnaaDoor

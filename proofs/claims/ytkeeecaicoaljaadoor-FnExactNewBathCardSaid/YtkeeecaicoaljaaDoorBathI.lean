/-
  Baths behind a deed: what the program returns. Condition: its errors, and its table of times.
-/
import Derived.Test.YtkeeecaicoaljaaDoorAfter
namespace Go.Proofs.YtkeeecaicoaljaaDoor
open Go.RowKit

/-- A bath and an error. -/
def BathErr (z : Ers) (C v u a : Int) (w : World) (e : Ending) (w' : World) : Prop :=
  ∃ ev, e = .returned (.tuple #[batV (ifC C v) (ifC C u) (ifC C a), ev]) ∧ IsCode z ev C ∧ Below w.heap.size w w'
/-- A bath and a code. -/
def BathCode (C v u a : Int) (w : World) (e : Ending) (w' : World) : Prop :=
  e = .returned (.tuple #[batV (ifC C v) (ifC C u) (ifC C a), .int .i64 C]) ∧ Below w.heap.size w w'

section
variable {p k b t v u a : Int}

set_option maxRecDepth 100000 in
set_option maxHeartbeats 2000000 in
theorem bathAfter_no (z : Ers) (dv : Value) (v' u' a' : Int) (hb : -128 ≤ b) (hb' : b ≤ 127) (ht : -128 ≤ t) (ht' : t ≤ 127) (h : bathOk p k b t v u a = false) (w : World) (hE : ErrEnv z w) :
    Calls Tryd.prog 50 #[devV p k b t, batV v u a, dv] w (BathErr z 1 v' u' a' w) := by
  have hto := fun W hE => trayOf_no z hb hb' ht ht' h W hE
  have Hto := Lib.hid hto; clear hto h
  have ne := errNeB
  have HE := Lib.hid hE; clear hE
  have kk := below_2 w (.cells #[.int .i64 p, .int .i64 k, .int .i8 b, .int .i8 t] 29) (.cells #[.int .i64 v, .int .i64 u, .int .i64 a] 26)
  have kk := kk.alloc kk.size (.cells #[.int .i64 0, .int .i64 0, .int .i64 0] 26)
  unfold BathErr
  simp only [ifC_1]
  go_enter Tryd.func50, Tryd.ntmps50
  go_wp2_with fail
  refine (Hto.out _ (HE.out.below kk (Nat.le_refl _))).mono ?_; rintro e w1 ⟨rfl, hb1⟩
  have R1 : BtAt w1 (w.heap.size + 1 + 1) 0 0 0 := BtAt.below (BtAt.newAt _ (w.heap.size + 1 + 1) (by simp) _ _ _ _) hb1 (Nat.le_refl _)
  have k1 := kk.trans (hb1.mono kk.size)
  have hz1 := R1.lt
  clear hb1 kk
  have R9 := R1
  obtain ⟨r0, r1, r2, y0, y1, y2⟩ := R9
  go_wp2_with fail
  obtain ⟨W2, e2, D2, kk2⟩ := R1.stored k1 (by omega) 0 0 0
  rw [← e2]
  clear e2
  obtain ⟨c0, c1, c2, _, _, _⟩ := D2.alloc (.cells #[.int .i64 0, .int .i64 0, .int .i8 0, .int .i8 0, .int .i64 0, .int .i64 0, .int .i64 0] 78)
  exact bodyPost_ret (v := .tuple #[batV 0 0 0, errV z.einvalid]) (by simp [results, Tryd.results50, go_sem, c0, c1, c2]) rfl ⟨_, rfl, .einvalid, kk2.alloc kk2.size _⟩

set_option maxRecDepth 100000 in
set_option maxHeartbeats 2000000 in
theorem bathAfter_yes (z : Ers) (dv : Value) (C v' u' a' : Int) (h : BOk p k b t v u a) (w : World) (haf : ∀ W, Below w.heap.size w W → Calls Tryd.prog 64 #[trayV p k b t v u a, dv] W (AfterOut z C p k b t v' u' a' W)) :
    Calls Tryd.prog 50 #[devV p k b t, batV v u a, dv] w (BathErr z C v' u' a' w) := by
  have hto := fun W => trayOf_yes h W
  have Hto := Lib.hid hto; clear hto h
  have nn := nilNeB
  have kk := below_2 w (.cells #[.int .i64 p, .int .i64 k, .int .i8 b, .int .i8 t] 29) (.cells #[.int .i64 v, .int .i64 u, .int .i64 a] 26)
  have kk := kk.alloc kk.size (.cells #[.int .i64 0, .int .i64 0, .int .i64 0] 26)
  unfold BathErr
  unfold AfterOut at haf
  generalize ifC C p = P at haf
  generalize ifC C k = K at haf
  generalize ifC C b = B at haf
  generalize ifC C t = T at haf
  generalize ifC C v' = V at haf ⊢
  generalize ifC C u' = U at haf ⊢
  generalize ifC C a' = X at haf ⊢
  have Haf := Lib.hid haf; clear haf
  go_enter Tryd.func50, Tryd.ntmps50
  go_wp2_with fail
  refine (Hto.out _).mono ?_; rintro e w1 ⟨rfl, hb1⟩
  have R1 : BtAt w1 (w.heap.size + 1 + 1) 0 0 0 := BtAt.below (BtAt.newAt _ (w.heap.size + 1 + 1) (by simp) _ _ _ _) hb1 (Nat.le_refl _)
  have k1 := kk.trans (hb1.mono kk.size)
  have hz1 := R1.lt
  clear hb1 kk
  have R2 := R1.alloc (.cells #[.int .i64 p, .int .i64 k, .int .i8 b, .int .i8 t, .int .i64 v, .int .i64 u, .int .i64 a] 78)
  have k2 := k1.alloc k1.size (.cells #[.int .i64 p, .int .i64 k, .int .i8 b, .int .i8 t, .int .i64 v, .int .i64 u, .int .i64 a] 78)
  go_wp2_with fail
  refine (Haf.out _ k2).mono ?_; rintro e w3 ⟨ev, rfl, hev, hb3⟩
  have R3 := R2.below hb3 (Nat.le_refl _)
  have k3 := k2.trans (hb3.mono k2.size)
  have hz3 := R3.lt
  clear hb3 R1 R2 k1 k2 hz1
  have R9 := R3
  obtain ⟨r0, r1, r2, y0, y1, y2⟩ := R9
  go_wp2_with fail
  obtain ⟨W2, e2, D2, kk2⟩ := R3.stored k3 (by omega) V U X
  rw [← e2]
  clear e2
  obtain ⟨c0, c1, c2, _, _, _⟩ := D2.alloc (.cells #[.int .i64 P, .int .i64 K, .int .i8 B, .int .i8 T, .int .i64 V, .int .i64 U, .int .i64 X] 78)
  exact bodyPost_ret (v := .tuple #[batV V U X, ev]) (by simp [results, Tryd.results50, go_sem, c0, c1, c2]) rfl ⟨_, rfl, hev, kk2.alloc kk2.size _⟩

set_option maxRecDepth 100000 in
set_option maxHeartbeats 2000000 in
theorem RestBath_any (z : Ers) (n : Int) (hb : -128 ≤ b) (hb' : b ≤ 127) (ht : -128 ≤ t) (ht' : t ≤ 127) (w : World) (hE : ErrEnv z w) :
    Calls Tryd.prog 27 #[devV p k b t, batV v u a, .int .i64 n] w (BathCode (restC p k b t v u a n) v u (a + n) w) := by
  have kk := below_2 w (.cells #[.int .i64 p, .int .i64 k, .int .i8 b, .int .i8 t] 29) (.cells #[.int .i64 v, .int .i64 u, .int .i64 a] 26)
  have kk := kk.alloc kk.size (.cells #[.int .i64 0, .int .i64 0, .int .i64 0] 26)
  have hba : ∀ W, Below w.heap.size w W → Calls Tryd.prog 50 #[devV p k b t, batV v u a, rstV n] W (BathErr z (restC p k b t v u a n) v u (a + n) W) := by
    intro W hB
    rw [restC_eq]
    rcases h1 : bathOk p k b t v u a with _ | _
    · simp only [Bool.false_eq_true, if_false]
      exact bathAfter_no z _ _ _ _ hb hb' ht ht' h1 W (hE.below hB (Nat.le_refl _))
    · simp only [if_true]
      have h := bathOk_true.1 h1
      exact bathAfter_yes z _ _ _ _ _ h W (fun W' hB' => after_rest z n h W' (hE.below (hB.trans (hB'.mono hB.size)) (Nat.le_refl _)))
  unfold BathErr at hba
  unfold BathCode
  generalize restC p k b t v u a n = C at *
  generalize ifC C v = V0 at *
  generalize ifC C u = V1 at *
  generalize ifC C (a + n) = V2 at *
  have Hba := Lib.hid hba; clear hba
  go_enter Tryd.func27, Tryd.ntmps27
  go_wp2_with fail
  refine (Hba.out _ kk).mono ?_; rintro e w1 ⟨ev, rfl, hev, hb1⟩
  have R1 : BtAt w1 (w.heap.size + 1 + 1) 0 0 0 := BtAt.below (BtAt.newAt _ (w.heap.size + 1 + 1) (by simp) _ _ _ _) hb1 (Nat.le_refl _)
  have k1 := kk.trans (hb1.mono kk.size)
  have hz1 := R1.lt
  clear hb1 kk
  go_wp2_with fail
  refine (codedBath_any hev _ _ _ _ (hE.below k1 (Nat.le_refl _))).mono ?_; rintro e w2 ⟨rfl, hb2⟩
  have R2 := R1.below hb2 (Nat.le_refl _)
  have k2 := k1.trans (hb2.mono k1.size)
  have hz2 := R2.lt
  clear hb2 R1 k1 hz1
  have R9 := R2
  obtain ⟨r0, r1, r2, y0, y1, y2⟩ := R9
  go_wp2_with fail
  obtain ⟨W2, e2, D2, kk2⟩ := R2.stored k2 (by omega) V0 V1 V2
  rw [← e2]
  clear e2
  obtain ⟨c0, c1, c2, _, _, _⟩ := D2
  exact bodyPost_ret (v := .tuple #[batV V0 V1 V2, .int .i64 C]) (by simp [results, Tryd.results27, go_sem, c0, c1, c2]) rfl ⟨rfl, kk2⟩

set_option maxRecDepth 100000 in
set_option maxHeartbeats 2000000 in
theorem Replenish_any (z : Ers) (n : Int) (hb : -128 ≤ b) (hb' : b ≤ 127) (ht : -128 ≤ t) (ht' : t ≤ 127) (w : World) (hE : ErrEnv z w) :
    Calls Tryd.prog 29 #[devV p k b t, batV v u a, .int .i64 n] w (BathCode (fillC p k b t v u a n) v (left u v n) (left a v n) w) := by
  have kk := below_2 w (.cells #[.int .i64 p, .int .i64 k, .int .i8 b, .int .i8 t] 29) (.cells #[.int .i64 v, .int .i64 u, .int .i64 a] 26)
  have kk := kk.alloc kk.size (.cells #[.int .i64 0, .int .i64 0, .int .i64 0] 26)
  have hba : ∀ W, Below w.heap.size w W → Calls Tryd.prog 50 #[devV p k b t, batV v u a, filV n] W (BathErr z (fillC p k b t v u a n) v (left u v n) (left a v n) W) := by
    intro W hB
    rw [fillC_eq]
    rcases h1 : bathOk p k b t v u a with _ | _
    · simp only [Bool.false_eq_true, if_false]
      exact bathAfter_no z _ _ _ _ hb hb' ht ht' h1 W (hE.below hB (Nat.le_refl _))
    · simp only [if_true]
      have h := bathOk_true.1 h1
      exact bathAfter_yes z _ _ _ _ _ h W (fun W' hB' => after_fill z n h W' (hE.below (hB.trans (hB'.mono hB.size)) (Nat.le_refl _)))
  unfold BathErr at hba
  unfold BathCode
  generalize fillC p k b t v u a n = C at *
  generalize ifC C v = V0 at *
  generalize ifC C (left u v n) = V1 at *
  generalize ifC C (left a v n) = V2 at *
  have Hba := Lib.hid hba; clear hba
  go_enter Tryd.func29, Tryd.ntmps29
  go_wp2_with fail
  refine (Hba.out _ kk).mono ?_; rintro e w1 ⟨ev, rfl, hev, hb1⟩
  have R1 : BtAt w1 (w.heap.size + 1 + 1) 0 0 0 := BtAt.below (BtAt.newAt _ (w.heap.size + 1 + 1) (by simp) _ _ _ _) hb1 (Nat.le_refl _)
  have k1 := kk.trans (hb1.mono kk.size)
  have hz1 := R1.lt
  clear hb1 kk
  go_wp2_with fail
  refine (codedBath_any hev _ _ _ _ (hE.below k1 (Nat.le_refl _))).mono ?_; rintro e w2 ⟨rfl, hb2⟩
  have R2 := R1.below hb2 (Nat.le_refl _)
  have k2 := k1.trans (hb2.mono k1.size)
  have hz2 := R2.lt
  clear hb2 R1 k1 hz1
  have R9 := R2
  obtain ⟨r0, r1, r2, y0, y1, y2⟩ := R9
  go_wp2_with fail
  obtain ⟨W2, e2, D2, kk2⟩ := R2.stored k2 (by omega) V0 V1 V2
  rw [← e2]
  clear e2
  obtain ⟨c0, c1, c2, _, _, _⟩ := D2
  exact bodyPost_ret (v := .tuple #[batV V0 V1 V2, .int .i64 C]) (by simp [results, Tryd.results29, go_sem, c0, c1, c2]) rfl ⟨rfl, kk2⟩

set_option maxRecDepth 100000 in
set_option maxHeartbeats 2000000 in
theorem DevelopSheet_any (z : Ers) (n : Int) (hb : -128 ≤ b) (hb' : b ≤ 127) (ht : -128 ≤ t) (ht' : t ≤ 127) (w : World) (hT : TimEnv w) (hE : ErrEnv z w) :
    Calls Tryd.prog 25 #[devV p k b t, batV v u a, .int .i64 n] w (BathCode (sheetC p k b t v u a n) v (u + n) a w) := by
  have kk := below_2 w (.cells #[.int .i64 p, .int .i64 k, .int .i8 b, .int .i8 t] 29) (.cells #[.int .i64 v, .int .i64 u, .int .i64 a] 26)
  have kk := kk.alloc kk.size (.cells #[.int .i64 0, .int .i64 0, .int .i64 0] 26)
  have hba : ∀ W, Below w.heap.size w W → Calls Tryd.prog 50 #[devV p k b t, batV v u a, shtV n] W (BathErr z (sheetC p k b t v u a n) v (u + n) a W) := by
    intro W hB
    rw [sheetC_eq]
    rcases h1 : bathOk p k b t v u a with _ | _
    · simp only [Bool.false_eq_true, if_false]
      exact bathAfter_no z _ _ _ _ hb hb' ht ht' h1 W (hE.below hB (Nat.le_refl _))
    · simp only [if_true]
      have h := bathOk_true.1 h1
      exact bathAfter_yes z _ _ _ _ _ h W (fun W' hB' => after_sheet z n h W' (hT.below (hB.trans (hB'.mono hB.size)) (Nat.le_refl _)) (hE.below (hB.trans (hB'.mono hB.size)) (Nat.le_refl _)))
  unfold BathErr at hba
  unfold BathCode
  generalize sheetC p k b t v u a n = C at *
  generalize ifC C v = V0 at *
  generalize ifC C (u + n) = V1 at *
  generalize ifC C a = V2 at *
  have Hba := Lib.hid hba; clear hba
  go_enter Tryd.func25, Tryd.ntmps25
  go_wp2_with fail
  refine (Hba.out _ kk).mono ?_; rintro e w1 ⟨ev, rfl, hev, hb1⟩
  have R1 : BtAt w1 (w.heap.size + 1 + 1) 0 0 0 := BtAt.below (BtAt.newAt _ (w.heap.size + 1 + 1) (by simp) _ _ _ _) hb1 (Nat.le_refl _)
  have k1 := kk.trans (hb1.mono kk.size)
  have hz1 := R1.lt
  clear hb1 kk
  go_wp2_with fail
  refine (codedBath_any hev _ _ _ _ (hE.below k1 (Nat.le_refl _))).mono ?_; rintro e w2 ⟨rfl, hb2⟩
  have R2 := R1.below hb2 (Nat.le_refl _)
  have k2 := k1.trans (hb2.mono k1.size)
  have hz2 := R2.lt
  clear hb2 R1 k1 hz1
  have R9 := R2
  obtain ⟨r0, r1, r2, y0, y1, y2⟩ := R9
  go_wp2_with fail
  obtain ⟨W2, e2, D2, kk2⟩ := R2.stored k2 (by omega) V0 V1 V2
  rw [← e2]
  clear e2
  obtain ⟨c0, c1, c2, _, _, _⟩ := D2
  exact bodyPost_ret (v := .tuple #[batV V0 V1 V2, .int .i64 C]) (by simp [results, Tryd.results25, go_sem, c0, c1, c2]) rfl ⟨rfl, kk2⟩

set_option maxRecDepth 100000 in
set_option maxHeartbeats 1000000 in
theorem newBath_any (z : Ers) (vol : Int) (hb : -128 ≤ b) (hb' : b ≤ 127) (ht : -128 ≤ t) (ht' : t ≤ 127) (w : World) (hE : ErrEnv z w) :
    Calls Tryd.prog 39 #[devV p k b t, .int .i64 vol] w (BathErr z (newC p k b t vol) vol 0 0 w) := by
  have hdv := fun W => ValidDeveloper_any p k b t hb hb' ht ht' W
  have ci := hE.c_einvalid
  have cr := hE.c_erange
  clear hE
  unfold BathErr newC
  rcases h1 : devOk p k b t with _ | _
  · rw [h1] at hdv
    have Hdv := Lib.hid hdv; clear hdv h1 cr
    have lt_i := cell_ltB ci
    simp only [Bool.false_eq_true, if_false, ifC_1]
    go_enter Tryd.func39, Tryd.ntmps39
    go_wp2_with fail
    refine (Hdv.out _).mono ?_; rintro e w1 ⟨rfl, hb1⟩
    obtain ⟨hc1, hf1⟩ := bcell hb1
    have hz1 : w.heap.size + 1 < w1.heap.size := by have := hb1.size; simp at this; omega
    have hz1a : w.heap.size < w1.heap.size := by omega
    have hz1b : w.heap.size + 1 < w1.heap.size := by omega
    have k1 : Below w.heap.size w w1 := by
      refine Below.trans ?_ (hb1.mono (by simp; try omega))
      repeat (first | exact Below.refl _ _ | assumption | apply Below.drew | apply below_drewB | (refine Below.alloc ?_ (by first | omega | (simp; done) | (simp; omega)) _) | (refine Below.setCell ?_ (by first | omega | (simp; done) | (simp; omega)) _))
    have ce1 := below_cellOf k1 ci (Nat.le_refl _)
    go_wp2_with fail
    go_region
    all_goals
      go_wp2
      refine bodyPost_ret (v := .tuple #[batV 0 0 0, errV z.einvalid]) (by simp [results, Tryd.results39, go_sem, hc1, hz1]) rfl ⟨_, rfl, .einvalid, ?_⟩
      repeat (first | exact Below.refl _ _ | assumption | apply Below.drew | apply below_drewB | (refine Below.alloc ?_ (by first | omega | (simp; done) | (simp; omega)) _) | (refine Below.setCell ?_ (by first | omega | (simp; done) | (simp; omega)) _))
  · rw [h1] at hdv
    have Hdv := Lib.hid hdv; clear hdv h1 ci
    have lt_i := cell_ltB cr
    have lt_0 : 0 < w.heap.size := by omega
    rcases h2 : inB vol 1 20000 with _ | _
    · simp only [Bool.false_eq_true, if_false, if_true, ifC_2]
      go_enter Tryd.func39, Tryd.ntmps39
      go_wp2_with fail
      refine (Hdv.out _).mono ?_; rintro e w1 ⟨rfl, hb1⟩
      obtain ⟨hc1, hf1⟩ := bcell hb1
      have hz1 : w.heap.size + 1 < w1.heap.size := by have := hb1.size; simp at this; omega
      have hz1a : w.heap.size < w1.heap.size := by omega
      have hz1b : w.heap.size + 1 < w1.heap.size := by omega
      have k1 : Below w.heap.size w w1 := by
        refine Below.trans ?_ (hb1.mono (by simp; try omega))
        repeat (first | exact Below.refl _ _ | assumption | apply Below.drew | apply below_drewB | (refine Below.alloc ?_ (by first | omega | (simp; done) | (simp; omega)) _) | (refine Below.setCell ?_ (by first | omega | (simp; done) | (simp; omega)) _))
      have ce1 := below_cellOf k1 cr (Nat.le_refl _)
      go_wp2_with fail
      refine (inRange_any _ _ _ _).mono ?_; rintro e w2 ⟨rfl, rfl⟩
      go_wp2_with fail
      go_region
      all_goals
        go_wp2
        refine bodyPost_ret (v := .tuple #[batV 0 0 0, errV z.erange]) (by simp [results, Tryd.results39, go_sem, hc1, hz1]) rfl ⟨_, rfl, .erange, ?_⟩
        repeat (first | exact Below.refl _ _ | assumption | apply Below.drew | apply below_drewB | (refine Below.alloc ?_ (by first | omega | (simp; done) | (simp; omega)) _) | (refine Below.setCell ?_ (by first | omega | (simp; done) | (simp; omega)) _))
    · simp only [if_true, ifC_0]
      go_enter Tryd.func39, Tryd.ntmps39
      go_wp2_with fail
      refine (Hdv.out _).mono ?_; rintro e w1 ⟨rfl, hb1⟩
      obtain ⟨hc1, hf1⟩ := bcell hb1
      have hz1 : w.heap.size + 1 < w1.heap.size := by have := hb1.size; simp at this; omega
      have hz1a : w.heap.size < w1.heap.size := by omega
      have hz1b : w.heap.size + 1 < w1.heap.size := by omega
      have k1 : Below w.heap.size w w1 := by
        refine Below.trans ?_ (hb1.mono (by simp; try omega))
        repeat (first | exact Below.refl _ _ | assumption | apply Below.drew | apply below_drewB | (refine Below.alloc ?_ (by first | omega | (simp; done) | (simp; omega)) _) | (refine Below.setCell ?_ (by first | omega | (simp; done) | (simp; omega)) _))
      go_wp2_with fail
      refine (inRange_any _ _ _ _).mono ?_; rintro e w2 ⟨rfl, rfl⟩
      go_wp2_with fail
      refine bodyPost_ret (v := .tuple #[batV vol 0 0, .nilIface]) (by simp [results, Tryd.results39, go_sem, hc1, hz1]) rfl ⟨_, rfl, .ok, ?_⟩
      repeat (first | exact Below.refl _ _ | assumption | apply Below.drew | apply below_drewB | (refine Below.alloc ?_ (by first | omega | (simp; done) | (simp; omega)) _) | (refine Below.setCell ?_ (by first | omega | (simp; done) | (simp; omega)) _))

set_option maxRecDepth 100000 in
set_option maxHeartbeats 1000000 in
theorem NewBath_any (z : Ers) (vol : Int) (hb : -128 ≤ b) (hb' : b ≤ 127) (ht : -128 ≤ t) (ht' : t ≤ 127) (w : World) (hE : ErrEnv z w) :
    Calls Tryd.prog 15 #[devV p k b t, .int .i64 vol] w (BathCode (newC p k b t vol) vol 0 0 w) := by
  have kk := below_2 w (.cells #[.int .i64 p, .int .i64 k, .int .i8 b, .int .i8 t] 29) (.cells #[.int .i64 0, .int .i64 0, .int .i64 0] 26)
  have hba := fun W hE => newBath_any (p := p) (k := k) (b := b) (t := t) z vol hb hb' ht ht' W hE
  unfold BathErr at hba
  unfold BathCode
  generalize newC p k b t vol = C at *
  generalize ifC C vol = V0 at *
  generalize ifC C 0 = V1 at *
  have Hba := Lib.hid hba; clear hba
  go_enter Tryd.func15, Tryd.ntmps15
  go_wp2_with fail
  refine (Hba.out _ (hE.below kk (Nat.le_refl _))).mono ?_; rintro e w1 ⟨ev, rfl, hev, hb1⟩
  have R1 : BtAt w1 (w.heap.size + 1) 0 0 0 := BtAt.below (BtAt.newAt _ (w.heap.size + 1) (by simp) _ _ _ _) hb1 (Nat.le_refl _)
  have k1 := kk.trans (hb1.mono kk.size)
  have hz1 := R1.lt
  clear hb1 kk
  go_wp2_with fail
  refine (codedBath_any hev _ _ _ _ (hE.below k1 (Nat.le_refl _))).mono ?_; rintro e w2 ⟨rfl, hb2⟩
  have R2 := R1.below hb2 (Nat.le_refl _)
  have k2 := k1.trans (hb2.mono k1.size)
  have hz2 := R2.lt
  clear hb2 R1 k1 hz1
  have R9 := R2
  obtain ⟨r0, r1, r2, y0, y1, y2⟩ := R9
  go_wp2_with fail
  obtain ⟨W2, e2, D2, kk2⟩ := R2.stored k2 (by omega) V0 V1 V1
  rw [← e2]
  clear e2
  obtain ⟨c0, c1, c2, _, _, _⟩ := D2
  exact bodyPost_ret (v := .tuple #[batV V0 V1 V1, .int .i64 C]) (by simp [results, Tryd.results15, go_sem, c0, c1, c2]) rfl ⟨rfl, kk2⟩

end
end Go.Proofs.YtkeeecaicoaljaaDoor

/-
  Baths behind a deed: what the program returns. Condition: its errors, and its table of times.
-/
import Derived.Test.YtkgjkjecfpmlnaaDoorAfter
namespace Go.Proofs.YtkgjkjecfpmlnaaDoor
open Go.RowKit

/-- A bath and an error. -/
def BathErr (z : Ers) (C v u a : Int) (w : World) (e : Ending) (w' : World) : Prop :=
  ∃ ev, e = .returned (.tuple #[batV (ifC C v) (ifC C u) (ifC C a), ev]) ∧ IsCode z ev C ∧ Below w.heap.size w w'
/-- A bath and a code. -/
def BathCode (C v u a : Int) (w : World) (e : Ending) (w' : World) : Prop :=
  e = .returned (.tuple #[batV (ifC C v) (ifC C u) (ifC C a), .int .i64 C]) ∧ Below w.heap.size w w'

section
variable {p k b t v u a : Int}

set_option maxRecDepth 100000 in
set_option maxHeartbeats 2000000 in
theorem bathAfter_no (z : Ers) (dv : Value) (v' u' a' : Int) (hb : -128 ≤ b) (hb' : b ≤ 127) (ht : -128 ≤ t) (ht' : t ≤ 127) (h : bathOk p k b t v u a = false) (w : World) (hE : ErrEnv z w) :
    Calls Tryd.prog 32 #[devV p k b t, batV v u a, dv] w (BathErr z 1 v' u' a' w) := by
  have hto := fun W hE => trayOf_no z hb hb' ht ht' h W hE
  have Hto := Lib.hid hto; clear hto h
  have ne := errNeB
  have HE := Lib.hid hE; clear hE
  have kk := below_2 w (.cells #[.int .i64 p, .int .i64 k, .int .i8 b, .int .i8 t] 26) (.cells #[.int .i64 v, .int .i64 u, .int .i64 a] 28)
  have kk := kk.alloc kk.size (.cells #[.int .i64 0, .int .i64 0, .int .i64 0] 28)
  unfold BathErr
  simp only [ifC_1]
  go_enter Tryd.func32, Tryd.ntmps32
  go_wp2_with fail
  refine (Hto.out _ (HE.out.below kk (Nat.le_refl _))).mono ?_; rintro e w1 ⟨rfl, hb1⟩
  have R1 : BtAt w1 (w.heap.size + 1 + 1) 0 0 0 := BtAt.below (BtAt.newAt _ (w.heap.size + 1 + 1) (by simp) _ _ _ _) hb1 (Nat.le_refl _)
  have k1 := kk.trans (hb1.mono kk.size)
  have hz1 := R1.lt
  clear hb1 kk
  have R9 := R1
  obtain ⟨r0, r1, r2, y0, y1, y2⟩ := R9
  go_wp2_with fail
  obtain ⟨W2, e2, D2, kk2⟩ := R1.stored k1 (by omega) 0 0 0
  rw [← e2]
  clear e2
  obtain ⟨c0, c1, c2, _, _, _⟩ := D2.alloc (.cells #[.int .i64 0, .int .i64 0, .int .i8 0, .int .i8 0, .int .i64 0, .int .i64 0, .int .i64 0] 82)
  exact bodyPost_ret (v := .tuple #[batV 0 0 0, errV z.einvalid]) (by simp [results, Tryd.results32, go_sem, c0, c1, c2]) rfl ⟨_, rfl, .einvalid, kk2.alloc kk2.size _⟩

set_option maxRecDepth 100000 in
set_option maxHeartbeats 2000000 in
theorem bathAfter_yes (z : Ers) (dv : Value) (C v' u' a' : Int) (h : BOk p k b t v u a) (w : World) (haf : ∀ W, Below w.heap.size w W → Calls Tryd.prog 51 #[trayV p k b t v u a, dv] W (AfterOut z C p k b t v' u' a' W)) :
    Calls Tryd.prog 32 #[devV p k b t, batV v u a, dv] w (BathErr z C v' u' a' w) := by
  have hto := fun W => trayOf_yes h W
  have Hto := Lib.hid hto; clear hto h
  have nn := nilNeB
  have kk := below_2 w (.cells #[.int .i64 p, .int .i64 k, .int .i8 b, .int .i8 t] 26) (.cells #[.int .i64 v, .int .i64 u, .int .i64 a] 28)
  have kk := kk.alloc kk.size (.cells #[.int .i64 0, .int .i64 0, .int .i64 0] 28)
  unfold BathErr
  unfold AfterOut at haf
  generalize ifC C p = P at haf
  generalize ifC C k = K at haf
  generalize ifC C b = B at haf
  generalize ifC C t = T at haf
  generalize ifC C v' = V at haf ⊢
  generalize ifC C u' = U at haf ⊢
  generalize ifC C a' = X at haf ⊢
  have Haf := Lib.hid haf; clear haf
  go_enter Tryd.func32, Tryd.ntmps32
  go_wp2_with fail
  refine (Hto.out _).mono ?_; rintro e w1 ⟨rfl, hb1⟩
  have R1 : BtAt w1 (w.heap.size + 1 + 1) 0 0 0 := BtAt.below (BtAt.newAt _ (w.heap.size + 1 + 1) (by simp) _ _ _ _) hb1 (Nat.le_refl _)
  have k1 := kk.trans (hb1.mono kk.size)
  have hz1 := R1.lt
  clear hb1 kk
  have R2 := R1.alloc (.cells #[.int .i64 p, .int .i64 k, .int .i8 b, .int .i8 t, .int .i64 v, .int .i64 u, .int .i64 a] 82)
  have k2 := k1.alloc k1.size (.cells #[.int .i64 p, .int .i64 k, .int .i8 b, .int .i8 t, .int .i64 v, .int .i64 u, .int .i64 a] 82)
  go_wp2_with fail
  refine (Haf.out _ k2).mono ?_; rintro e w3 ⟨ev, rfl, hev, hb3⟩
  have R3 := R2.below hb3 (Nat.le_refl _)
  have k3 := k2.trans (hb3.mono k2.size)
  have hz3 := R3.lt
  clear hb3 R1 R2 k1 k2 hz1
  have R9 := R3
  obtain ⟨r0, r1, r2, y0, y1, y2⟩ := R9
  go_wp2_with fail
  obtain ⟨W2, e2, D2, kk2⟩ := R3.stored k3 (by omega) V U X
  rw [← e2]
  clear e2
  obtain ⟨c0, c1, c2, _, _, _⟩ := D2.alloc (.cells #[.int .i64 P, .int .i64 K, .int .i8 B, .int .i8 T, .int .i64 V, .int .i64 U, .int .i64 X] 82)
  exact bodyPost_ret (v := .tuple #[batV V U X, ev]) (by simp [results, Tryd.results32, go_sem, c0, c1, c2]) rfl ⟨_, rfl, hev, kk2.alloc kk2.size _⟩

set_option maxRecDepth 100000 in
set_option maxHeartbeats 2000000 in
theorem Replenish_any (z : Ers) (n : Int) (hb : -128 ≤ b) (hb' : b ≤ 127) (ht : -128 ≤ t) (ht' : t ≤ 127) (w : World) (hE : ErrEnv z w) :
    Calls Tryd.prog 9 #[devV p k b t, batV v u a, .int .i64 n] w (BathCode (fillC p k b t v u a n) v (left u v n) (left a v n) w) := by
  have kk := below_2 w (.cells #[.int .i64 p, .int .i64 k, .int .i8 b, .int .i8 t] 26) (.cells #[.int .i64 v, .int .i64 u, .int .i64 a] 28)
  have kk := kk.alloc kk.size (.cells #[.int .i64 0, .int .i64 0, .int .i64 0] 28)
  have hba : ∀ W, Below w.heap.size w W → Calls Tryd.prog 32 #[devV p k b t, batV v u a, filV n] W (BathErr z (fillC p k b t v u a n) v (left u v n) (left a v n) W) := by
    intro W hB
    rw [fillC_eq]
    rcases h1 : bathOk p k b t v u a with _ | _
    · simp only [Bool.false_eq_true, if_false]
      exact bathAfter_no z _ _ _ _ hb hb' ht ht' h1 W (hE.below hB (Nat.le_refl _))
    · simp only [if_true]
      have h := bathOk_true.1 h1
      exact bathAfter_yes z _ _ _ _ _ h W (fun W' hB' => after_fill z n h W' (hE.below (hB.trans (hB'.mono hB.size)) (Nat.le_refl _)))
  unfold BathErr at hba
  unfold BathCode
  generalize fillC p k b t v u a n = C at *
  generalize ifC C v = V0 at *
  generalize ifC C (left u v n) = V1 at *
  generalize ifC C (left a v n) = V2 at *
  have Hba := Lib.hid hba; clear hba
  go_enter Tryd.func9, Tryd.ntmps9
  go_wp2_with fail
  refine (Hba.out _ kk).mono ?_; rintro e w1 ⟨ev, rfl, hev, hb1⟩
  have R1 : BtAt w1 (w.heap.size + 1 + 1) 0 0 0 := BtAt.below (BtAt.newAt _ (w.heap.size + 1 + 1) (by simp) _ _ _ _) hb1 (Nat.le_refl _)
  have k1 := kk.trans (hb1.mono kk.size)
  have hz1 := R1.lt
  clear hb1 kk
  go_wp2_with fail
  refine (codedBath_any hev _ _ _ _ (hE.below k1 (Nat.le_refl _))).mono ?_; rintro e w2 ⟨rfl, hb2⟩
  have R2 := R1.below hb2 (Nat.le_refl _)
  have k2 := k1.trans (hb2.mono k1.size)
  have hz2 := R2.lt
  clear hb2 R1 k1 hz1
  have R9 := R2
  obtain ⟨r0, r1, r2, y0, y1, y2⟩ := R9
  go_wp2_with fail
  obtain ⟨W2, e2, D2, kk2⟩ := R2.stored k2 (by omega) V0 V1 V2
  rw [← e2]
  clear e2
  obtain ⟨c0, c1, c2, _, _, _⟩ := D2
  exact bodyPost_ret (v := .tuple #[batV V0 V1 V2, .int .i64 C]) (by simp [results, Tryd.results9, go_sem, c0, c1, c2]) rfl ⟨rfl, kk2⟩

set_option maxRecDepth 100000 in
set_option maxHeartbeats 2000000 in
theorem DevelopSheet_any (z : Ers) (n : Int) (hb : -128 ≤ b) (hb' : b ≤ 127) (ht : -128 ≤ t) (ht' : t ≤ 127) (w : World) (hT : TimEnv w) (hE : ErrEnv z w) :
    Calls Tryd.prog 22 #[devV p k b t, batV v u a, .int .i64 n] w (BathCode (sheetC p k b t v u a n) v (u + n) a w) := by
  have kk := below_2 w (.cells #[.int .i64 p, .int .i64 k, .int .i8 b, .int .i8 t] 26) (.cells #[.int .i64 v, .int .i64 u, .int .i64 a] 28)
  have kk := kk.alloc kk.size (.cells #[.int .i64 0, .int .i64 0, .int .i64 0] 28)
  have hba : ∀ W, Below w.heap.size w W → Calls Tryd.prog 32 #[devV p k b t, batV v u a, shtV n] W (BathErr z (sheetC p k b t v u a n) v (u + n) a W) := by
    intro W hB
    rw [sheetC_eq]
    rcases h1 : bathOk p k b t v u a with _ | _
    · simp only [Bool.false_eq_true, if_false]
      exact bathAfter_no z _ _ _ _ hb hb' ht ht' h1 W (hE.below hB (Nat.le_refl _))
    · simp only [if_true]
      have h := bathOk_true.1 h1
      exact bathAfter_yes z _ _ _ _ _ h W (fun W' hB' => after_sheet z n h W' (hT.below (hB.trans (hB'.mono hB.size)) (Nat.le_refl _)) (hE.below (hB.trans (hB'.mono hB.size)) (Nat.le_refl _)))
  unfold BathErr at hba
  unfold BathCode
  generalize sheetC p k b t v u a n = C at *
  generalize ifC C v = V0 at *
  generalize ifC C (u + n) = V1 at *
  generalize ifC C a = V2 at *
  have Hba := Lib.hid hba; clear hba
  go_enter Tryd.func22, Tryd.ntmps22
  go_wp2_with fail
  refine (Hba.out _ kk).mono ?_; rintro e w1 ⟨ev, rfl, hev, hb1⟩
  have R1 : BtAt w1 (w.heap.size + 1 + 1) 0 0 0 := BtAt.below (BtAt.newAt _ (w.heap.size + 1 + 1) (by simp) _ _ _ _) hb1 (Nat.le_refl _)
  have k1 := kk.trans (hb1.mono kk.size)
  have hz1 := R1.lt
  clear hb1 kk
  go_wp2_with fail
  refine (codedBath_any hev _ _ _ _ (hE.below k1 (Nat.le_refl _))).mono ?_; rintro e w2 ⟨rfl, hb2⟩
  have R2 := R1.below hb2 (Nat.le_refl _)
  have k2 := k1.trans (hb2.mono k1.size)
  have hz2 := R2.lt
  clear hb2 R1 k1 hz1
  have R9 := R2
  obtain ⟨r0, r1, r2, y0, y1, y2⟩ := R9
  go_wp2_with fail
  obtain ⟨W2, e2, D2, kk2⟩ := R2.stored k2 (by omega) V0 V1 V2
  rw [← e2]
  clear e2
  obtain ⟨c0, c1, c2, _, _, _⟩ := D2
  exact bodyPost_ret (v := .tuple #[batV V0 V1 V2, .int .i64 C]) (by simp [results, Tryd.results22, go_sem, c0, c1, c2]) rfl ⟨rfl, kk2⟩

end
end Go.Proofs.YtkgjkjecfpmlnaaDoor

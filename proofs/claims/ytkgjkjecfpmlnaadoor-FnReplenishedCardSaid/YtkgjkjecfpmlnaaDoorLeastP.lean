/-
  The least that has to be replaced before each sheet: plain, and the boxes beside a list that grows. No condition.
-/
import Derived.Test.YtkgjkjecfpmlnaaDoorSheetsI
import Derived.Test.YtkgjkjecfpmlnaaDoorMetered0
namespace Go.Proofs.YtkgjkjecfpmlnaaDoor
open Go.RowKit

section
variable {w w' : World} {row : Option Nat}
theorem TrAt.far {i : Nat} {p k b t v u a : Int} (h : TrAt w i p k b t v u a) (hg : w.grownBy w' row) (hne : some i ≠ row) : TrAt w' i p k b t v u a :=
  have e : ∀ o, w'.cell? ⟨i, o, none⟩ = w.cell? ⟨i, o, none⟩ := fun o => World.cell?_of_block (hg.block i h.lt hne)
  ⟨(e 0).trans h.c0, (e 1).trans h.c1, (e 2).trans h.c2, (e 3).trans h.c3, (e 4).trans h.c4, (e 5).trans h.c5, (e 6).trans h.c6, fun o => (World.frozen?_of_block (a := ⟨i, o, none⟩) (hg.block i h.lt hne)).trans (h.fz o)⟩
theorem DvAt.far {i : Nat} {p k b t : Int} (h : DvAt w i p k b t) (hg : w.grownBy w' row) (hne : some i ≠ row) : DvAt w' i p k b t :=
  have e : ∀ o, w'.cell? ⟨i, o, none⟩ = w.cell? ⟨i, o, none⟩ := fun o => World.cell?_of_block (hg.block i (cell_ltB h.c0) hne)
  ⟨(e 0).trans h.c0, (e 1).trans h.c1, (e 2).trans h.c2, (e 3).trans h.c3⟩
theorem BtAt.far {i : Nat} {v u a : Int} (h : BtAt w i v u a) (hg : w.grownBy w' row) (hne : some i ≠ row) : BtAt w' i v u a :=
  have e : ∀ o, w'.cell? ⟨i, o, none⟩ = w.cell? ⟨i, o, none⟩ := fun o => World.cell?_of_block (hg.block i h.lt hne)
  have f : ∀ o, w'.frozen? ⟨i, o, none⟩ = w.frozen? ⟨i, o, none⟩ := fun o => World.frozen?_of_block (hg.block i h.lt hne)
  ⟨(e 0).trans h.c0, (e 1).trans h.c1, (e 2).trans h.c2, (f 0).trans h.f0, (f 1).trans h.f1, (f 2).trans h.f2⟩
theorem cell_farL {i : Nat} {x : Value} (h : w.cell? ⟨i, 0, none⟩ = some x) (hg : w.grownBy w' row) (hne : some i ≠ row) : w'.cell? ⟨i, 0, none⟩ = some x :=
  (hg.cell_far ⟨i, 0, none⟩ (cell_ltB h) hne).trans h
end

/-! ### PLAIN -/
def lrQ (p k b t v sl u a s : Int) (m : Nat) : Bool := readyB p k b t v (left u v m) (left a v m) s sl
def lrM (p k b t v sl u a s : Int) : Nat := least (lrQ p k b t v sl u a s) (v.toNat + 1)
/-- What is used, and the age, before the sheet j. -/
def lrS (p k b t v sl : Int) (xs : Nat → Int) (u a : Int) : Nat → Int × Int
  | 0 => (u, a)
  | j + 1 => (left (lrS p k b t v sl xs u a j).1 v (lrM p k b t v sl (lrS p k b t v sl xs u a j).1 (lrS p k b t v sl xs u a j).2 (xs j)) + xs j,
      left (lrS p k b t v sl xs u a j).2 v (lrM p k b t v sl (lrS p k b t v sl xs u a j).1 (lrS p k b t v sl xs u a j).2 (xs j)))
def lrJ (p k b t v sl : Int) (xs : Nat → Int) (u a : Int) (j : Nat) : Nat := lrM p k b t v sl (lrS p k b t v sl xs u a j).1 (lrS p k b t v sl xs u a j).2 (xs j)
def lrL (J : Nat → Nat) : Nat → List Int
  | 0 => []
  | j + 1 => lrL J j ++ [(J j : Int)]
def lrT (J : Nat → Nat) : Nat → Int
  | 0 => 0
  | j + 1 => lrT J j + J j
/-- The first sheet that is not to be had. -/
def lrF (J : Nat → Nat) (v : Int) (n : Nat) : Nat := least (fun j => decide (v < (J j : Int))) n
def lrC (J : Nat → Nat) (v : Int) (n : Nat) (c : Int) : Int := if c = 0 then (if lrF J v n < n then 6 else 0) else c
def lrR (J : Nat → Nat) (v : Int) (n : Nat) (c : Int) : List Int := if lrC J v n c = 0 then lrL J n else []
def lrV (J : Nat → Nat) (v : Int) (n : Nat) (c : Int) : Int := if lrC J v n c = 0 then lrT J n else 0
theorem lrL_len (J : Nat → Nat) : ∀ n, (lrL J n).length = n
  | 0 => rfl
  | n + 1 => by simp [lrL, lrL_len J n]
theorem lrR_len (J : Nat → Nat) (v : Int) (n : Nat) (c : Int) : (lrR J v n c).length ≤ n := by
  unfold lrR
  split
  · rw [lrL_len]; exact Nat.le_refl _
  · simp
theorem lr_no {J : Nat → Nat} {v : Int} {n : Nat} {c : Int} (h : c ≠ 0) : lrC J v n c = c ∧ lrR J v n c = [] ∧ lrV J v n c = 0 := by
  have : lrC J v n c = c := if_neg h
  exact ⟨this, by unfold lrR; rw [this, if_neg h], by unfold lrV; rw [this, if_neg h]⟩
theorem lr_not {J : Nat → Nat} {v : Int} {n j : Nat} (hj : j < n) (hM : ∀ i, i < j → (J i : Int) ≤ v) (h : v < (J j : Int)) : lrC J v n 0 = 6 ∧ lrR J v n 0 = [] ∧ lrV J v n 0 = 0 := by
  have e : lrF J v n = j := least_eq (by omega) (fun i hi => decide_eq_false (by have := hM i hi; omega)) (fun _ => decide_eq_true h)
  have : lrC J v n 0 = 6 := by unfold lrC; rw [e, if_pos rfl, if_pos hj]
  exact ⟨this, by unfold lrR; rw [this, if_neg (by decide)], by unfold lrV; rw [this, if_neg (by decide)]⟩
theorem lr_yes {J : Nat → Nat} {v : Int} {n : Nat} (hM : ∀ i, i < n → (J i : Int) ≤ v) : lrC J v n 0 = 0 ∧ lrR J v n 0 = lrL J n ∧ lrV J v n 0 = lrT J n := by
  have e : lrF J v n = n := least_eq (Nat.le_refl _) (fun i hi => decide_eq_false (by have := hM i hi; omega)) (fun h => absurd h (Nat.lt_irrefl _))
  have : lrC J v n 0 = 0 := by unfold lrC; rw [e, if_pos rfl, if_neg (Nat.lt_irrefl _)]
  exact ⟨this, by unfold lrR; rw [this, if_pos rfl], by unfold lrV; rw [this, if_pos rfl]⟩

section
variable {p k b t v u a s sl : Int}
theorem lrQ_mono (h : BOk p k b t v u a) (hs : 0 ≤ s) : ∀ x y : Nat, x ≤ y → (y : Int) ≤ v → lrQ p k b t v sl u a s x = true → lrQ p k b t v sl u a s y = true := fun x y hxy hy hx => by
  have hfx := h.fill (m := x) (by omega) (by omega)
  have hro := ready_ok hfx hx
  have hm := fill_mono h (m := x) (m' := y) (by omega) (by omega) hy
  have h5 := slw_mono hfx.strn_bd.1 hm
  have l1 := left_mono h.u0 h.v0 (m := x) (m' := y) (by omega) (by omega) hy
  have l2 := left_mono h.a0 h.v0 (m := x) (m' := y) (by omega) (by omega) hy
  have b1 := left_bd h.u0 h.v0 (m := y) (by omega) hy
  have b2 := left_bd h.a0 h.v0 (m := y) (by omega) hy
  have r0 := hro.1.u1
  have r1 := hro.1.a1
  have r2 := hro.1.room
  have hbd := slw_bd (strn p k v (left u v x) (left a v x))
  have hB : BOk p k b t v (left u v y + s) (left a v y) := { hro.1 with u0 := by omega, u1 := by omega, a0 := b2.1, a1 := by omega, room := by omega }
  show readyB p k b t v (left u v y) (left a v y) s sl = true
  unfold readyB sheetB
  simp only [Bool.and_eq_true, decide_eq_true_eq]
  exact ⟨by omega, by omega, bathOk_true.2 hB⟩
theorem lr_step (h : BOk p k b t v u a) (hm : (lrM p k b t v sl u a s : Int) ≤ v) : lrQ p k b t v sl u a s (lrM p k b t v sl u a s) = true ∧ BOk p k b t v (left u v (lrM p k b t v sl u a s) + s) (left a v (lrM p k b t v sl u a s)) := by
  have hls := least_spec (n := v.toNat + 1) (q := lrQ p k b t v sl u a s)
  have hv := h.v0
  have hq := hls.2.2 (by show lrM p k b t v sl u a s < v.toNat + 1; omega)
  exact ⟨hq, (ready_ok (h.fill (by omega) hm) hq).1⟩

set_option maxRecDepth 100000 in
/-- The reference's sheet behind m millilitres, every value written out. -/
theorem lrReady_any (hs : 0 ≤ s) (hs' : s ≤ 5000) (h0 : 0 ≤ sl) (h1 : sl ≤ 36) (h : BOk p k b t v u a) :
    ∃ V0 V1 V2 : Nat → Int, (∀ m : Nat, (m : Int) ≤ v → lrQ p k b t v sl u a s m = true → V0 m = v ∧ V1 m = left u v m + s ∧ V2 m = left a v m) ∧
      (∀ (m : Nat) (u' a' : Int), (m : Int) ≤ v → u' = left u v m → a' = left a v m → ∀ W, Calls Tryd.prog 35 #[devV p k b t, batV v u' a', .int .i64 s, .int .i64 sl] W fun e w' => e = .returned (.tuple #[batV (V0 m) (V1 m) (V2 m), .bool (lrQ p k b t v sl u a s m)]) ∧ Below W.heap.size W w') := by
  refine ⟨fun m => ifR (slw (strn p k v (left u v m) (left a v m))) sl v, fun m => ifR (slw (strn p k v (left u v m) (left a v m))) sl (left u v m + s), fun m => ifR (slw (strn p k v (left u v m) (left a v m))) sl (left a v m), fun m hm hq => ?_, ?_⟩
  · have hro := ready_ok (h.fill (by omega) hm) hq
    have hv : ∀ x, ifR (slw (strn p k v (left u v m) (left a v m))) sl x = x := fun x => if_neg (by omega)
    exact ⟨hv _, hv _, hv _⟩
  · rintro m _ _ hm rfl rfl W
    exact l04Ready_fix s sl hs hs' h0 h1 (h.fill (by omega) hm) W

end
end Go.Proofs.YtkgjkjecfpmlnaaDoor

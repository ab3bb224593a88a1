/-
  Baths that are new, used, rested, replenished, mixed: what the reference returns. No condition beside the bounds of the numbers' kinds.
-/
import Derived.Test.YtkgjkjecfpmlnaaDoorTray
import Derived.Test.YtkgjkjecfpmlnaaDoorQuietTail
namespace Go.Proofs.YtkgjkjecfpmlnaaDoor
open Go.RowKit

/-- A bath in the block j, which may be written. -/
structure BtAt (W : World) (j : Nat) (v u a : Int) : Prop where
  c0 : W.cell? ⟨j, 0, none⟩ = some (.int .i64 v)
  c1 : W.cell? ⟨j, 1, none⟩ = some (.int .i64 u)
  c2 : W.cell? ⟨j, 2, none⟩ = some (.int .i64 a)
  f0 : W.frozen? ⟨j, 0, none⟩ = false
  f1 : W.frozen? ⟨j, 1, none⟩ = false
  f2 : W.frozen? ⟨j, 2, none⟩ = false
theorem BtAt.lt {w : World} {j : Nat} {v u a : Int} (h : BtAt w j v u a) : j < w.heap.size := cell_ltB h.c0
theorem BtAt.below {w w' : World} {j B : Nat} {v u a : Int} (h : BtAt w j v u a) (hb : Below B w w') (hB : w.heap.size ≤ B) : BtAt w' j v u a :=
  have hl := Nat.lt_of_lt_of_le h.lt hB
  ⟨below_cellOf hb h.c0 hB, below_cellOf hb h.c1 hB, below_cellOf hb h.c2 hB, frz_below h.f0 hb hl, frz_below h.f1 hb hl, frz_below h.f2 hb hl⟩
theorem BtAt.newAt (w : World) (j : Nat) (hj : j = w.heap.size) (T : TypeId) (v u a : Int) : BtAt (w.alloc (.cells #[.int .i64 v, .int .i64 u, .int .i64 a] T)) j v u a := by
  subst hj; exact ⟨by simp, by simp, by simp, by simp, by simp, by simp⟩
theorem BtAt.alloc {w : World} {j : Nat} {v u a : Int} (h : BtAt w j v u a) (o : Obj) : BtAt (w.alloc o) j v u a := h.below ((Below.refl _ _).alloc (Nat.le_refl _) o) (Nat.le_refl _)
theorem BtAt.setNe {W : World} {j : Nat} {v u a : Int} (h : BtAt W j v u a) {p : Addr} (hp : p.block ≠ j) (x : Value) : BtAt (W.setCell p x) j v u a :=
  have hn : ∀ o, p ≠ (⟨j, o, none⟩ : Addr) := fun o e => hp (by rw [e])
  ⟨(World.cell?_setCell_other W p _ x (hn 0)).trans h.c0, (World.cell?_setCell_other W p _ x (hn 1)).trans h.c1, (World.cell?_setCell_other W p _ x (hn 2)).trans h.c2, frz_set h.f0, frz_set h.f1, frz_set h.f2⟩
theorem BtAt.set0 {W : World} {j : Nat} {v u a : Int} (h : BtAt W j v u a) (x : Int) : BtAt (W.setCell ⟨j, 0, none⟩ (.int .i64 x)) j x u a := ⟨sc_same h.c0, sc_other h.c1 (by simp), sc_other h.c2 (by simp), frz_set h.f0, frz_set h.f1, frz_set h.f2⟩
theorem BtAt.set1 {W : World} {j : Nat} {v u a : Int} (h : BtAt W j v u a) (x : Int) : BtAt (W.setCell ⟨j, 1, none⟩ (.int .i64 x)) j v x a := ⟨sc_other h.c0 (by simp), sc_same h.c1, sc_other h.c2 (by simp), frz_set h.f0, frz_set h.f1, frz_set h.f2⟩
theorem BtAt.set2 {W : World} {j : Nat} {v u a : Int} (h : BtAt W j v u a) (x : Int) : BtAt (W.setCell ⟨j, 2, none⟩ (.int .i64 x)) j v u x := ⟨sc_other h.c0 (by simp), sc_other h.c1 (by simp), sc_same h.c2, frz_set h.f0, frz_set h.f1, frz_set h.f2⟩
/-- All cells of a bath, stored. -/
theorem BtAt.stored {w W : World} {j B : Nat} {v u a : Int} (h : BtAt W j v u a) (hb : Below B w W) (hj : B ≤ j) (v' u' a' : Int) :
    ∃ W2, W2 = ((W.setCell ⟨j, 0, none⟩ (.int .i64 v')).setCell ⟨j, 1, none⟩ (.int .i64 u')).setCell ⟨j, 2, none⟩ (.int .i64 a') ∧ BtAt W2 j v' u' a' ∧ Below B w W2 :=
  ⟨_, rfl, ((h.set0 v').set1 u').set2 a', ((hb.setCell hj _).setCell hj _).setCell hj _⟩
/-- A developer in the block i. -/
structure DvAt (W : World) (i : Nat) (p k b t : Int) : Prop where
  c0 : W.cell? ⟨i, 0, none⟩ = some (.int .i64 p)
  c1 : W.cell? ⟨i, 1, none⟩ = some (.int .i64 k)
  c2 : W.cell? ⟨i, 2, none⟩ = some (.int .i8 b)
  c3 : W.cell? ⟨i, 3, none⟩ = some (.int .i8 t)
theorem DvAt.below {w w' : World} {i B : Nat} {p k b t : Int} (h : DvAt w i p k b t) (hb : Below B w w') (hB : w.heap.size ≤ B) : DvAt w' i p k b t :=
  ⟨below_cellOf hb h.c0 hB, below_cellOf hb h.c1 hB, below_cellOf hb h.c2 hB, below_cellOf hb h.c3 hB⟩
theorem DvAt.newAt (w : World) (i : Nat) (hi : i = w.heap.size) (T : TypeId) (p k b t : Int) : DvAt (w.alloc (.cells #[.int .i64 p, .int .i64 k, .int .i8 b, .int .i8 t] T)) i p k b t := by
  subst hi; exact ⟨by simp, by simp, by simp, by simp⟩
theorem DvAt.alloc {w : World} {i : Nat} {p k b t : Int} (h : DvAt w i p k b t) (o : Obj) : DvAt (w.alloc o) i p k b t := h.below ((Below.refl _ _).alloc (Nat.le_refl _) o) (Nat.le_refl _)
theorem DvAt.setNe {W : World} {i : Nat} {p k b t : Int} (h : DvAt W i p k b t) {q : Addr} (hp : q.block ≠ i) (x : Value) : DvAt (W.setCell q x) i p k b t :=
  have hn : ∀ o, q ≠ (⟨i, o, none⟩ : Addr) := fun o e => hp (by rw [e])
  ⟨(World.cell?_setCell_other W q _ x (hn 0)).trans h.c0, (World.cell?_setCell_other W q _ x (hn 1)).trans h.c1, (World.cell?_setCell_other W q _ x (hn 2)).trans h.c2, (World.cell?_setCell_other W q _ x (hn 3)).trans h.c3⟩

/-- A number where the code is OK, 0 otherwise. -/
def ifC (c x : Int) : Int := if c = 0 then x else 0
theorem ifC_0 (x : Int) : ifC 0 x = x := rfl
theorem ifC_1 (x : Int) : ifC 1 x = 0 := rfl
theorem ifC_2 (x : Int) : ifC 2 x = 0 := rfl
theorem ifC_3 (x : Int) : ifC 3 x = 0 := rfl
theorem ifC_4 (x : Int) : ifC 4 x = 0 := rfl

/-- The codes. -/
def newC (p k b t vol : Int) : Int := if devOk p k b t = true then (if inB vol 1 20000 = true then 0 else 2) else 1
def restC (p k b t v u a h : Int) : Int := if bathOk p k b t v u a = true then (if inB h 0 100000 = true then (if bathOk p k b t v u (a + h) = true then 0 else 4) else 2) else 1
def sheetB (p k b t v u a s : Int) : Bool := decide (slw (strn p k v u a) ≠ 37) && bathOk p k b t v (u + s) a
def sheetC (p k b t v u a s : Int) : Int := if bathOk p k b t v u a = true then (if inB s 1 5000 = true then (if sheetB p k b t v u a s = true then 0 else 4) else 2) else 1
def fillC (p k b t v u a m : Int) : Int := if bathOk p k b t v u a = true then (if inB m 0 v = true then 0 else 2) else 1
def mixA (v a v' a' : Int) : Int := (a * v + a' * v') / (v + v')
def mixC (p k b t v u a v' u' a' : Int) : Int := if bathOk p k b t v u a = true ∧ bathOk p k b t v' u' a' = true then (if bathOk p k b t (v + v') (u + u') (mixA v a v' a') = true then 0 else 3) else 1

section
variable {p k b t v u a : Int}

set_option maxRecDepth 100000 in
set_option maxHeartbeats 1000000 in
theorem l04Fill_any (m : Int) (h : BOk p k b t v u a) (hm : 0 ≤ m) (hm' : m ≤ v) (w : World) :
    Calls Tryd.prog 30 #[batV v u a, .int .i64 m] w fun e w' => e = .returned (batV v (left u v m) (left a v m)) ∧ Below w.heap.size w w' := by
  have hv0 := h.v0
  have hv1 := h.v1
  have hu0 := h.u0
  have hu1 := h.u1
  have ha0 := h.a0
  have ha1 := h.a1
  obtain ⟨mu0, mu1⟩ := left_mid (x := u) (v := v) (m := m) hu0 (by omega) hv0 hv1 hm hm'
  obtain ⟨ma0, ma1⟩ := left_mid (x := a) (v := v) (m := m) ha0 (by omega) hv0 hv1 hm hm'
  clear h
  unfold left
  generalize hU : u * (v - m) = U at *
  generalize hA : a * (v - m) = A at *
  go_enter Tryd.func30, Tryd.ntmps30
  go_wp2_with fail
  generalize hW : ((w.alloc (.cells #[.int .i64 v, .int .i64 u, .int .i64 a] 28)).alloc (.cells #[.int .i64 0, .int .i64 0, .int .i64 0] 28)) = W
  have c0 : W.cell? ⟨w.heap.size, 0, none⟩ = some (.int .i64 v) := by rw [← hW]; simp
  have c1 : W.cell? ⟨w.heap.size, 1, none⟩ = some (.int .i64 u) := by rw [← hW]; simp
  have c2 : W.cell? ⟨w.heap.size, 2, none⟩ = some (.int .i64 a) := by rw [← hW]; simp
  have r0 : W.cell? ⟨w.heap.size + 1, 0, none⟩ = some (.int .i64 0) := by rw [← hW]; simp
  have r1 : W.cell? ⟨w.heap.size + 1, 1, none⟩ = some (.int .i64 0) := by rw [← hW]; simp
  have r2 : W.cell? ⟨w.heap.size + 1, 2, none⟩ = some (.int .i64 0) := by rw [← hW]; simp
  have z0 : ∀ o, W.frozen? ⟨w.heap.size + 1, o, none⟩ = false := by intro o; rw [← hW]; simp
  have kW : Below w.heap.size w W := by rw [← hW]; exact ((Below.refl _ _).alloc (Nat.le_refl _) _).alloc (by simp) _
  have zz0 := z0 0
  have zz1 := z0 1
  have zz2 := z0 2
  clear hW z0
  refine wp_region_quiet_tail 17 (fun w' => ∃ q, w' = W.drewN q) (by kernel_rfl) (by kernel_rfl) ⟨1, rfl⟩ ?_
  simp only [List.take_succ_cons, List.take_zero, List.drop_succ_cons, List.drop_zero]
  repeat (go_big_quiet_step (fail))
  refine wpQuiet_nil ?_
  rintro _ ⟨q, rfl⟩
  go_wp2
  refine bodyPost_ret (v := batV v (U / v) (A / v)) (by simp [results, Tryd.results30, go_sem, r0, r1, r2]) rfl ⟨rfl, ?_⟩
  repeat (first | exact Below.refl _ _ | assumption | apply Below.drew | apply below_drewB | (refine Below.alloc ?_ (by first | omega | (simp; done) | (simp; omega)) _) | (refine Below.setCell ?_ (by first | omega | (simp; done) | (simp; omega)) _))

end
end Go.Proofs.YtkgjkjecfpmlnaaDoor

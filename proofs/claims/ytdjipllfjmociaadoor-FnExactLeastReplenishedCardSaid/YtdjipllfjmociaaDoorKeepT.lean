/-
  A developer's and baths' boxes, kept in a region whose order is open, beside an allocation. Of whatever program; no condition of ours.
-/
import Derived.Test.YtdjipllfjmociaaDoorBath2
import Derived.Deep.RegionHeld3
import Derived.Deep.CutRange
namespace Go.Proofs.YtdjipllfjmociaaDoor
open Go.RowKit

/-- What lay below the world W lies there. -/
theorem keep_cell2 {W w' : World} (hb : Below W.heap.size W w') {q : Addr} {x : Value} (h : W.cell? q = some x) (hq : q.block < W.heap.size) : w'.cell? q = some x := by rw [hb.cell hq]; exact h
section
variable {W w' : World} {i j l : Nat} {p k b t v u a v1 u1 a1 : Int}
/-- A developer in the block i, a bath in the block j, and what lay below W lies there. -/
abbrev SDB2 (W : World) (i j : Nat) (p k b t v u a : Int) (w' : World) : Prop :=
  w'.cell? ⟨i, 0, none⟩ = some (.int .i64 p) ∧ w'.cell? ⟨i, 1, none⟩ = some (.int .i64 k) ∧ w'.cell? ⟨i, 2, none⟩ = some (.int .i8 b) ∧ w'.cell? ⟨i, 3, none⟩ = some (.int .i8 t) ∧
  w'.cell? ⟨j, 0, none⟩ = some (.int .i64 v) ∧ w'.cell? ⟨j, 1, none⟩ = some (.int .i64 u) ∧ w'.cell? ⟨j, 2, none⟩ = some (.int .i64 a) ∧ Below W.heap.size W w'
theorem SDB2.of (hw : SDB2 W i j p k b t v u a W) (hb : Below W.heap.size W w') : SDB2 W i j p k b t v u a w' := by
  obtain ⟨c0, c1, c2, c3, c4, c5, c6, _⟩ := hw
  exact ⟨keep_cell2 hb c0 (cell_ltB c0), keep_cell2 hb c1 (cell_ltB c1), keep_cell2 hb c2 (cell_ltB c2), keep_cell2 hb c3 (cell_ltB c3), keep_cell2 hb c4 (cell_ltB c4), keep_cell2 hb c5 (cell_ltB c5), keep_cell2 hb c6 (cell_ltB c6), hb⟩
theorem SDB2.call {w1 : World} (hw : SDB2 W i j p k b t v u a W) (h : SDB2 W i j p k b t v u a w') (hb : Below w'.heap.size w' w1) : SDB2 W i j p k b t v u a w1 :=
  hw.of (h.2.2.2.2.2.2.2.trans (hb.mono h.2.2.2.2.2.2.2.size))
theorem SDB2.alloc (hw : SDB2 W i j p k b t v u a W) (h : SDB2 W i j p k b t v u a w') (o : Obj) : SDB2 W i j p k b t v u a (w'.alloc o) :=
  hw.of (h.2.2.2.2.2.2.2.alloc h.2.2.2.2.2.2.2.size o)
theorem SDB2.drew (hw : SDB2 W i j p k b t v u a W) (h : SDB2 W i j p k b t v u a w') : SDB2 W i j p k b t v u a w'.drew :=
  hw.of h.2.2.2.2.2.2.2.drew
theorem SDB2.set3 (hw : SDB2 W i j p k b t v u a W) (h : SDB2 W i j p k b t v u a w') {q : Nat} (hq : W.heap.size ≤ q) (x y z : Value) : SDB2 W i j p k b t v u a (((w'.setCell ⟨q, 0, none⟩ x).setCell ⟨q, 1, none⟩ y).setCell ⟨q, 2, none⟩ z) :=
  hw.of (((h.2.2.2.2.2.2.2.setCell hq x).setCell hq y).setCell hq z)
end
end Go.Proofs.YtdjipllfjmociaaDoor

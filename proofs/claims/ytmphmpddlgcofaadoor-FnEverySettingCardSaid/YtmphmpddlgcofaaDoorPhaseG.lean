/-
  The phases of a region that makes a new box: before it is made, empty, full; whatever its cells. Of whatever program; no condition of ours.
-/
import Derived.Test.YtmphmpddlgcofaaDoorPhase
import Derived.Test.YtmphmpddlgcofaaDoorArr
namespace Go.Proofs.YtmphmpddlgcofaaDoor
open Go.RowKit

inductive PhG
  | p0
  | p1 (k : Nat)
  | p2 (k : Nat)
/-- What lay below W lies there; the new box is k blocks on. -/
def phG (W : World) (Z V : Array Value) (T : TypeId) : PhG → World → Prop
  | .p0, w => Below W.heap.size W w
  | .p1 k, w => Below W.heap.size W w ∧ w.heap[W.heap.size + k]? = some (.cells Z T (0, 0))
  | .p2 k, w => Below W.heap.size W w ∧ w.heap[W.heap.size + k]? = some (.cells V T (0, 0))
theorem row_belowG {w w' : World} {b B : Nat} {o : Obj} (h : w.heap[b]? = some o) (hb : Below B w w') (hB : w.heap.size ≤ B) : w'.heap[b]? = some o := by
  have hlt : b < w.heap.size := (Array.getElem?_eq_some_iff.1 h).1
  exact (hb.block b (by omega)).trans h
theorem new2P (W : World) {g : Nat} (hg : g = W.heap.size) (x y : Value) (T : TypeId) : (W.alloc (.cells #[x, y] T)).cell? ⟨g, 0, none⟩ = some x ∧ (W.alloc (.cells #[x, y] T)).cell? ⟨g, 1, none⟩ = some y := by
  subst hg
  exact ⟨by simp, by simp⟩
theorem cellOfRowG {w : World} {b : Nat} {cs : Array Value} {T : TypeId} (h : w.heap[b]? = some (.cells cs T (0, 0))) (k : Nat) (_hk : k < 64) : w.cell? ⟨b, k, none⟩ = cs[k]? := cell_of_row w b k _ T (0, 0) h
section
variable {W w w' : World} {Z V : Array Value} {T : TypeId} {ph : PhG}
theorem phG.bel (h : phG W Z V T ph w) : Below W.heap.size W w := by
  cases ph
  · exact h
  · exact h.1
  · exact h.1
theorem phG.step (h : phG W Z V T ph w) (hb : Below w.heap.size w w') : phG W Z V T ph w' := by
  have hB := h.bel.trans (hb.mono h.bel.size)
  cases ph
  · exact hB
  · exact ⟨hB, row_belowG h.2 hb (Nat.le_refl _)⟩
  · exact ⟨hB, row_belowG h.2 hb (Nat.le_refl _)⟩
theorem sizedG (W : World) : ∀ k : Nat, ∃ w, Below W.heap.size W w ∧ w.heap.size = W.heap.size + k
  | 0 => ⟨W, Below.refl _ _, rfl⟩
  | k + 1 => by
    obtain ⟨w, hb, hs⟩ := sizedG W k
    exact ⟨w.alloc (.cells #[] 0), hb.alloc hb.size _, by rw [World.size_alloc]; omega⟩
theorem phG_nonempty (W : World) (Z V : Array Value) (T : TypeId) (ph : PhG) : Nonempty (WIn (phG W Z V T ph)) := by
  cases ph with
  | p0 => exact ⟨⟨W, Below.refl _ _⟩⟩
  | p1 k =>
    obtain ⟨w, hb, hs⟩ := sizedG W k
    exact ⟨⟨w.alloc (.cells Z T), hb.alloc hb.size _, by rw [← hs]; exact heap_alloc_last w _⟩⟩
  | p2 k =>
    obtain ⟨w, hb, hs⟩ := sizedG W k
    exact ⟨⟨w.alloc (.cells V T), hb.alloc hb.size _, by rw [← hs]; exact heap_alloc_last w _⟩⟩
theorem inCellG {b o : Nat} {v : Value} (h : W.cell? ⟨b, o, none⟩ = some v) (x : WIn (phG W Z V T ph)) : x.w.cell? ⟨b, o, none⟩ = some v :=
  below_cellOf x.ok.bel h (Nat.le_refl _)
theorem inCallG {P : Program} {f : FuncId} {args : Array Value} {v : Value} (x : WIn (phG W Z V T ph)) (h : Calls P f args x.w fun e w' => e = .returned v ∧ Below x.w.heap.size x.w w') :
    Calls P f args x.w fun e w'' => e = .returned v ∧ ∃ y : WIn (phG W Z V T ph), w'' = y.w :=
  h.mono fun _ w' ⟨he, hb⟩ => ⟨he, ⟨w', x.ok.step hb⟩, rfl⟩
/-- The class of a phase. -/
abbrev clG (W : World) (Z V : Array Value) (T : TypeId) (ph : PhG) (w' : World) : Prop := ∃ x : WIn (phG W Z V T ph), w' = x.w
end

section
variable {P : Program} {ops : Array Oper}
theorem run_store_rowG {ρ : Operand → Value} {o : Oper} {w : World} {q : Nat} {T : TypeId} {Z V : Array Value} (ty : TypeId) (x y : Operand) (ho : o.op = .store ty x y) (hx : ρ x = .pointer (some ⟨q, 0, none⟩)) (hy : ρ y = .agg V)
    (h : w.heap[q]? = some (.cells Z T (0, 0))) (hi : (P.info? ty).map (·.size) = some V.size) (hs : V.size = Z.size) (h1 : V.all (·.oneCell') = true) : (execOp ρ o).run P w = .ok .skip (w.setRow q V) := by
  have h2 := run_storeVar_row (P := P) w q T ty Z V h hi hs.symm h1
  unfold execOp
  simp only [ho, hx, hy, Instr.storeAt, Instr.sureAddr, Sem.run_bind, Sem.run_pure, Result.andThen_ok, h2]
theorem tList_yield {Ph : Type} {φ : Ph → World → Prop} {L : Act → Ph → Prop} {o : Oper} {rest : List Oper} {a : Act} {ph : Ph} (u : Value) (hw : Region.wanted o (yielded ops a.tmps) = true) (hr : ∀ w, (execOp a.eval o).run P w = .ok (.value u) w)
    (h : tList P ops φ L rest (a.put o.dst u) ph) : tList P ops φ L (o :: rest) a ph := ⟨hw, fun w hφ => by rw [hr]; exact ⟨ph, hφ, h⟩⟩
variable {W : World} {Z V : Array Value} {T : TypeId}
/-- The tail: the box is made, then filled; what stands behind it comes after. -/
theorem tail_G {oA oS : Oper} {rest : List Oper} {aF : Act} {L : Act → PhG → Prop}
    (wA : Region.wanted oA (yielded ops aF.tmps) = true)
    (rA : ∀ w, (execOp aF.eval oA).run P w = .ok (.value (.pointer (some ⟨w.heap.size, 0, none⟩))) (w.alloc (.cells Z T)))
    (wS : ∀ q : Nat, Region.wanted oS (yielded ops (aF.put oA.dst (.pointer (some ⟨q, 0, none⟩))).tmps) = true)
    (rS : ∀ (q : Nat) w, w.heap[q]? = some (.cells Z T (0, 0)) → (execOp (aF.put oA.dst (.pointer (some ⟨q, 0, none⟩))).eval oS).run P w = .ok .skip (w.setRow q V))
    (hL : ∀ k, tList P ops (clG W Z V T) L rest ((aF.put oA.dst (.pointer (some ⟨W.heap.size + k, 0, none⟩))).put oS.dst undef) (.p2 k)) :
    tList P ops (clG W Z V T) L (oA :: oS :: rest) aF .p0 := by
  refine ⟨wA, ?_⟩
  rintro _ ⟨x, rfl⟩
  rw [rA]
  have hx : Below W.heap.size W x.w := x.ok
  obtain ⟨k, hk⟩ : ∃ k, x.w.heap.size = W.heap.size + k := ⟨x.w.heap.size - W.heap.size, by have := hx.size; omega⟩
  refine ⟨.p1 k, ⟨⟨_, hx.alloc hx.size _, by rw [← hk]; exact heap_alloc_last x.w _⟩, rfl⟩, ?_⟩
  rw [hk]
  refine ⟨wS _, ?_⟩
  rintro _ ⟨y, rfl⟩
  have hy := y.ok
  rw [rS _ _ hy.2]
  exact ⟨.p2 k, ⟨⟨_, below_setRow hy.1 (by omega) V, setRow_heap y.w _ _ _ T _ hy.2⟩, rfl⟩, hL k⟩
end
end Go.Proofs.YtmphmpddlgcofaaDoor

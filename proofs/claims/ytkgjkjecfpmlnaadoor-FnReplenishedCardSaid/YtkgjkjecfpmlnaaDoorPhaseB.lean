/-
  The phases of a region that makes a new bath's box: before it is made, empty, full. Of whatever program; no condition of ours.
-/
import Derived.Test.YtkgjkjecfpmlnaaDoorPhase
import Derived.Test.YtkgjkjecfpmlnaaDoorDeedsS
namespace Go.Proofs.YtkgjkjecfpmlnaaDoor
open Go.RowKit

inductive Ph3
  | p0
  | p1 (k : Nat)
  | p2 (k : Nat)
/-- What lay below W lies there; the new box is k blocks on. -/
def phB (W : World) (v0 v1 v2 : Int) : Ph3 → World → Prop
  | .p0, w => Below W.heap.size W w
  | .p1 k, w => Below W.heap.size W w ∧ BtAt w (W.heap.size + k) 0 0 0
  | .p2 k, w => Below W.heap.size W w ∧ BtAt w (W.heap.size + k) v0 v1 v2
section
variable {W w w' : World} {v0 v1 v2 : Int} {ph : Ph3}
theorem phB.bel (h : phB W v0 v1 v2 ph w) : Below W.heap.size W w := by
  cases ph
  · exact h
  · exact h.1
  · exact h.1
theorem phB.step (h : phB W v0 v1 v2 ph w) (hb : Below w.heap.size w w') : phB W v0 v1 v2 ph w' := by
  have hB := h.bel.trans (hb.mono h.bel.size)
  cases ph
  · exact hB
  · exact ⟨hB, h.2.below hb (Nat.le_refl _)⟩
  · exact ⟨hB, h.2.below hb (Nat.le_refl _)⟩
theorem sized (W : World) : ∀ k : Nat, ∃ w, Below W.heap.size W w ∧ w.heap.size = W.heap.size + k
  | 0 => ⟨W, Below.refl _ _, rfl⟩
  | k + 1 => by
    obtain ⟨w, hb, hs⟩ := sized W k
    exact ⟨w.alloc (.cells #[] 0), hb.alloc hb.size _, by rw [World.size_alloc]; omega⟩
theorem phB_nonempty (W : World) (v0 v1 v2 : Int) (ph : Ph3) : Nonempty (WIn (phB W v0 v1 v2 ph)) := by
  cases ph with
  | p0 => exact ⟨⟨W, Below.refl _ _⟩⟩
  | p1 k =>
    obtain ⟨w, hb, hs⟩ := sized W k
    exact ⟨⟨w.alloc (.cells #[.int .i64 0, .int .i64 0, .int .i64 0] 0), hb.alloc hb.size _, BtAt.newAt w _ hs.symm 0 0 0 0⟩⟩
  | p2 k =>
    obtain ⟨w, hb, hs⟩ := sized W k
    exact ⟨⟨w.alloc (.cells #[.int .i64 v0, .int .i64 v1, .int .i64 v2] 0), hb.alloc hb.size _, BtAt.newAt w _ hs.symm 0 v0 v1 v2⟩⟩
theorem inCellP {b o : Nat} {v : Value} (h : W.cell? ⟨b, o, none⟩ = some v) (x : WIn (phB W v0 v1 v2 ph)) : x.w.cell? ⟨b, o, none⟩ = some v :=
  below_cellOf x.ok.bel h (Nat.le_refl _)
theorem inCallP {P : Program} {f : FuncId} {args : Array Value} {v : Value} (x : WIn (phB W v0 v1 v2 ph)) (h : Calls P f args x.w fun e w' => e = .returned v ∧ Below x.w.heap.size x.w w') :
    Calls P f args x.w fun e w'' => e = .returned v ∧ ∃ y : WIn (phB W v0 v1 v2 ph), w'' = y.w :=
  h.mono fun _ w' ⟨he, hb⟩ => ⟨he, ⟨w', x.ok.step hb⟩, rfl⟩
/-- The class of a phase. -/
abbrev clB (W : World) (v0 v1 v2 : Int) (ph : Ph3) (w' : World) : Prop := ∃ x : WIn (phB W v0 v1 v2 ph), w' = x.w
end

section
variable {P : Program} {ops : Array Oper} {W : World} {v0 v1 v2 : Int}
/-- The tail: the box is made, filled, and a slot is assigned. -/
theorem tail_bath {oA oS oZ : Oper} {aF : Act} {L : Act → Ph3 → Prop} {T : TypeId} {u : Value}
    (wA : Region.wanted oA (yielded ops aF.tmps) = true)
    (rA : ∀ w, (execOp aF.eval oA).run P w = .ok (.value (.pointer (some ⟨w.heap.size, 0, none⟩))) (w.alloc (.cells #[.int .i64 0, .int .i64 0, .int .i64 0] T)))
    (wS : ∀ q : Nat, Region.wanted oS (yielded ops (aF.put oA.dst (.pointer (some ⟨q, 0, none⟩))).tmps) = true)
    (rS : ∀ (q : Nat) w, BtAt w q 0 0 0 → (execOp (aF.put oA.dst (.pointer (some ⟨q, 0, none⟩))).eval oS).run P w = .ok .skip (((w.setCell ⟨q, 0, none⟩ (.int .i64 v0)).setCell ⟨q, 1, none⟩ (.int .i64 v1)).setCell ⟨q, 2, none⟩ (.int .i64 v2)))
    (wZ : ∀ q : Nat, Region.wanted oZ (yielded ops ((aF.put oA.dst (.pointer (some ⟨q, 0, none⟩))).put oS.dst undef).tmps) = true)
    (rZ : ∀ (q : Nat) w, (execOp ((aF.put oA.dst (.pointer (some ⟨q, 0, none⟩))).put oS.dst undef).eval oZ).run P w = .ok (.value u) w)
    (hL : ∀ k, L (((aF.put oA.dst (.pointer (some ⟨W.heap.size + k, 0, none⟩))).put oS.dst undef).put oZ.dst u) (.p2 k)) :
    tList P ops (clB W v0 v1 v2) L [oA, oS, oZ] aF .p0 := by
  refine ⟨wA, ?_⟩
  rintro _ ⟨x, rfl⟩
  rw [rA]
  have hx : Below W.heap.size W x.w := x.ok
  obtain ⟨k, hk⟩ : ∃ k, x.w.heap.size = W.heap.size + k := ⟨x.w.heap.size - W.heap.size, by have := hx.size; omega⟩
  refine ⟨.p1 k, ⟨⟨_, hx.alloc hx.size _, BtAt.newAt x.w _ hk.symm T 0 0 0⟩, rfl⟩, ?_⟩
  rw [hk]
  refine ⟨wS _, ?_⟩
  rintro _ ⟨y, rfl⟩
  have hy := y.ok
  rw [rS _ _ hy.2]
  refine ⟨.p2 k, ⟨⟨_, ((hy.1.setCell (by show W.heap.size ≤ W.heap.size + k; omega) _).setCell (by show W.heap.size ≤ W.heap.size + k; omega) _).setCell (by show W.heap.size ≤ W.heap.size + k; omega) _, ((hy.2.set0 v0).set1 v1).set2 v2⟩, rfl⟩, ?_⟩
  refine ⟨wZ _, ?_⟩
  rintro w3 hw3
  rw [rZ]
  exact ⟨.p2 k, hw3, hL k⟩
end
end Go.Proofs.YtkgjkjecfpmlnaaDoor

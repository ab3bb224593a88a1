/-
  A region whose order is open, and whose calls may make memory: one walk of the text's order, in every world of a class. Of whatever program; no condition of ours.
-/
import Derived.Test.YtnlcjbobfhmnmaaDoorBase
import Derived.BigQuiet
namespace Go.Proofs.YtnlcjbobfhmnmaaDoor
open Go.RowKit

/-- A world of a class. -/
structure WIn (D : World → Prop) where
  w : World
  ok : D w
theorem wp_region_quietD {P : Program} {id : Nat} {Q : Exit → Act → World → Prop} {a : Act} {w : World} {l : List Oper} (D : World → Prop) (hm : P.follows .mixedOrders = true) (hB : Region.lexB .any l.toArray = true) (hD : D w.drew)
    (h : wpQuiet P l.toArray (fun w' => ∃ x : WIn D, w' = x.w) (fun a' => ∀ w', (∃ x : WIn D, w' = x.w) → Q .normal a' w') l a) : (Code.region id l.toArray true).wp P Q a w :=
  wp_region_quiet (C := fun w' => ∃ x : WIn D, w' = x.w) hm hB ⟨⟨_, hD⟩, rfl⟩ h
theorem below_nonempty (w : World) : Nonempty (WIn (Below w.heap.size w)) := ⟨⟨w, Below.refl _ _⟩⟩
theorem below_drew1 (w : World) : Below w.heap.size w w.drew := (Below.refl _ _).drew
/-- A cell of the old memory, in every world of the class. -/
theorem inCell {w : World} {b o : Nat} {v : Value} (h : w.cell? ⟨b, o, none⟩ = some v) (x : WIn (Below w.heap.size w)) : x.w.cell? ⟨b, o, none⟩ = some v :=
  below_cellOf x.ok h (Nat.le_refl _)
/-- A call that makes memory, in every world of the class. -/
theorem inCall {P : Program} {f : FuncId} {args : Array Value} {w : World} {v : Value} (x : WIn (Below w.heap.size w)) (h : Calls P f args x.w fun e w' => e = .returned v ∧ Below x.w.heap.size x.w w') :
    Calls P f args x.w fun e w'' => e = .returned v ∧ ∃ y : WIn (Below w.heap.size w), w'' = y.w :=
  h.mono fun _ w' ⟨he, hb⟩ => ⟨he, ⟨w', x.ok.trans (hb.mono x.ok.size)⟩, rfl⟩
theorem inCallS {P : Program} {f : FuncId} {args : Array Value} {w : World} {v : Value} (x : WIn (Below w.heap.size w)) (h : Calls P f args x.w fun e w' => e = .returned v ∧ x.w = w') :
    Calls P f args x.w fun e w'' => e = .returned v ∧ ∃ y : WIn (Below w.heap.size w), w'' = y.w :=
  h.mono fun _ _ ⟨he, hb⟩ => ⟨he, x, hb.symm⟩
end Go.Proofs.YtnlcjbobfhmnmaaDoor

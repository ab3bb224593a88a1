/-
  Lists of a call's own: what a function hands back in new memory; the laws' own comparing, marking and asking of lists of numbers. Condition: at most 1048576 numbers.
-/
import Derived.Test.YtnlcjbobfhmnmabGreatDoorBase
import Derived.Deep.OwnRows
import Derived.Deep.AppendLies
import Derived.Laws.AppendOwn
import Derived.ProofKit
namespace Go.Proofs.YtnlcjbobfhmnmabGreatDoor
open Go.RowKit

/-- Value v is a list of n elements in a block from L on and before U, which can be written; cell j holds f j. -/
def Mine (w : World) (L U : Nat) (E : TypeId) (size : Nat) (v : Value) (n : Nat) (f : Nat → Value) : Prop :=
  ∃ A cap, v = .slice A n cap ∧ (n = 0 ∨ ∃ g m h, A = some ⟨g, 0, none⟩ ∧ L ≤ g ∧ g < U ∧ n * size ≤ m ∧ w.rowIs g E m h ∧ ∀ j, j < n * size → h j = f j)
/-- Between the worlds only blocks from L on and before U have turned. -/
structure Only (L U : Nat) (w w' : World) : Prop where
  os : w'.os = w.os
  tape : w'.tape = w.tape
  output : w'.output = w.output
  size : w.heap.size ≤ w'.heap.size
  block : ∀ b, b < w.heap.size → (b < L ∨ U ≤ b) → w'.heap[b]? = w.heap[b]?

section
variable {w w' : World} {L U n size : Nat} {E : TypeId} {v : Value} {f g : Nat → Value}
theorem Only.refl (L U : Nat) (w : World) : Only L U w w := ⟨rfl, rfl, rfl, Nat.le_refl _, fun _ _ _ => rfl⟩
theorem Only.drew (h : Only L U w w') : Only L U w w'.drew := ⟨h.os, h.tape, h.output, h.size, h.block⟩
theorem Only.drewN (h : Only L U w w') (k : Nat) : Only L U w (w'.drewN k) := ⟨h.os, h.tape, h.output, h.size, h.block⟩
theorem Only.setCell (h : Only L U w w') {p : Addr} (h1 : L ≤ p.block) (h2 : p.block < U) (u : Value) : Only L U w (w'.setCell p u) :=
  ⟨h.os, h.tape, h.output, by simpa [World.setCell] using h.size, fun b hb hbb => (Below.heap_setCell _ _ _ _ (by omega)).trans (h.block b hb hbb)⟩
theorem Only.below (h : Only L U w w') (hL : L ≤ w.heap.size) : Below L w w' := ⟨h.os, h.tape, h.output, h.size, fun k hk => h.block k (by omega) (.inl hk)⟩
theorem rowIs_only {b : Nat} {t : TypeId} {m : Nat} (h : w.rowIs b t m f) (ho : Only L U w w') (hb : b < L ∨ U ≤ b) : w'.rowIs b t m f := h.of_block (ho.block b h.lt hb)

theorem Mine.nil (w : World) (L U : Nat) (E : TypeId) (size : Nat) (A : Option Addr) (cap : Nat) (f : Nat → Value) : Mine w L U E size (.slice A 0 cap) 0 f := ⟨A, cap, rfl, .inl rfl⟩
theorem Mine.congr (h : Mine w L U E size v n f) (e : ∀ j, j < n * size → f j = g j) : Mine w L U E size v n g := by
  obtain ⟨A, cap, rfl, h⟩ := h
  refine ⟨A, cap, rfl, ?_⟩
  rcases h with h | ⟨b, m, h, rfl, h1, h2, h3, h4, h5⟩
  · exact .inl h
  · exact .inr ⟨b, m, h, rfl, h1, h2, h3, h4, fun j hj => (h5 j hj).trans (e j hj)⟩
theorem Mine.keep (h : Mine w L U E size v n f) (hb : ∀ b, L ≤ b → b < U → b < w.heap.size → w'.heap[b]? = w.heap[b]?) : Mine w' L U E size v n f := by
  obtain ⟨A, cap, rfl, h⟩ := h
  refine ⟨A, cap, rfl, ?_⟩
  rcases h with h | ⟨b, m, h, rfl, h1, h2, h3, h4, h5⟩
  · exact .inl h
  · exact .inr ⟨b, m, h, rfl, h1, h2, h3, h4.of_block (hb b h1 h2 h4.lt), h5⟩
theorem Mine.below {B : Nat} (h : Mine w L U E size v n f) (hb : Below B w w') (hB : U ≤ B) : Mine w' L U E size v n f := h.keep fun b _ h2 _ => hb.block b (by omega)
theorem Mine.only {L' U' : Nat} (h : Mine w L U E size v n f) (ho : Only L' U' w w') (hs : U ≤ L' ∨ U' ≤ L) : Mine w' L U E size v n f := h.keep fun b h1 h2 h3 => ho.block b h3 (by omega)
theorem Mine.drewN (h : Mine w L U E size v n f) (k : Nat) : Mine (w.drewN k) L U E size v n f := h
theorem Mine.mono {L' U' : Nat} (h : Mine w L U E size v n f) (hL : L' ≤ L) (hU : U ≤ U') : Mine w L' U' E size v n f := by
  obtain ⟨A, cap, rfl, h⟩ := h
  refine ⟨A, cap, rfl, ?_⟩
  rcases h with h | ⟨b, m, h, rfl, h1, h2, h3, h4, h5⟩
  · exact .inl h
  · exact .inr ⟨b, m, h, rfl, by omega, by omega, h3, h4, h5⟩
theorem Mine.of_own {xs : List Value} (h : w.ownsRow L E size v n xs) : Mine w L w.heap.size E size v n (fun j => xs[j]?.getD undef) := by
  obtain ⟨hl, h⟩ := h
  rcases h with ⟨rfl, rfl⟩ | ⟨b, cap, cur, rfl, hb, hh, hn, hm, hs, ht⟩
  · exact .nil _ _ _ _ _ _ _ _
  · refine ⟨_, cap, rfl, ?_⟩
    rcases Nat.eq_zero_or_pos n with h0 | h0
    · exact .inl h0
    · have hr : w.rowIs b E (cap * size) (fun j => cur[j]?.getD undef) := ⟨cur, hh, hs, fun i hi => by simp [hs, hi]⟩
      refine .inr ⟨b, cap * size, _, rfl, hb, hr.lt, Nat.mul_le_mul_right _ hn, hr, fun j hj => ?_⟩
      show cur[j]?.getD undef = (xs[j]?).getD undef
      rw [← ht, List.getElem?_take, if_pos hj]
      simp
theorem Mine.of_ints {l : List Int} {k : IntKind} (h : w.ownsRow L E 1 v n (l.map (Value.int k))) : Mine w L w.heap.size E 1 v n (fun j => .int k (l.getD j 0)) := by
  have hl : l.length = n := by have := h.1; simpa using this
  refine (Mine.of_own h).congr fun j hj => ?_
  have hj' : j < l.length := by omega
  simp [hj']
end
end Go.Proofs.YtnlcjbobfhmnmabGreatDoor

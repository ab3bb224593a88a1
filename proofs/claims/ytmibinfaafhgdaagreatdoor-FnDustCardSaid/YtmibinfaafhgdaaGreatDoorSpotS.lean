/-
  The spots of a mask: what the reference's function returns. Of whatever mask; no condition.
-/
import Derived.Test.YtmibinfaafhgdaaGreatDoorSpX
import Derived.Test.YtmibinfaafhgdaaGreatDoorOwn
import Derived.Maps.AppendAt
namespace Go.Proofs.YtmibinfaafhgdaaGreatDoor
open Go.RowKit

/-- Masks as cells. -/
def u64L (l : List (BitVec 64)) : List Value := l.map fun m => .int .u64 (bvI m)
theorem u64L_len (l : List (BitVec 64)) : (u64L l).length = l.length := by simp [u64L]
theorem u64L_snoc (l : List (BitVec 64)) (b : BitVec 64) : u64L (l ++ [b]) = u64L l ++ [.int .u64 (bvI b)] := by simp [u64L]
theorem u64Info : (Tryz.prog.info? 32).map (fun i => (i.zero, i.size, i.bytes)) = some (some (.int .u64 0), 1, 8) := by kernel_rfl
section
variable {ops : Array Oper} {rest : List Oper} {o : Oper} {a : Act} {Q : Exit → Act → World → Prop} {w : World}
theorem grownBy_allocS {w w' : World} {o : Obj} {row : Option Nat} (h : (w.alloc o).grownBy w' row) : w.grownBy w' row :=
  ⟨h.os, h.tape, h.output, by have := h.size; simp at this; omega, fun k hk hne => (h.block k (by simp; omega) hne).trans (Below.heap_alloc w o k hk)⟩
/-- 'append(s, x)' of one mask. -/
theorem wpList_append_u64 (hgd : o.guard = none) (s x : Operand) (ho : o.op = .call { callee := .builtin .append, args := #[s, x], argTypes := #[73, 73] })
    {L n : Nat} {v : Value} {l : List (BitVec 64)} {b : BitVec 64} (hs : a.eval s = v) (hown : w.ownsRow L 32 1 v n (u64L l)) (hx : a.eval x = .slice (some ⟨w.heap.size, 0, none⟩) 1 1) (hn : n ≤ 1000000) (hL : L ≤ w.heap.size)
    (h : ∀ v' w', w'.ownsRow L 32 1 v' (n + 1) (u64L (l ++ [b])) → Below L w w' → wpList Tryz.prog ops Q rest (a.put o.dst v') w') :
    wpList Tryz.prog ops Q (o :: rest) a (w.alloc (.cells #[.int .u64 (bvI b)] 32)) := by
  obtain ⟨i0, hi, hz0, hz1, hz2⟩ := info_parts u64Info
  refine wpList_append_own_at _ hgd s x 73 ho L 32 i0 (.int .u64 0) 1 8 Tryz.underlying73 hi hz0 hz1 hz2 rfl (by decide) v n (u64L l) hs (hown.alloc _) ⟨w.heap.size, 0, none⟩ 1 1 [.int .u64 (bvI b)] hx rfl (cell_one_new _ _ _) (by simp [Value.oneCell']) (by unfold maxLen; omega) (by omega) (by simp; omega) ?_
  intro v' w' h1 h2 _ _
  refine h v' w' ?_ ?_
  · rw [u64L_snoc]; exact h1
  · exact Below.grown (Below.refl _ _) (grownBy_allocS h2) hL (fun k hk => (hown.lt k hk).1)
theorem own_belowS {w w' : World} {base size n : Nat} {e : TypeId} {v : Value} {l : List Value} (h : w.ownsRow base e size v n l) (hb : Below w.heap.size w w') : w'.ownsRow base e size v n l :=
  h.kept (row := none) ⟨hb.os, hb.tape, hb.output, hb.size, fun i hi _ => hb.block i hi⟩ (by cases v.ownBlock <;> simp)
theorem mine_u64 {w : World} {L n : Nat} {v : Value} {l : List (BitVec 64)} (h : w.ownsRow L 32 1 v n (u64L l)) : Mine w L w.heap.size 32 1 v n (fun j => .int .u64 (bvI (l.getD j 0#64))) := by
  have hl := h.1
  rw [u64L_len, Nat.mul_one] at hl
  exact (Mine.of_own h).congr fun j hj => by
    have hj' : j < l.length := by omega
    simp [u64L, hj']
end

/-- What is left of a mask behind the spots of its first k cells. -/
def Rest (M N : BitVec 64) (k : Nat) : Prop := ∀ c, N.getLsbD c = true ↔ M.getLsbD c = true ∧ ¬ ∃ j, j < k ∧ M.getLsbD j = true ∧ Reach (RM M) j c
theorem rest_zero (M : BitVec 64) : Rest M M 0 := fun c => by simp
theorem rest_no {M N : BitVec 64} {k : Nat} (h : Rest M N k) (h0 : M.getLsbD k = false) : Rest M N (k + 1) := fun c => by
  rw [h c]
  refine and_congr_right fun _ => not_congr ⟨fun ⟨j, hj, h1⟩ => ⟨j, by omega, h1⟩, fun ⟨j, hj, h1, h2⟩ => ⟨j, ?_, h1, h2⟩⟩
  have : j ≠ k := fun e => by subst e; rw [h0] at h1; cases h1
  omega
theorem rest_old {M N : BitVec 64} {k : Nat} (h : Rest M N k) (h0 : ∃ j, j < k ∧ M.getLsbD j = true ∧ Reach (RM M) j k) : Rest M N (k + 1) := fun c => by
  rw [h c]
  refine and_congr_right fun _ => not_congr ⟨fun ⟨j, hj, h1⟩ => ⟨j, by omega, h1⟩, fun ⟨j, hj, h1, h2⟩ => ?_⟩
  by_cases e : j = k
  · subst e
    obtain ⟨j0, h3, h4, h5⟩ := h0
    exact ⟨j0, h3, h4, h5.trans h2⟩
  · exact ⟨j, by omega, h1, h2⟩
theorem rest_new {M N : BitVec 64} {k : Nat} (h : Rest M N k) (h0 : M.getLsbD k = true) : Rest M (N &&& ~~~compB M k) (k + 1) := fun c => by
  by_cases hc : c < 64
  · rw [BitVec.getLsbD_and, BitVec.getLsbD_not, Bool.and_eq_true, h c]
    have e : (decide (c < 64) && !(compB M k).getLsbD c) = true ↔ ¬ Reach (RM M) k c := by
      rw [← compB_bit h0]; simp [hc]
    rw [e, and_assoc]
    refine and_congr_right fun _ => ?_
    constructor
    · rintro ⟨h1, h2⟩ ⟨j, hj, h3, h4⟩
      by_cases e : j = k
      · subst e; exact h2 h4
      · exact h1 ⟨j, by omega, h3, h4⟩
    · intro h1
      exact ⟨fun ⟨j, hj, h3, h4⟩ => h1 ⟨j, by omega, h3, h4⟩, fun h2 => h1 ⟨k, by omega, h0, h2⟩⟩
  · constructor
    · intro h1; exact absurd (bit_lt h1) hc
    · rintro ⟨h1, _⟩; exact absurd (bit_lt h1) hc
theorem bit_of (k c : Nat) (hk : k < 64) : (1#64 <<< k).getLsbD c = decide (c = k) := by
  rw [BitVec.getLsbD_shiftLeft, BitVec.getLsbD_one]
  by_cases e : c = k
  · subst e; simp [hk]
  · by_cases h : c < k
    · simp [e, h]
    · have : ¬ c - k = 0 := by omega
      simp [e, this]
theorem and_bit {N : BitVec 64} {k : Nat} (hk : k < 64) (h : N.getLsbD k = true) : N &&& 1#64 <<< k = 1#64 <<< k := BitVec.eq_of_getLsbD_eq fun i _ => by
  rw [BitVec.getLsbD_and, bit_of k i hk]
  by_cases e : i = k
  · subst e; simp [h]
  · simp [e]
theorem and_bit_no {N : BitVec 64} {k : Nat} (hk : k < 64) (h : N.getLsbD k = false) : N &&& 1#64 <<< k = 0#64 := BitVec.eq_of_getLsbD_eq fun i _ => by
  rw [BitVec.getLsbD_and, bit_of k i hk]
  by_cases e : i = k
  · subst e; simp [h]
  · simp [e]
theorem bit_ne {k : Nat} (hk : k < 64) : 1#64 <<< k ≠ 0#64 := fun e => by
  have := bit_of k k hk
  rw [e] at this
  simp at this

end Go.Proofs.YtmibinfaafhgdaaGreatDoor

/-
  Lists of numbers that a call makes anew: their entries, their cells. No condition.
-/
import Derived.Test.YtnlcjbobfhmnmabGreatDoorOwn
import Derived.Test.YtnlcjbobfhmnmabGreatDoorInts
import Derived.Maps.AppendAt
import Derived.Deep.AppendLies
import Derived.Deep.RegionHeld3
namespace Go.Proofs.YtnlcjbobfhmnmabGreatDoor
open Go.RowKit

/-- The first k values of f as cells. -/
def tabV (f : Nat → Int) (k : Nat) : List Value := (List.range k).map fun j => .int .i64 (f j)
theorem tabV_zero (f : Nat → Int) : tabV f 0 = [] := rfl
theorem tabV_succ (f : Nat → Int) (k : Nat) : tabV f (k + 1) = tabV f k ++ [.int .i64 (f k)] := by simp [tabV, List.range_succ]
theorem tabV_len (f : Nat → Int) (k : Nat) : (tabV f k).length = k := by simp [tabV]
theorem tabV_get {f : Nat → Int} {k j : Nat} (h : j < k) : (tabV f k)[j]? = some (.int .i64 (f j)) := by simp [tabV, h]
/-- Block g begins with these n numbers. -/
def IRow (w : World) (g n : Nat) (xs : Nat → Int) : Prop := ∃ m h, n ≤ m ∧ w.rowIs g 2 m h ∧ ∀ j, j < n → h j = .int .i64 (xs j)
section
variable {w w' : World} {g n L : Nat} {xs ys : Nat → Int}
theorem IRow.cell (h : IRow w g n xs) {k : Nat} (hk : k < n) : w.cell? ⟨g, k, none⟩ = some (.int .i64 (xs k)) := by
  obtain ⟨m, f, hm, hr, he⟩ := h
  rw [hr.cell (by omega), he k hk]
theorem IRow.free (h : IRow w g n xs) (k : Nat) : w.frozen? ⟨g, k, none⟩ = false := by
  obtain ⟨m, f, hm, hr, he⟩ := h
  exact hr.frozen k
theorem IRow.lt (h : IRow w g n xs) : g < w.heap.size := by
  obtain ⟨m, f, hm, hr, he⟩ := h
  exact hr.lt
theorem IRow.below {B : Nat} (h : IRow w g n xs) (hb : Below B w w') (hB : g < B) : IRow w' g n xs := by
  obtain ⟨m, f, hm, hr, he⟩ := h
  exact ⟨m, f, hm, rowIs_below hr hb hB, he⟩
theorem IRow.alloc (h : IRow w g n xs) (o : Obj) : IRow (w.alloc o) g n xs := h.below (B := w.heap.size) ((Below.refl _ _).alloc (Nat.le_refl _) o) h.lt
theorem IRow.drewN (h : IRow w g n xs) (k : Nat) : IRow (w.drewN k) g n xs := h
theorem IRow.congr (h : IRow w g n xs) (e : ∀ j, j < n → xs j = ys j) : IRow w g n ys := by
  obtain ⟨m, f, hm, hr, he⟩ := h
  exact ⟨m, f, hm, hr, fun j hj => by rw [he j hj, e j hj]⟩
theorem IRow.set (h : IRow w g n xs) {k : Nat} (hk : k < n) (v : Int) : IRow (w.setCell ⟨g, k, none⟩ (.int .i64 v)) g n (fun j => if j = k then v else xs j) := by
  obtain ⟨m, f, hm, hr, he⟩ := h
  refine ⟨m, _, hm, hr.set k (.int .i64 v), fun j hj => ?_⟩
  by_cases e : j = k
  · simp [e]
  · simp [e, he j hj]
theorem IRow.mine (h : IRow w g n xs) (cap : Nat) : Mine w g (g + 1) 2 1 (.slice (some ⟨g, 0, none⟩) n cap) n (fun j => .int .i64 (xs j)) := by
  obtain ⟨m, f, hm, hr, he⟩ := h
  exact ⟨_, cap, rfl, .inr ⟨g, m, f, rfl, Nat.le_refl _, by omega, by omega, hr, fun j hj => he j (by omega)⟩⟩
theorem IRow.of_row (h : w.rowIs g 2 n (fun j => .int .i64 (xs j))) : IRow w g n xs := ⟨n, _, Nat.le_refl _, h, fun _ _ => rfl⟩
theorem IRow.far {row : Option Nat} (h : IRow w g n xs) (hg : w.grownBy w' row) (hne : some g ≠ row) : IRow w' g n xs := by
  obtain ⟨m, f, hm, hr, he⟩ := h
  exact ⟨m, f, hm, hr.of_block (hg.block g hr.lt hne), he⟩
theorem irow_own {v : Value} (h : w.ownsRow L 2 1 v n (tabV xs n)) (hn : 0 < n) : ∃ g cap, v = .slice (some ⟨g, 0, none⟩) n cap ∧ L ≤ g ∧ IRow w g n xs := by
  obtain ⟨hl, h⟩ := h
  rcases h with ⟨_, h0⟩ | ⟨b, cap, cur, rfl, hb, hh, hn', hm, hs, ht⟩
  · omega
  · have hr : w.rowIs b 2 (cap * 1) (fun j => cur[j]?.getD undef) := ⟨cur, hh, hs, fun i hi => by simp only [Array.getElem?_eq_getElem (show i < cur.size by omega), Option.getD_some]⟩
    refine ⟨b, cap, rfl, hb, cap * 1, _, by omega, hr, fun j hj => ?_⟩
    have hg := tabV_get (f := xs) hj
    rw [← ht, List.getElem?_take, if_pos (by omega)] at hg
    rw [show cur[j]?.getD undef = cur.toList[j]?.getD undef by simp, hg]
    rfl
theorem mine_own {v : Value} (h : w.ownsRow L 2 1 v n (tabV xs n)) : Mine w L w.heap.size 2 1 v n (fun j => .int .i64 (xs j)) :=
  (Mine.of_own h).congr fun j hj => by rw [tabV_get (by omega)]; rfl
theorem grown_of_belowT {a : World} (h : Below a.heap.size a w) (row : Option Nat) : a.grownBy w row := ⟨h.os, h.tape, h.output, h.size, fun i hi _ => h.block i hi⟩
theorem own_belowT {base size : Nat} {e : TypeId} {v : Value} {l : List Value} (h : w.ownsRow base e size v n l) (hb : Below w.heap.size w w') : w'.ownsRow base e size v n l :=
  h.kept (row := none) (grown_of_belowT hb _) (by cases v.ownBlock <;> simp)
end
theorem grownBy_alloc {w w' : World} {o : Obj} {row : Option Nat} (h : (w.alloc o).grownBy w' row) : w.grownBy w' row :=
  ⟨h.os, h.tape, h.output, by have := h.size; simp at this; omega, fun k hk hne => (h.block k (by simp; omega) hne).trans (Below.heap_alloc w o k hk)⟩
section
variable {ops : Array Oper} {rest : List Oper} {o : Oper} {a : Act} {Q : Exit → Act → World → Prop} {w : World}
/-- 'append(s, x)' of one number that the list's function tells next. -/
theorem wpList_append1 (hgd : o.guard = none) (s x : Operand) (ho : o.op = .call { callee := .builtin .append, args := #[s, x], argTypes := #[35, 35] })
    {L n : Nat} {v : Value} {F : Nat → Int} (hs : a.eval s = v) (hown : w.ownsRow L 2 1 v n (tabV F n)) (hx : a.eval x = .slice (some ⟨w.heap.size, 0, none⟩) 1 1) (hn : n ≤ 1000000) (hL : L ≤ w.heap.size) {V : Int} (hV : F n = V)
    (h : ∀ v' w', w'.ownsRow L 2 1 v' (n + 1) (tabV F (n + 1)) → w.grownBy w' v.ownBlock → (v'.ownBlock = v.ownBlock ∨ v'.ownBlock = some (w.heap.size + 1)) → wpList Tryz.prog ops Q rest (a.put o.dst v') w') :
    wpList Tryz.prog ops Q (o :: rest) a (w.alloc (.cells #[.int .i64 V] 2)) := by
  obtain ⟨i0, hi, hz0, hz1, hz2⟩ := info_parts i64Info
  refine wpList_append_own_at _ hgd s x 35 ho L 2 i0 (.int .i64 0) 1 8 Tryz.underlying35 hi hz0 hz1 hz2 rfl (by decide) v n (tabV F n) hs (hown.alloc _) ⟨w.heap.size, 0, none⟩ 1 1 [.int .i64 V] hx rfl (cell_one_new _ _ _) (by simp [Value.oneCell']) (by unfold maxLen; omega) (by omega) (by simp; omega) ?_
  intro v' w' h1 h2 _ h4
  refine h v' w' ?_ (grownBy_alloc h2) (by simpa using h4)
  rw [tabV_succ, hV]; exact h1
end
/-- A new list of numbers. -/
def MadeN (n : Nat) (xs : Nat → Int) (w : World) (e : Ending) (w' : World) : Prop :=
  ∃ g cap, e = .returned (.slice (some ⟨g, 0, none⟩) n cap) ∧ w.heap.size ≤ g ∧ IRow w' g n xs ∧ Below w.heap.size w w'
/-- A new list of numbers with a code. -/
def LstC (C : Int) (n : Nat) (xs : Nat → Int) (w : World) (e : Ending) (w' : World) : Prop :=
  ∃ v, e = .returned (.tuple #[v, .int .i64 C]) ∧ Mine w' w.heap.size w'.heap.size 2 1 v n (fun j => .int .i64 (xs j)) ∧ Below w.heap.size w w'
end Go.Proofs.YtnlcjbobfhmnmabGreatDoor

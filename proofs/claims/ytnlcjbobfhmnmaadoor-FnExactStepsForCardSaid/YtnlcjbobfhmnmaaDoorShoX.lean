/-
  Fewer steps that light the same: plain recursion; what the reference returns. Condition: at most 1048576 steps.
-/
import Derived.Test.YtnlcjbobfhmnmaaDoorMirX
namespace Go.Proofs.YtnlcjbobfhmnmaaDoor
open Go.RowKit

/-- Entry k changed. -/
def putI (f : Nat → Int) (k : Nat) (x : Int) (j : Nat) : Int := if j = k then x else f j
/-- Can a step join the i-th? -/
def jnB (F0 F1 : Nat → Int) (m t : Int) (i : Nat) : Bool := (F1 i == t) && (bits BinOp.and IntKind.u64 (F0 i) m == 0)
/-- The first of the first q that p holds of, else q. -/
def fstJ (p : Nat → Bool) : Nat → Nat
  | 0 => 0
  | q + 1 => if fstJ p q < q then fstJ p q else if p q = true then q else q + 1
theorem fstJ_no {p : Nat → Bool} : ∀ {q : Nat}, (∀ i, i < q → p i = false) → fstJ p q = q
  | 0, _ => rfl
  | q + 1, h => by
    have h1 := fstJ_no (q := q) fun i hi => h i (by omega)
    have h2 := h q (by omega)
    simp [fstJ, h1, h2]
theorem fstJ_at {p : Nat → Bool} {k : Nat} (hp : p k = true) (h : ∀ i, i < k → p i = false) : ∀ {q : Nat}, k < q → fstJ p q = k
  | 0, hk => by omega
  | q + 1, hk => by
    by_cases h1 : k < q
    · have h2 := fstJ_at hp h h1
      simp [fstJ, h2, h1]
    · obtain rfl : k = q := by omega
      have h2 := fstJ_no h
      simp [fstJ, h2, hp]
/-- One step more. -/
def jnS (s : Nat × (Nat → Int) × (Nat → Int)) (m t : Int) : Nat × (Nat → Int) × (Nat → Int) :=
  if m = 0 then s else if fstJ (jnB s.2.1 s.2.2 m t) s.1 < s.1 then (s.1, putI s.2.1 (fstJ (jnB s.2.1 s.2.2 m t) s.1) (bits BinOp.or IntKind.u64 (s.2.1 (fstJ (jnB s.2.1 s.2.2 m t) s.1)) m), s.2.2) else (s.1 + 1, putI s.2.1 s.1 m, putI s.2.2 s.1 t)
theorem jnS_z (s : Nat × (Nat → Int) × (Nat → Int)) (t : Int) : jnS s 0 t = s := by simp [jnS]
theorem jnS_at {Q : Nat} {F0 F1 : Nat → Int} {m t : Int} (hm : m ≠ 0) {j : Nat} (hj : j < Q) (hp : jnB F0 F1 m t j = true) (h : ∀ i, i < j → jnB F0 F1 m t i = false) : jnS (Q, F0, F1) m t = (Q, putI F0 j (bits BinOp.or IntKind.u64 (F0 j) m), F1) := by
  have e := fstJ_at hp h hj
  simp [jnS, hm, e, hj]
theorem jnS_no {Q : Nat} {F0 F1 : Nat → Int} {m t : Int} (hm : m ≠ 0) (h : ∀ i, i < Q → jnB F0 F1 m t i = false) : jnS (Q, F0, F1) m t = (Q + 1, putI F0 Q m, putI F1 Q t) := by
  have e := fstJ_no h
  simp [jnS, hm, e]
/-- The first k steps, made fewer. -/
def shS (fs es : Nat → Int) : Nat → Nat × (Nat → Int) × (Nat → Int)
  | 0 => (0, fun _ => 0, fun _ => 0)
  | k + 1 => jnS (shS fs es k) (fs k) (es k)
theorem jnS_le (s : Nat × (Nat → Int) × (Nat → Int)) (m t : Int) : (jnS s m t).1 ≤ s.1 + 1 := by
  unfold jnS
  split
  · omega
  · split
    · show s.1 ≤ s.1 + 1; omega
    · show s.1 + 1 ≤ s.1 + 1; omega
theorem shS_le (fs es : Nat → Int) : ∀ k, (shS fs es k).1 ≤ k
  | 0 => Nat.le_refl _
  | k + 1 => by
    have h1 := shS_le fs es k
    have h2 := jnS_le (shS fs es k) (fs k) (es k)
    show (jnS (shS fs es k) (fs k) (es k)).1 ≤ k + 1
    omega
theorem jnB_no1 {F0 F1 : Nat → Int} {m t : Int} {i : Nat} (h : (F1 i == t) = false) : jnB F0 F1 m t i = false := by simp only [jnB, h, Bool.false_and]
theorem jnB_no2 {F0 F1 : Nat → Int} {m t : Int} {i : Nat} (h : (bits BinOp.and IntKind.u64 (F0 i) m == 0) = false) : jnB F0 F1 m t i = false := by simp only [jnB, h, Bool.and_false]
theorem jnB_yes {F0 F1 : Nat → Int} {m t : Int} {i : Nat} (h1 : (F1 i == t) = true) (h : (bits BinOp.and IntKind.u64 (F0 i) m == 0) = true) : jnB F0 F1 m t i = true := by simp only [jnB, h, h1, Bool.and_self]

theorem listSt_get? (F0 F1 : Nat → Int) {k j : Nat} (h : j < k * 2) : (listSt F0 F1 k)[j]? = some (cellStepS F0 F1 j) := by
  have h1 : j < (listSt F0 F1 k).length := by rw [listSt_len]; exact h
  have h2 := listSt_get F0 F1 k j h
  rw [List.getElem?_eq_getElem h1] at h2 ⊢
  exact congrArg some h2
/-- A list of ours, in a row. -/
structure RowS (w : World) (L g cap n : Nat) (F0 F1 : Nat → Int) : Prop where
  base : L ≤ g
  room : n ≤ cap
  most : cap ≤ maxLen
  row : ∃ hh, w.rowIs g 60 (cap * 2) hh ∧ ∀ j, j < n * 2 → hh j = cellStepS F0 F1 j
theorem RowS.own {w : World} {L g cap n : Nat} {F0 F1 : Nat → Int} (h : RowS w L g cap n F0 F1) : w.ownsRow L 60 2 (.slice (some ⟨g, 0, none⟩) n cap) n (listSt F0 F1 n) := by
  obtain ⟨hh, ⟨cur, hb, hs, hi⟩, he⟩ := h.row
  refine ⟨listSt_len F0 F1 n, .inr ⟨g, cap, cur, rfl, h.base, hb, h.room, h.most, hs, ?_⟩⟩
  have hrm := h.room
  refine List.ext_getElem? fun j => ?_
  by_cases hj : j < n * 2
  · rw [List.getElem?_take, if_pos hj, listSt_get? F0 F1 hj, ← he j hj]
    simpa using hi j (by omega)
  · rw [List.getElem?_take, if_neg hj, List.getElem?_eq_none (by rw [listSt_len]; omega)]
theorem RowS.of {w : World} {L g cap n : Nat} {F0 F1 : Nat → Int} (h : w.ownsRow L 60 2 (.slice (some ⟨g, 0, none⟩) n cap) n (listSt F0 F1 n)) : RowS w L g cap n F0 F1 := by
  obtain ⟨hl, h⟩ := h
  rcases h with ⟨h0, _⟩ | ⟨b, cap', cur, e, hb, hh, hn', hm, hs, ht⟩
  · cases h0
  · injection e with e1 e2 e3
    injection e1 with e1
    injection e1 with e1
    subst e1; subst e3
    refine ⟨hb, hn', hm, fun j => cur[j]?.getD undef, ⟨cur, hh, hs, fun i hi => by simp [hs, hi]⟩, fun j hj => ?_⟩
    have hg := listSt_get F0 F1 n j hj
    rw [← ht, List.getElem?_take, if_pos hj] at hg
    rw [← hg]
    simp
theorem RowS.cell0 {w : World} {L g cap n : Nat} {F0 F1 : Nat → Int} (h : RowS w L g cap n F0 F1) {k : Nat} (hk : k < n) : w.cell? ⟨g, k * 2, none⟩ = some (.int .u64 (F0 k)) := by
  obtain ⟨hh, hr, he⟩ := h.row
  have := h.room
  rw [hr.cell (by omega), he _ (by omega), cellStepS_0]
theorem RowS.cell1 {w : World} {L g cap n : Nat} {F0 F1 : Nat → Int} (h : RowS w L g cap n F0 F1) {k : Nat} (hk : k < n) : w.cell? ⟨g, k * 2 + 1, none⟩ = some (.int .i8 (F1 k)) := by
  obtain ⟨hh, hr, he⟩ := h.row
  have := h.room
  rw [hr.cell (by omega), he _ (by omega), cellStepS_1]
theorem RowS.frozen {w : World} {L g cap n : Nat} {F0 F1 : Nat → Int} (h : RowS w L g cap n F0 F1) (k : Nat) : w.frozen? ⟨g, k, none⟩ = false := by
  obtain ⟨hh, hr, he⟩ := h.row
  exact hr.frozen k
theorem RowS.lt {w : World} {L g cap n : Nat} {F0 F1 : Nat → Int} (h : RowS w L g cap n F0 F1) : g < w.heap.size := by
  obtain ⟨hh, hr, he⟩ := h.row
  exact hr.lt
theorem RowS.below {w w' : World} {L g cap n : Nat} {F0 F1 : Nat → Int} (h : RowS w L g cap n F0 F1) (hb : Below w.heap.size w w') : RowS w' L g cap n F0 F1 := by
  have hl := h.lt
  obtain ⟨hh, hr, he⟩ := h.row
  exact ⟨h.base, h.room, h.most, hh, hr.of_block (hb.block g hl), he⟩
theorem RowS.setM {w : World} {L g cap n : Nat} {F0 F1 : Nat → Int} (h : RowS w L g cap n F0 F1) (k : Nat) (x : Int) : RowS (w.setCell ⟨g, k * 2, none⟩ (.int .u64 x)) L g cap n (putI F0 k x) F1 := by
  obtain ⟨hh, hr, he⟩ := h.row
  refine ⟨h.base, h.room, h.most, _, hr.set (k * 2) (.int .u64 x), fun j hj => ?_⟩
  obtain ⟨i, rfl | rfl⟩ : ∃ i, j = i * 2 ∨ j = i * 2 + 1 := ⟨j / 2, by omega⟩
  · rw [cellStepS_0]
    by_cases e : i = k
    · subst e; simp [putI]
    · have e2 : ¬ i * 2 = k * 2 := by omega
      simp only [e2, if_false, putI, e]
      rw [he _ hj, cellStepS_0]
  · rw [cellStepS_1]
    have e2 : ¬ i * 2 + 1 = k * 2 := by omega
    simp only [e2, if_false]
    rw [he _ hj, cellStepS_1]
theorem RowS.mine {w : World} {L g cap n : Nat} {F0 F1 : Nat → Int} (h : RowS w L g cap n F0 F1) : Mine w L w.heap.size 60 2 (.slice (some ⟨g, 0, none⟩) n cap) n (cellStepS F0 F1) := Mine.of_listSt h.own
theorem listSt_congr {F0 F1 G0 G1 : Nat → Int} : ∀ n, (∀ j, j < n → F0 j = G0 j ∧ F1 j = G1 j) → listSt F0 F1 n = listSt G0 G1 n
  | 0, _ => rfl
  | n + 1, h => by
    rw [listSt, listSt, listSt_congr n fun j hj => h j (by omega), (h n (by omega)).1, (h n (by omega)).2]
theorem listSt_put (F0 F1 : Nat → Int) (n : Nat) (m t : Int) : listSt F0 F1 n ++ [.int .u64 m, .int .i8 t] = listSt (putI F0 n m) (putI F1 n t) (n + 1) := by
  have h := listSt_congr (F0 := F0) (F1 := F1) (G0 := putI F0 n m) (G1 := putI F1 n t) n fun j hj => by
    have e : ¬ j = n := by omega
    simp [putI, e]
  rw [listSt, ← h]
  simp [putI]

theorem row_drew {w : World} {L g cap n : Nat} {F0 F1 : Nat → Int} {p : Addr} {x : Value} {k : Nat} (h : RowS (w.setCell p x) L g cap n F0 F1) : RowS ((w.drewN k).setCell p x) L g cap n F0 F1 := ⟨h.base, h.room, h.most, h.row⟩

end Go.Proofs.YtnlcjbobfhmnmaaDoor


namespace Go.Proofs.YtnlcjbobfhmnmaaDoor
open Go.RowKit

/-- What a step is taken as. -/
def expV (m t : Int) : Value := if m = 0 then .iface 135 (.agg #[]) else .iface 137 (.agg #[.int .u64 m, .int .i8 t])
theorem zeroIdle : (Tryd.prog.info? 135).map (·.zero) = some (some (.agg #[])) := by kernel_rfl
theorem ta_ii (v : Value) (x : TypeId) (w : World) : (Instr.typeAssert (.iface 135 v) x 135 true).run Tryd.prog w = .ok (.tuple #[v, .bool true]) w := by
  simp [Instr.typeAssert, run_underlying Tryd.underlying135]
theorem ta_ee (v : Value) (x : TypeId) (w : World) : (Instr.typeAssert (.iface 137 v) x 137 true).run Tryd.prog w = .ok (.tuple #[v, .bool true]) w := by
  simp [Instr.typeAssert, run_underlying Tryd.underlying137]
theorem ta_ei (v : Value) (x : TypeId) (w : World) : (Instr.typeAssert (.iface 137 v) x 135 true).run Tryd.prog w = .ok (.tuple #[.agg #[], .bool false]) w := by
  obtain ⟨j, hj, hz⟩ := Option.map_eq_some_iff.1 zeroIdle
  simp [Instr.typeAssert, run_underlying Tryd.underlying135, zeroValue, typeInfo, hj, hz]

set_option maxHeartbeats 1000000 in
theorem exposureOf_any (m t : Int) (w : World) : Calls Tryd.prog 69 #[.agg #[.int .u64 m, .int .i8 t]] w fun e w' => e = .returned (expV m t) ∧ Below w.heap.size w w' := by
  unfold expV
  by_cases h : m = 0
  · subst h
    rw [if_pos rfl]
    go_enter Tryd.func69, Tryd.ntmps69
    go_wp2_with fail
    go_ret
    exact ⟨rfl, (Below.refl _ _).alloc (Nat.le_refl _) _⟩
  · rw [if_neg h]
    go_enter Tryd.func69, Tryd.ntmps69
    go_wp2_with fail
    go_ret
    exact ⟨rfl, (Below.refl _ _).alloc (Nat.le_refl _) _⟩

theorem rowS_alloc {w : World} {L g cap n : Nat} {F0 F1 : Nat → Int} (h : RowS w L g cap n F0 F1) (o : Obj) : RowS (w.alloc o) L g cap n F0 F1 := h.below ((Below.refl _ _).alloc (Nat.le_refl _) o)
theorem rowS_drew {w : World} {L g cap n : Nat} {F0 F1 : Nat → Int} (h : RowS w L g cap n F0 F1) : RowS w.drew L g cap n F0 F1 := ⟨h.base, h.room, h.most, h.row⟩
theorem below_drewJ {B : Nat} {a w : World} (h : Below B a w) : Below B a w.drew := ⟨h.os, h.tape, h.output, h.size, h.block⟩
theorem below_setAlloc {B : Nat} {a w : World} (h : Below B a w) {p : Addr} (hp : B ≤ p.block) (hB : B ≤ w.heap.size) (v : Value) (o : Obj) : Below B a ((w.setCell p v).alloc o) := (h.setCell hp v).alloc (by simp; exact hB) o

end Go.Proofs.YtnlcjbobfhmnmaaDoor

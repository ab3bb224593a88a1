/-
  Fewer steps that light the same: what the program's functions return. Condition: at most 1048576 steps; its variables hold their own errors.
-/
import Derived.Test.YtnlcjbobfhmnmaaDoorShorterS
namespace Go.Proofs.YtnlcjbobfhmnmaaDoor
open Go.RowKit

/-- What a step is taken as. -/
def expV (m t : Int) : Value := if m = 0 then .iface 135 (.agg #[]) else .iface 137 (.agg #[.int .u64 m, .int .i8 t])
theorem zeroIdle : (Tryd.prog.info? 135).map (·.zero) = some (some (.agg #[])) := by kernel_rfl
theorem ta_ii (v : Value) (x : TypeId) (w : World) : (Instr.typeAssert (.iface 135 v) x 135 true).run Tryd.prog w = .ok (.tuple #[v, .bool true]) w := by
  simp [Instr.typeAssert, run_underlying Tryd.underlying135]
theorem ta_ee (v : Value) (x : TypeId) (w : World) : (Instr.typeAssert (.iface 137 v) x 137 true).run Tryd.prog w = .ok (.tuple #[v, .bool true]) w := by
  simp [Instr.typeAssert, run_underlying Tryd.underlying137]
theorem ta_ei (v : Value) (x : TypeId) (w : World) : (Instr.typeAssert (.iface 137 v) x 135 true).run Tryd.prog w = .ok (.tuple #[.agg #[], .bool false]) w := by
  obtain ⟨j, hj, hz⟩ := Option.map_eq_some_iff.1 zeroIdle
  simp [Instr.typeAssert, run_underlying Tryd.underlying135, zeroValue, typeInfo, hj, hz]

set_option maxHeartbeats 1000000 in
theorem exposureOf_any (m t : Int) (w : World) : Calls Tryd.prog 69 #[.agg #[.int .u64 m, .int .i8 t]] w fun e w' => e = .returned (expV m t) ∧ Below w.heap.size w w' := by
  unfold expV
  by_cases h : m = 0
  · subst h
    rw [if_pos rfl]
    go_enter Tryd.func69, Tryd.ntmps69
    go_wp2_with fail
    go_ret
    exact ⟨rfl, (Below.refl _ _).alloc (Nat.le_refl _) _⟩
  · rw [if_neg h]
    go_enter Tryd.func69, Tryd.ntmps69
    go_wp2_with fail
    go_ret
    exact ⟨rfl, (Below.refl _ _).alloc (Nat.le_refl _) _⟩

theorem rowS_alloc {w : World} {L g cap n : Nat} {F0 F1 : Nat → Int} (h : RowS w L g cap n F0 F1) (o : Obj) : RowS (w.alloc o) L g cap n F0 F1 := h.below ((Below.refl _ _).alloc (Nat.le_refl _) o)
theorem rowS_drew {w : World} {L g cap n : Nat} {F0 F1 : Nat → Int} (h : RowS w L g cap n F0 F1) : RowS w.drew L g cap n F0 F1 := ⟨h.base, h.room, h.most, h.row⟩
theorem below_drewJ {B : Nat} {a w : World} (h : Below B a w) : Below B a w.drew := ⟨h.os, h.tape, h.output, h.size, h.block⟩
theorem below_setAlloc {B : Nat} {a w : World} (h : Below B a w) {p : Addr} (hp : B ≤ p.block) (hB : B ≤ w.heap.size) (v : Value) (o : Obj) : Below B a ((w.setCell p v).alloc o) := (h.setCell hp v).alloc (by simp; exact hB) o

end Go.Proofs.YtnlcjbobfhmnmaaDoor

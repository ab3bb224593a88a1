/-
  The place on the paper's curve, with and without light: a panic that is recovered. Of the program; no condition beside the bounds.
-/
import Derived.Test.YtnlcjbobfhmnmaaDoorOwn
import Derived.Defers
import Derived.Recover
import Derived.Stop.Asserts
namespace Go.Proofs.YtnlcjbobfhmnmaaDoor
open Go.RowKit

theorem ta_placed (v : Value) (x : TypeId) (w : World) : (Instr.typeAssert (.iface 146 v) x 142 true).run Tryd.prog w = .ok (.tuple #[.iface 146 v, .bool true]) w := run_typeAssert_hasB Tryd.underlying142 (by kernel_rfl) v x w
theorem zeroPlaced : (Tryd.prog.info? 142).map (·.zero) = some (some .nilIface) := by kernel_rfl
theorem ta_nil (x : TypeId) (w : World) : (Instr.typeAssert .nilIface x 142 true).run Tryd.prog w = .ok (.tuple #[.nilIface, .bool false]) w := by
  obtain ⟨j, hj, hz⟩ := Option.map_eq_some_iff.1 zeroPlaced
  simp [Instr.typeAssert, run_underlying Tryd.underlying142, zeroValue, typeInfo, hj, hz]
theorem inv_place (x : Value) (w : World) : (invoke (.fn (.method "loop.example/g01301/impl.place") #[]) #[.iface 146 x]).run Tryd.prog w = .ok (.enter 119 #[x]) w := by kernel_rfl

theorem unlitPlace_any (w : World) : Calls Tryd.prog 119 #[.agg #[]] w fun e w' => e = .returned (.int .i64 (-200)) ∧ Below w.heap.size w w' := by
  go_enter Tryd.func119, Tryd.ntmps119
  go_wp2_with fail
  go_ret
  exact ⟨rfl, (Below.refl _ _).alloc (Nat.le_refl _) _⟩

set_option maxRecDepth 100000 in
set_option maxHeartbeats 1000000 in
theorem catch_panicking (b : Nat) (x : Int) (older : List PanicEntry) (w : World) (hc : w.cell? ⟨b, 0, none⟩ = some (.int .i64 x)) (hz : w.frozen? ⟨b, 0, none⟩ = false) :
    CallsD Tryd.prog 83 #[.pointer (some ⟨b, 0, none⟩)] (.panicking ({ v := .iface 146 (.agg #[]), recovered := false } :: older)) w fun e u' w' =>
      e = .returned (.tuple #[]) ∧ u' = .panicking ({ v := .iface 146 (.agg #[]), recovered := true } :: older) ∧ ∃ w1, Below w.heap.size w w1 ∧ w' = w1.setCell ⟨b, 0, none⟩ (.int .i64 (-200)) := by
  have t1 := fun X W => ta_placed (.agg #[]) X W
  have hb := World.block_lt_of_cell? w _ hc
  refine callsD_of_wpS Tryd.func83 rfl fun c₀ cs hu => ?_
  apply wpS_seq
  apply wpS_region
  simp [wpOpsS, go_sem, recoverD, hu, Tryd.ntmps83, Exit.thenS, t1]
  apply wpS_seq
  apply wpS_region
  simp [wpOpsS, go_sem, recoverD, Exit.thenS]
  refine wpS_cond (t := true) (by simp [Act.eval, Array.replicate]) ?_
  simp only [if_true]
  refine wpS_of_wp ?_
  change Code.wp _ _ _ { tmps := #[.pointer (some ⟨b, 0, none⟩), .iface 146 (.agg #[]), .bool true, .tuple #[.iface 146 (.agg #[]), .bool true], .iface 146 (.agg #[]), .tuple #[.iface 146 (.agg #[]), .bool true], .iface 146 (.agg #[]), .bool true, .bool true, undef, undef], defers := [] } _
  have t2 := fun W => inv_place (.agg #[]) W
  go_wp2_with fail
  change Oper.upon _ _ _ _ _ ((invoke (.fn (.method "loop.example/g01301/impl.place") #[]) #[.iface 146 (.agg #[])]).run Tryd.prog w)
  rw [inv_place]
  rw [Oper.upon_enter]
  refine (unlitPlace_any _).mono ?_; rintro e w1 ⟨rfl, hb1⟩
  have hc1 : w1.cell? ⟨b, 0, none⟩ = some (.int .i64 x) := below_cellOf hb1 hc (Nat.le_refl _)
  have hz1 : w1.frozen? ⟨b, 0, none⟩ = false := by rw [show w1.frozen? ⟨b, 0, none⟩ = w.frozen? ⟨b, 0, none⟩ by unfold World.frozen?; rw [hb1.block b hb]]; exact hz
  go_wp2_with fail
  exact ⟨rfl, _, rfl, .tuple #[], by simp [results, Tryd.results83], rfl, rfl, w1, hb1, rfl⟩

set_option maxRecDepth 100000 in
theorem catch_idle (b : Nat) (w : World) :
    CallsD Tryd.prog 83 #[.pointer (some ⟨b, 0, none⟩)] .returning w fun e u' w' => e = .returned (.tuple #[]) ∧ u' = .returning ∧ w' = w := by
  have t1 := fun X W => ta_nil X W
  refine callsD_of_wpS Tryd.func83 rfl fun c₀ cs hu => ?_
  apply wpS_seq
  apply wpS_region
  simp [wpOpsS, go_sem, recoverD, hu, Tryd.ntmps83, Exit.thenS, t1]
  apply wpS_seq
  apply wpS_region
  simp [wpOpsS, go_sem, recoverD, Exit.thenS]
  refine wpS_cond (t := false) (by simp [Act.eval, Array.replicate]) ?_
  simp only [Bool.false_eq_true, if_false]
  refine wpS_of_wp (wp_skip ?_)
  cases c₀
  simp_all [bodyPostS, results, Tryd.results83]

/-- The place. -/
def plc (L D : Int) : Int := if L = -1 then -200 else L - (D + 5) / 10

theorem litPlace_dark (D : Int) (w : World) : Calls Tryd.prog 84 #[.int .i64 (-1), .int .i64 D] w fun e w' => e = .panicked [{ v := .iface 146 (.agg #[]), recovered := false }] ∧ w = w' := by
  go_enter Tryd.func84, Tryd.ntmps84
  go_wp2
  exact ⟨rfl, rfl, rfl⟩

set_option maxRecDepth 100000 in
set_option maxHeartbeats 1000000 in
theorem placeOf_dark (D : Int) (w : World) : Calls Tryd.prog 72 #[.int .i64 (-1), .int .i64 D] w fun e w' => e = .returned (.int .i64 (-200)) ∧ Below w.heap.size w w' := by
  have hmf : ∀ (fn : Fn) (first cap : Array Value) (w : World), (Instr.makeFunc fn first cap).run Tryd.prog w = .ok (.func fn first cap) w := fun _ _ _ _ => rfl
  go_enter_defers Tryd.func72, Tryd.ntmps72
  go_wp2_with fail
  refine (litPlace_dark D _).mono ?_; rintro e w1 ⟨rfl, rfl⟩
  refine leaves_cons (f := 83) (args := #[.pointer (some ⟨w.heap.size, 0, none⟩)]) (by simp) (by simp [go_sem]) ?_
  refine (catch_panicking w.heap.size 0 [] _ ?_ ?_).mono ?_
  · simp [go_sem]
  · simp [go_sem]
  rintro e u' w'' ⟨rfl, rfl, w1, hb, rfl⟩
  have c0 : w1.cell? ⟨w.heap.size, 0, none⟩ = some (.int .i64 0) := below_cellOf hb (by simp) (Nat.le_refl _)
  have c1 : (w1.setCell ⟨w.heap.size, 0, none⟩ (.int .i64 (-200))).cell? ⟨w.heap.size, 0, none⟩ = some (.int .i64 (-200)) := World.cell?_setCell_same _ _ _ c0
  have kB : Below w.heap.size w (w1.setCell ⟨w.heap.size, 0, none⟩ (.int .i64 (-200))) := (((Below.refl w.heap.size w).alloc (Nat.le_refl _) _).trans (hb.mono (by simp))).setCell (by simp) _
  simp [Leaves, settle, results, Tryd.results72, go_sem, c1]
  exact kB

set_option maxRecDepth 100000 in
set_option maxHeartbeats 1000000 in
theorem placeOf_lit (L D : Int) (hL : 0 ≤ L) (hL2 : L ≤ 36) (hD : 0 ≤ D) (hD2 : D ≤ 400) (w : World) : Calls Tryd.prog 72 #[.int .i64 L, .int .i64 D] w fun e w' => e = .returned (.int .i64 (L - (D + 5) / 10)) ∧ Below w.heap.size w w' := by
  have hmf : ∀ (fn : Fn) (first cap : Array Value) (w : World), (Instr.makeFunc fn first cap).run Tryd.prog w = .ok (.func fn first cap) w := fun _ _ _ _ => rfl
  have hne : ¬ L = -1 := by omega
  go_enter_defers Tryd.func72, Tryd.ntmps72
  go_wp2
  refine leaves_cons (f := 83) (args := #[.pointer (some ⟨w.heap.size, 0, none⟩)]) (by simp) (by simp [go_sem]) ?_
  refine (catch_idle w.heap.size _).mono ?_
  rintro e u' w'' ⟨rfl, rfl, rfl⟩
  simp [Leaves, settle, results, Tryd.results72, go_sem]
  exact (Below.refl _ _).alloc (Nat.le_refl _) _

theorem placeOf_any (L D : Int) (hL : -1 ≤ L) (hL2 : L ≤ 36) (hD : 0 ≤ D) (hD2 : D ≤ 400) (w : World) : Calls Tryd.prog 72 #[.int .i64 L, .int .i64 D] w fun e w' => e = .returned (.int .i64 (plc L D)) ∧ Below w.heap.size w w' := by
  unfold plc
  by_cases h : L = -1
  · subst h
    rw [if_pos rfl]
    exact placeOf_dark D w
  · rw [if_neg h]
    exact placeOf_lit L D (by omega) hL2 hD hD2 w
end Go.Proofs.YtnlcjbobfhmnmaaDoor

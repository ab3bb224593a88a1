/-
  The dust of copies in the program, where they are refused. Condition: its variables hold their own errors; at most 1048576 copies of 16-bit numbers.
-/
import Derived.Test.YtnohpkhaimmdmaaDoorDst
namespace Go.Proofs.YtnohpkhaimmdmaaDoor
open Go.RowKit

theorem dzSize : (Tryd.zeroCells67).size = 65 := by kernel_rfl
theorem dzOne : (Tryd.zeroCells67).all (·.oneCell') = true := by kernel_rfl
section
variable {ops : Array Oper} {rest : List Oper} {o : Oper} {a : Act} {Q : Exit → Act → World → Prop} {w : World} {q : Nat}
theorem wpList_store_dz {cs : Array Value} {T : TypeId} (h0 : w.heap[q]? = some (.cells cs T (0, 0))) (hcs : cs.size = 65) (hg : o.guard = none) (x y : Operand) (ho : o.op = .store 67 x y) (hx : a.eval x = .pointer (some ⟨q, 0, none⟩)) (hy : a.eval y = .agg Tryd.zeroCells67)
    (hK : wpList Tryd.prog ops Q rest (a.put o.dst undef) (w.setRow q Tryd.zeroCells67)) : wpList Tryd.prog ops Q (o :: rest) a w :=
  wpList_store_row hg 67 x y ho q _ hx hy T _ h0 (by rw [dzSize]; exact sizeDs) (by rw [dzSize]; exact hcs) dzOne hK
end

set_option maxRecDepth 100000 in
set_option maxHeartbeats 2000000 in
theorem dustOf_bad (s : Ers) (A : Option Addr) (n cap : Nat) (g : Nat → Nat → Int) (x : Int) (hn : n ≤ 1048576) (hc : copC n g x ≠ 0) (w : World) (hr : PrsIn w A n g) (hE : ErrEnv s w) :
    Calls Tryd.prog 30 #[.slice A n cap, .int .i64 x] w fun e w' => e = .returned (.tuple #[.agg Tryd.zeroCells67, copE s (copC n g x)]) ∧ Below w.heap.size w w' := by
  have k0 := (Below.refl w.heap.size w).alloc (Nat.le_refl _) (.cells Tryd.zeroCells67 67)
  have a0 : (w.alloc (.cells Tryd.zeroCells67 67)).heap[w.heap.size]? = some (.cells Tryd.zeroCells67 67 (0, 0)) := heap_alloc_last w _
  have hq := checkCopiesWithin_any s A n cap g x hn _ (hr.below k0 (Nat.le_refl _)) (hE.below k0 (Nat.le_refl _))
  obtain ⟨a, ha⟩ := copE_ne s hc
  rw [ha] at hq ⊢
  have Hq := Lib.hid hq; clear hq hc hr hE ha
  go_enter Tryd.func30, Tryd.ntmps30
  go_wp2_with fail
  refine Hq.out.mono ?_; rintro e w2 ⟨rfl, hb2⟩
  have k2 := k0.trans (hb2.mono k0.size)
  have a2 : w2.heap[w.heap.size]? = some (.cells Tryd.zeroCells67 67 (0, 0)) := (hb2.block w.heap.size (by simp)).trans a0
  clear hb2 a0 k0 Hq
  go_wp2_with (refine wpList_store_dz a2 dzSize rfl (.tmp 4) (.tmp 15) rfl rfl rfl ?_)
  refine bodyPost_ret (v := .tuple #[.agg Tryd.zeroCells67, errV a]) ?_ rfl ⟨rfl, below_setRow k2 (b := w.heap.size) (by omega) _⟩
  exact resultsRowTmp1 rfl _ _ _ _ _ _ _ rfl (show _ = some (Obj.cells Tryd.zeroCells67 67 (0, 0)) from setRow_heap _ _ _ _ _ _ a2) Tryd.underlying67 rfl (by rw [dzSize]; exact sizeDs) _ rfl
end Go.Proofs.YtnohpkhaimmdmaaDoor

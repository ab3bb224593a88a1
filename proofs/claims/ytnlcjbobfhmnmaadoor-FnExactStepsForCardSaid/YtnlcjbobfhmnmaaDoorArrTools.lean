/-
  A region that stores an empty array and an error, in whatever order: steps for it. Of whatever program; each theorem names its own condition.
-/
import Derived.Test.YtnlcjbobfhmnmaaDoorNegs
import Derived.Test.YtnlcjbobfhmnmaaDoorErrs
import Derived.BigQuiet
import Derived.BigRegion
import Derived.StillTailTactics
import Derived.Test.YtnlcjbobfhmnmaaDoorQuietTail
namespace Go.Proofs.YtnlcjbobfhmnmaaDoor
open Go.RowKit

theorem step_store_arr {P : Program} {ops : Array Oper} {o : Oper} {a : Act} {w : World} {K : Act → World → Prop} {Q : Exit → Act → World → Prop} {E : Prop} {b : Nat} {T : TypeId} {κ κ' : IntKind} {n : Nat} {f g : Nat → Int}
    (h : HasArr w b T κ n f) (hg : o.guard = none) (ty : TypeId) (x y : Operand) (ho : o.op = .store ty x y) (hx : a.eval x = .pointer (some ⟨b, 0, none⟩)) (hy : a.eval y = .agg (arrV κ' n g)) (hi : (P.info? ty).map (·.size) = some n)
    (hK : K (a.put o.dst undef) (w.setRow b (arrV κ' n g))) : if Region.wanted o (yielded ops a.tmps) = true then Oper.wp P o a w K Q else E := by
  have hw : Region.wanted o (yielded ops a.tmps) = true := by simp [Region.wanted, hg]
  rw [if_pos hw]
  exact wp_store_row ty x y ho b _ hx hy T _ h (by rw [arrV_size]; exact hi) (by rw [arrV_size, arrV_size]) (arrV_one _ _ _) hK
theorem step_store_z {P : Program} {ops : Array Oper} {o : Oper} {a : Act} {w : World} {K : Act → World → Prop} {Q : Exit → Act → World → Prop} {E : Prop} {b : Nat} {T : TypeId} {κ : IntKind} {f : Nat → Int}
    (h : HasArr w b T κ 64 f) (hg : o.guard = none) (ty : TypeId) (x y : Operand) (ho : o.op = .store ty x y) (hx : a.eval x = .pointer (some ⟨b, 0, none⟩)) (hy : a.eval y = .agg #[.int .i16 0, .int .i16 0, .int .i16 0, .int .i16 0, .int .i16 0, .int .i16 0, .int .i16 0, .int .i16 0, .int .i16 0, .int .i16 0, .int .i16 0, .int .i16 0, .int .i16 0, .int .i16 0, .int .i16 0, .int .i16 0, .int .i16 0, .int .i16 0, .int .i16 0, .int .i16 0, .int .i16 0, .int .i16 0, .int .i16 0, .int .i16 0, .int .i16 0, .int .i16 0, .int .i16 0, .int .i16 0, .int .i16 0, .int .i16 0, .int .i16 0, .int .i16 0, .int .i16 0, .int .i16 0, .int .i16 0, .int .i16 0, .int .i16 0, .int .i16 0, .int .i16 0, .int .i16 0, .int .i16 0, .int .i16 0, .int .i16 0, .int .i16 0, .int .i16 0, .int .i16 0, .int .i16 0, .int .i16 0, .int .i16 0, .int .i16 0, .int .i16 0, .int .i16 0, .int .i16 0, .int .i16 0, .int .i16 0, .int .i16 0, .int .i16 0, .int .i16 0, .int .i16 0, .int .i16 0, .int .i16 0, .int .i16 0, .int .i16 0, .int .i16 0]) (hi : (P.info? ty).map (·.size) = some 64)
    (hK : K (a.put o.dst undef) (w.setRow b (arrV .i16 64 fun _ => 0))) : if Region.wanted o (yielded ops a.tmps) = true then Oper.wp P o a w K Q else E :=
  step_store_arr (g := fun _ => 0) h hg ty x y ho hx (hy.trans (by rw [zeroArr16])) hi hK
theorem run_load_arr {P : Program} {o : Oper} {ρ : Operand → Value} {w : World} {b : Nat} {T : TypeId} {κ : IntKind} {n : Nat} {f : Nat → Int} {m : Nat} {e : TypeId}
    (h : HasArr w b T κ n f) (ty : TypeId) (x : Operand) (ho : o.op = .load ty x) (hx : ρ x = .pointer (some ⟨b, 0, none⟩)) (hu : P.underlying ty = some (.array m e)) (hi : (P.info? ty).map (·.size) = some n) :
    (execOp ρ o).run P w = .ok (.value (.agg (arrV κ n f))) w := by
  unfold execOp
  simp only [ho, hx, Instr.loadAt, Instr.sureAddr, Sem.run_bind, Sem.run_pure, Result.andThen_ok, h.loadV ty hu hi]
theorem wpList_load_arrG {P : Program} {ops : Array Oper} {rest : List Oper} {o : Oper} {a : Act} {w : World} {Q : Exit → Act → World → Prop} {b : Nat} {T : TypeId} {κ : IntKind} {n : Nat} {f : Nat → Int} {m : Nat} {e : TypeId}
    (h : HasArr w b T κ n f) (ty : TypeId) (x : Operand) (hw : Region.wanted o (yielded ops a.tmps) = true) (ho : o.op = .load ty x) (hx : a.eval x = .pointer (some ⟨b, 0, none⟩)) (hu : P.underlying ty = some (.array m e)) (hi : (P.info? ty).map (·.size) = some n)
    (hK : wpList P ops Q rest (a.put o.dst (.agg (arrV κ n f))) w) : wpList P ops Q (o :: rest) a w :=
  BigFrame.wpList_want hw fun K hK' => wp_load_row ty x ho b hx T _ (0, 0) _ h hu rfl (by rw [arrV_size]; exact hi) (hK' _ _ hK)
theorem wpQuiet_load_arr {P : Program} {ops : Array Oper} {C : World → Prop} {Q : Act → Prop} {a : Act} {o : Oper} {rest : List Oper} {b : Nat} {T : TypeId} {κ : IntKind} {n : Nat} {f : Nat → Int} {m : Nat} {e : TypeId}
    (h : ∀ W, C W → HasArr W b T κ n f) (ty : TypeId) (x : Operand) (hgd : o.guard = none) (ho : o.op = .load ty x) (hx : a.eval x = .pointer (some ⟨b, 0, none⟩)) (hu : P.underlying ty = some (.array m e)) (hi : (P.info? ty).map (·.size) = some n)
    (hK : wpQuiet P ops C Q rest (a.put o.dst (.agg (arrV κ n f)))) : wpQuiet P ops C Q (o :: rest) a :=
  BigFrame.wpQuiet_want (by simp [Region.wanted, hgd]) fun _ hK' => ⟨_, fun W hW => by unfold Oper.quietAt; rw [run_load_arr (h W hW) ty x ho hx hu hi]; exact ⟨rfl, rfl⟩, hK' _ hK⟩
theorem wpQuiet_yield {P : Program} {ops : Array Oper} {C : World → Prop} {Q : Act → Prop} {a : Act} {o : Oper} {rest : List Oper} (v : Value) (hgd : o.guard = none) (h : ∀ W, (execOp a.eval o).run P W = .ok (.value v) W)
    (hK : wpQuiet P ops C Q rest (a.put o.dst v)) : wpQuiet P ops C Q (o :: rest) a :=
  BigFrame.wpQuiet_want (by simp [Region.wanted, hgd]) fun _ hK' => ⟨_, fun W _ => by unfold Oper.quietAt; rw [h W]; exact ⟨rfl, rfl⟩, hK' _ hK⟩
theorem HasArr.drew {w : World} {b : Nat} {T : TypeId} {κ : IntKind} {n : Nat} {f : Nat → Int} (h : HasArr w b T κ n f) : HasArr w.drew b T κ n f := h
theorem HasArr.drewN {w : World} {b : Nat} {T : TypeId} {κ : IntKind} {n : Nat} {f : Nat → Int} (h : HasArr w b T κ n f) (k : Nat) : HasArr (w.drewN k) b T κ n f := h
theorem below_drewA {B : Nat} {a w : World} (h : Below B a w) (n : Nat) : Below B a (w.drewN n) := ⟨h.os, h.tape, h.output, h.size, h.block⟩
theorem ErrEnv.cellAtRow {s : Ers} {w w0 : World} {b : Nat} {cs : Array Value} (h : ErrEnv s w0) (hb : Below w0.heap.size w0 w) (hB : w0.heap.size ≤ b) : ErrEnv s (w.setRow b cs) := h.below (below_setRow hb hB cs) (Nat.le_refl _)
end Go.Proofs.YtnlcjbobfhmnmaaDoor

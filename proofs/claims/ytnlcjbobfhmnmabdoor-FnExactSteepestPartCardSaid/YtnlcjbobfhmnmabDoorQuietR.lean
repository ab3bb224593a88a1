/-
  A region in the body of a range over a function whose order is open: the first operations are quiet in a class of worlds (their calls may make memory), those behind come up in their order. No operation of it defers a call. Of whatever program; no condition of ours.
-/
import Derived.RangeFuncNested
import Derived.RangeFuncLeaves
import Derived.RangeFuncBox
import Derived.Test.YtnlcjbobfhmnmabDoorQuietTail
import Derived.Test.YtnlcjbobfhmnmabDoorQuietD
import Derived.Test.YtnlcjbobfhmnmabDoorArr
namespace Go.Proofs.YtnlcjbobfhmnmabDoor
open Go.RowKit

/-- No operation defers a call. -/
def noDefer (ops : Array Oper) : Bool := ops.all fun o => match o.op with | .defer _ => false | _ => true
theorem noDefer_spec {ops : Array Oper} (h : noDefer ops = true) {i : Nat} {o : Oper} (hi : ops[i]? = some o) : ∀ c, o.op ≠ .defer c := by
  intro c e
  unfold noDefer at h
  rw [Array.all_eq_true] at h
  obtain ⟨hlt, he⟩ := Array.getElem?_eq_some_iff.1 hi
  have := h i hlt
  rw [he, e] at this
  cases this

section
variable {F : Fence} {n : Nat} {P : Program} {ops : Array Oper} {md : Region.Mode} {C : World → Prop}
theorem wpInR_of_quiet {o : Oper} {a : Act} {K : Act → Prop} {K' : Act → World → Prop} {Q' : Exit → Act → World → Prop} {w : World} (hnd : ∀ c, o.op ≠ .defer c) (hw : C w) (h : ∀ a w', C w' → K a → K' a w')
    (ha : o.askedIn F P a C) (hh : o.quietIn F n P a C K) : o.wpIn F n P a w K' Q' := by
  obtain ⟨v, h1, h2⟩ := hh
  have h3 := h1 w hw
  unfold Oper.quietAtIn at h3
  unfold Oper.wpIn
  refine ⟨ha w hw, ?_⟩
  rw [Oper.semAt_eq _ _ _ hnd]
  generalize (execOp a.eval o).run P w = r at *
  cases r with
  | ok x w' =>
    cases x <;> simp only [Oper.quietUponIn] at h3 <;> simp only [Oper.uponIn]
    case value u =>
      obtain ⟨e1, e2⟩ := h3
      rw [e1, e2]
      exact h _ _ hw h2
    case skip =>
      obtain ⟨e1, e2⟩ := h3
      rw [e1, ← e2]
      exact h _ _ hw h2
    case enter f args =>
      obtain ⟨e1, hd, hc⟩ := h3
      rw [e1]
      exact ⟨hd, hc.mono fun e w'' ⟨he, hw''⟩ => by subst he; exact h _ _ hw'' h2⟩
  | halt x w' => simp only [Oper.quietUponIn] at h3
theorem wpOpInR_of_qOpIn {i : Nat} {a : Act} {K : Act → Prop} {K' : Act → World → Prop} {Q' : Exit → Act → World → Prop} {w : World} (hnd : noDefer ops = true) (hC : C w) (h : ∀ a w', C w' → K a → K' a w')
    (hh : qOpIn F n P ops C i K a) : wpOpIn F n P ops Q' i K' a w := by
  unfold qOpIn at hh
  unfold wpOpIn
  split
  · rename_i ho; simp only [ho] at hh; exact h _ _ hC hh
  · rename_i o ho
    simp only [ho] at hh
    obtain ⟨ha, hh⟩ := hh
    split
    · rename_i hw; simp only [hw, if_true] at hh; exact wpInR_of_quiet (noDefer_spec hnd ho) hC h ha hh
    · rename_i hw; simp only [hw] at hh; exact ⟨ha w hC, h _ _ hC hh⟩
theorem anyInR_of_headQ {N g : Nat} {L : Array Bool → Act → Prop} {Q' : Exit → Act → World → Prop} (hnd : noDefer ops = true) (hL : ∀ d a w, C w → L d a → wpAnyIn F n P md ops Q' g d a w) :
    ∀ (f : Nat) (d : Array Bool) (a : Act) (w : World), C w → headQIn F n P md ops C N L f d a → wpAnyIn F n P md ops Q' (f + g) d a w
  | 0, d, a, w, hw, h => by rw [Nat.zero_add]; exact hL _ _ _ hw h
  | f + 1, d, a, w, hw, h => by
    rw [show f + 1 + g = (f + g) + 1 by omega]
    exact ⟨fun h0 => absurd h0 h.1, fun i hi => wpOpInR_of_qOpIn hnd hw (fun a' w' hw' h' => anyInR_of_headQ hnd hL f _ a' w' hw' h') (h.2 i hi).2⟩

/-- A region whose order is open, in a round. -/
theorem wpInR_region_quiet_tail {id : Nat} {Q : Exit → Act → World → Prop} {a : Act} {w : World} {l : List Oper} (N : Nat) (D : World → Prop) (hm : P.follows .mixedOrders = true) (hnd : noDefer l.toArray = true) (hB : Region.lexTailB .any l.toArray N = true) (hD : D w.drew)
    (h : wpQuietIn F n P l.toArray (fun w' => ∃ x : WIn D, w' = x.w) (fun a' => ∀ w', (∃ x : WIn D, w' = x.w) → wpListIn F n P l.toArray Q (l.drop N) a' w') (l.take N) a) : (Code.region id l.toArray true).wpIn F n P Q a w := by
  simp only [Region.lexTailB, Bool.and_eq_true, decide_eq_true_eq] at hB
  obtain ⟨⟨⟨⟨hsel, hn⟩, hs⟩, hc⟩, hlex⟩ := hB
  have hn' : N < l.length := by simpa using hn
  have htl : (l.take N).length = N := by simp; omega
  have hdl : (l.drop N).length = l.toArray.size - N := by simp
  have inv0 : HeadInv .any l.toArray N (Array.replicate l.toArray.size false) :=
    ⟨by simp, fun j oj _ hl => (by rw [getD_replicate_false] at hl; cases hl), fun t _ ht => getD_in (by simpa using ht) (getD_replicate_false _ _)⟩
  have H := headQIn_lex (md := .any) (g := l.toArray.size - N) hsel hs hc hn (l.take N) 0 _ a (fun j hj => by
    have hj' : j < N := by rw [htl] at hj; exact hj
    simp [hj']) (by simpa using htl) inv0 (by rw [htl]; exact hlex) h
  refine wpIn_region_any hm ?_
  have := anyInR_of_headQ (Q' := Q) (g := l.toArray.size - N) hnd (fun d a' w' hw' hL => by
    have := anyIn_of_seq (md := .any) (Q' := Q) (l.drop N) N d a' w' (fun j => by simp [List.getElem?_drop]) (by rw [hdl]; exact hL.1) (hL.2 w' hw')
    rwa [hdl] at this) _ _ _ _ ⟨⟨_, hD⟩, rfl⟩ H
  rw [htl, show N + (l.toArray.size - N) = l.toArray.size by omega] at this
  exact this

/-- A call that makes memory, in every world of the class, in a round. -/
theorem inCallR {f : FuncId} {args : Array Value} {w : World} {v : Value} {l : Nat} (x : WIn (Below w.heap.size w)) (h : Calls P f args x.w fun e w' => e = .returned v ∧ Below x.w.heap.size x.w w') :
    CallsIn (Fence.wide.inRound l) n P f args x.w fun e w'' => e = .returned v ∧ ∃ y : WIn (Below w.heap.size w), w'' = y.w :=
  (CallsIn.inRound l (callsIn_wide.2 h)).mono fun _ w' ⟨he, hb⟩ => ⟨he, ⟨w', x.ok.trans (hb.mono x.ok.size)⟩, rfl⟩
theorem inCallSR {f : FuncId} {args : Array Value} {w : World} {v : Value} {l : Nat} (x : WIn (Below w.heap.size w)) (h : Calls P f args x.w fun e w' => e = .returned v ∧ x.w = w') :
    CallsIn (Fence.wide.inRound l) n P f args x.w fun e w'' => e = .returned v ∧ ∃ y : WIn (Below w.heap.size w), w'' = y.w :=
  (CallsIn.inRound l (callsIn_wide.2 h)).mono fun _ _ ⟨he, hb⟩ => ⟨he, x, hb.symm⟩
theorem wpQuietIn_load_arr {Q : Act → Prop} {a : Act} {o : Oper} {rest : List Oper} {b : Nat} {T : TypeId} {κ : IntKind} {k : Nat} {f : Nat → Int} {m : Nat} {e : TypeId}
    (h : ∀ W, C W → HasArr W b T κ k f) (ty : TypeId) (x : Operand) (hgd : o.guard = none) (ho : o.op = .load ty x) (hx : a.eval x = .pointer (some ⟨b, 0, none⟩)) (hu : P.underlying ty = some (.array m e)) (hi : (P.info? ty).map (·.size) = some k)
    (hK : wpQuietIn F n P ops C Q rest (a.put o.dst (.agg (arrV κ k f)))) : wpQuietIn F n P ops C Q (o :: rest) a :=
  BigFrame.wpQuietIn_want (BigFrame.askedIn_plain (by rw [ho]; exact fun _ h => nomatch h)) (by simp [Region.wanted, hgd]) fun _ hK' => ⟨_, fun W hW => by
    have e := (h W hW).load (P := P) ty hu hi
    have e2 : (execOp a.eval o).run P W = .ok (.value (.agg (arrV κ k f))) W := by simp [execOp, ho, hx, e, Result.andThen]
    unfold Oper.quietAtIn; rw [e2]; exact ⟨rfl, rfl⟩, hK' _ hK⟩
theorem wpListIn_load_arr {Q : Exit → Act → World → Prop} {rest : List Oper} {o : Oper} {a : Act} {w : World} {b : Nat} {T : TypeId} {κ : IntKind} {k : Nat} {f : Nat → Int} {m : Nat} {e : TypeId}
    (h : HasArr w b T κ k f) (ty : TypeId) (x : Operand) (hgd : o.guard = none) (ho : o.op = .load ty x) (hx : a.eval x = .pointer (some ⟨b, 0, none⟩)) (hu : P.underlying ty = some (.array m e)) (hi : (P.info? ty).map (·.size) = some k)
    (hK : wpListIn F n P ops Q rest (a.put o.dst (.agg (arrV κ k f))) w) : wpListIn F n P ops Q (o :: rest) a w := by
  have e := h.load (P := P) ty hu hi
  have e2 : (execOp a.eval o).run P w = .ok (.value (.agg (arrV κ k f))) w := by simp [execOp, ho, hx, e, Result.andThen]
  have hw : Region.wanted o (yielded ops a.tmps) = true := by simp [Region.wanted, hgd]
  unfold wpListIn
  rw [if_pos hw]
  unfold Oper.wpIn
  refine ⟨fun f hf => ?_, ?_⟩
  · unfold Oper.about at hf; rw [ho] at hf; cases hf
  · rw [Oper.semAt_eq _ _ _ (by rw [ho]; exact fun _ h => nomatch h), e2]
    exact hK
theorem wpListIn_store_arr {Q : Exit → Act → World → Prop} {rest : List Oper} {o : Oper} {a : Act} {w : World} {b : Nat} {T : TypeId} {κ κ' : IntKind} {k : Nat} {f g : Nat → Int}
    (h : HasArr w b T κ k f) (ty : TypeId) (x y : Operand) (hgd : o.guard = none) (ho : o.op = .store ty x y) (hx : a.eval x = .pointer (some ⟨b, 0, none⟩)) (hy : a.eval y = .agg (arrV κ' k g)) (hi : (P.info? ty).map (·.size) = some k)
    (hK : wpListIn F n P ops Q rest (a.put o.dst undef) (w.setRow b (arrV κ' k g))) : wpListIn F n P ops Q (o :: rest) a w := by
  have e := h.store (P := P) ty κ' g hi
  have e2 : (execOp a.eval o).run P w = .ok .skip (w.setRow b (arrV κ' k g)) := by simp [execOp, ho, hx, hy, e, Result.andThen]
  have hw : Region.wanted o (yielded ops a.tmps) = true := by simp [Region.wanted, hgd]
  unfold wpListIn
  rw [if_pos hw]
  unfold Oper.wpIn
  refine ⟨fun f hf => ?_, ?_⟩
  · unfold Oper.about at hf; rw [ho] at hf; cases hf
  · rw [Oper.semAt_eq _ _ _ (by rw [ho]; exact fun _ h => nomatch h), e2]
    exact hK
end
end Go.Proofs.YtnlcjbobfhmnmabDoor

/-
  A region in the body of a range over a function whose order is open: the first operations are quiet in a class of worlds (their calls may make memory), those behind come up in their order. No operation of it defers a call. Of whatever program; no condition of ours.
-/
import Derived.RangeFuncNested
import Derived.RangeFuncLeaves
import Derived.RangeFuncBox
import Derived.Test.YtmibinfaafhgdaaGreatDoorQX
import Derived.Test.YtmibinfaafhgdaaGreatDoorArrX
import Derived.Test.YtmibinfaafhgdaaGreatDoorEach
import Derived.Test.YtmibinfaafhgdaaGreatDoorRndX
namespace Go.Proofs.YtmibinfaafhgdaaGreatDoor
open Go.RowKit

/-- No operation defers a call. -/
def noDefer (ops : Array Oper) : Bool := ops.all fun o => match o.op with | .defer _ => false | _ => true
theorem noDefer_spec {ops : Array Oper} (h : noDefer ops = true) {i : Nat} {o : Oper} (hi : ops[i]? = some o) : ∀ c, o.op ≠ .defer c := by
  intro c e
  unfold noDefer at h
  rw [Array.all_eq_true] at h
  obtain ⟨hlt, he⟩ := Array.getElem?_eq_some_iff.1 hi
  have := h i hlt
  rw [he, e] at this
  cases this

section
variable {F : Fence} {n : Nat} {P : Program} {ops : Array Oper} {md : Region.Mode} {C : World → Prop}
theorem wpInR_of_quiet {o : Oper} {a : Act} {K : Act → Prop} {K' : Act → World → Prop} {Q' : Exit → Act → World → Prop} {w : World} (hnd : ∀ c, o.op ≠ .defer c) (hw : C w) (h : ∀ a w', C w' → K a → K' a w')
    (ha : o.askedIn F P a C) (hh : o.quietIn F n P a C K) : o.wpIn F n P a w K' Q' := by
  obtain ⟨v, h1, h2⟩ := hh
  have h3 := h1 w hw
  unfold Oper.quietAtIn at h3
  unfold Oper.wpIn
  refine ⟨ha w hw, ?_⟩
  rw [Oper.semAt_eq _ _ _ hnd]
  generalize (execOp a.eval o).run P w = r at *
  cases r with
  | ok x w' =>
    cases x <;> simp only [Oper.quietUponIn] at h3 <;> simp only [Oper.uponIn]
    case value u =>
      obtain ⟨e1, e2⟩ := h3
      rw [e1, e2]
      exact h _ _ hw h2
    case skip =>
      obtain ⟨e1, e2⟩ := h3
      rw [e1, ← e2]
      exact h _ _ hw h2
    case enter f args =>
      obtain ⟨e1, hd, hc⟩ := h3
      rw [e1]
      exact ⟨hd, hc.mono fun e w'' ⟨he, hw''⟩ => by subst he; exact h _ _ hw'' h2⟩
  | halt x w' => simp only [Oper.quietUponIn] at h3
theorem wpOpInR_of_qOpIn {i : Nat} {a : Act} {K : Act → Prop} {K' : Act → World → Prop} {Q' : Exit → Act → World → Prop} {w : World} (hnd : noDefer ops = true) (hC : C w) (h : ∀ a w', C w' → K a → K' a w')
    (hh : qOpIn F n P ops C i K a) : wpOpIn F n P ops Q' i K' a w := by
  unfold qOpIn at hh
  unfold wpOpIn
  split
  · rename_i ho; simp only [ho] at hh; exact h _ _ hC hh
  · rename_i o ho
    simp only [ho] at hh
    obtain ⟨ha, hh⟩ := hh
    split
    · rename_i hw; simp only [hw, if_true] at hh; exact wpInR_of_quiet (noDefer_spec hnd ho) hC h ha hh
    · rename_i hw; simp only [hw] at hh; exact ⟨ha w hC, h _ _ hC hh⟩
theorem anyInR_of_headQ {N g : Nat} {L : Array Bool → Act → Prop} {Q' : Exit → Act → World → Prop} (hnd : noDefer ops = true) (hL : ∀ d a w, C w → L d a → wpAnyIn F n P md ops Q' g d a w) :
    ∀ (f : Nat) (d : Array Bool) (a : Act) (w : World), C w → headQIn F n P md ops C N L f d a → wpAnyIn F n P md ops Q' (f + g) d a w
  | 0, d, a, w, hw, h => by rw [Nat.zero_add]; exact hL _ _ _ hw h
  | f + 1, d, a, w, hw, h => by
    rw [show f + 1 + g = (f + g) + 1 by omega]
    exact ⟨fun h0 => absurd h0 h.1, fun i hi => wpOpInR_of_qOpIn hnd hw (fun a' w' hw' h' => anyInR_of_headQ hnd hL f _ a' w' hw' h') (h.2 i hi).2⟩

/-- A region whose order is open, in a round. -/
theorem wpInR_region_quiet_tail {id : Nat} {Q : Exit → Act → World → Prop} {a : Act} {w : World} {l : List Oper} (N : Nat) (D : World → Prop) (hm : P.follows .mixedOrders = true) (hnd : noDefer l.toArray = true) (hB : Region.lexTailB .any l.toArray N = true) (hD : D w.drew)
    (h : wpQuietIn F n P l.toArray (fun w' => ∃ x : WIn D, w' = x.w) (fun a' => ∀ w', (∃ x : WIn D, w' = x.w) → wpListIn F n P l.toArray Q (l.drop N) a' w') (l.take N) a) : (Code.region id l.toArray true).wpIn F n P Q a w := by
  simp only [Region.lexTailB, Bool.and_eq_true, decide_eq_true_eq] at hB
  obtain ⟨⟨⟨⟨hsel, hn⟩, hs⟩, hc⟩, hlex⟩ := hB
  have hn' : N < l.length := by simpa using hn
  have htl : (l.take N).length = N := by simp; omega
  have hdl : (l.drop N).length = l.toArray.size - N := by simp
  have inv0 : HeadInv .any l.toArray N (Array.replicate l.toArray.size false) :=
    ⟨by simp, fun j oj _ hl => (by rw [getD_replicate_false] at hl; cases hl), fun t _ ht => getD_in (by simpa using ht) (getD_replicate_false _ _)⟩
  have H := headQIn_lex (md := .any) (g := l.toArray.size - N) hsel hs hc hn (l.take N) 0 _ a (fun j hj => by
    have hj' : j < N := by rw [htl] at hj; exact hj
    simp [hj']) (by simpa using htl) inv0 (by rw [htl]; exact hlex) h
  refine wpIn_region_any hm ?_
  have := anyInR_of_headQ (Q' := Q) (g := l.toArray.size - N) hnd (fun d a' w' hw' hL => by
    have := anyIn_of_seq (md := .any) (Q' := Q) (l.drop N) N d a' w' (fun j => by simp [List.getElem?_drop]) (by rw [hdl]; exact hL.1) (hL.2 w' hw')
    rwa [hdl] at this) _ _ _ _ ⟨⟨_, hD⟩, rfl⟩ H
  rw [htl, show N + (l.toArray.size - N) = l.toArray.size by omega] at this
  exact this

/-- A call that makes memory, in every world of the class, in a round. -/
theorem inCallR {f : FuncId} {args : Array Value} {w : World} {v : Value} {l : Nat} (x : WIn (Below w.heap.size w)) (h : Calls P f args x.w fun e w' => e = .returned v ∧ Below x.w.heap.size x.w w') :
    CallsIn (Fence.wide.inRound l) n P f args x.w fun e w'' => e = .returned v ∧ ∃ y : WIn (Below w.heap.size w), w'' = y.w :=
  (CallsIn.inRound l (callsIn_wide.2 h)).mono fun _ w' ⟨he, hb⟩ => ⟨he, ⟨w', x.ok.trans (hb.mono x.ok.size)⟩, rfl⟩
theorem inCallSR {f : FuncId} {args : Array Value} {w : World} {v : Value} {l : Nat} (x : WIn (Below w.heap.size w)) (h : Calls P f args x.w fun e w' => e = .returned v ∧ x.w = w') :
    CallsIn (Fence.wide.inRound l) n P f args x.w fun e w'' => e = .returned v ∧ ∃ y : WIn (Below w.heap.size w), w'' = y.w :=
  (CallsIn.inRound l (callsIn_wide.2 h)).mono fun _ _ ⟨he, hb⟩ => ⟨he, x, hb.symm⟩
theorem wpQuietIn_load_arr {Q : Act → Prop} {a : Act} {o : Oper} {rest : List Oper} {b : Nat} {T : TypeId} {κ : IntKind} {k : Nat} {f : Nat → Int} {m : Nat} {e : TypeId}
    (h : ∀ W, C W → HasArr W b T κ k f) (ty : TypeId) (x : Operand) (hgd : o.guard = none) (ho : o.op = .load ty x) (hx : a.eval x = .pointer (some ⟨b, 0, none⟩)) (hu : P.underlying ty = some (.array m e)) (hi : (P.info? ty).map (·.size) = some k)
    (hK : wpQuietIn F n P ops C Q rest (a.put o.dst (.agg (arrV κ k f)))) : wpQuietIn F n P ops C Q (o :: rest) a :=
  BigFrame.wpQuietIn_want (BigFrame.askedIn_plain (by rw [ho]; exact fun _ h => nomatch h)) (by simp [Region.wanted, hgd]) fun _ hK' => ⟨_, fun W hW => by
    have e := (h W hW).load (P := P) ty hu hi
    have e2 : (execOp a.eval o).run P W = .ok (.value (.agg (arrV κ k f))) W := by simp [execOp, ho, hx, e, Result.andThen]
    unfold Oper.quietAtIn; rw [e2]; exact ⟨rfl, rfl⟩, hK' _ hK⟩
theorem wpListIn_load_arr {Q : Exit → Act → World → Prop} {rest : List Oper} {o : Oper} {a : Act} {w : World} {b : Nat} {T : TypeId} {κ : IntKind} {k : Nat} {f : Nat → Int} {m : Nat} {e : TypeId}
    (h : HasArr w b T κ k f) (ty : TypeId) (x : Operand) (hgd : o.guard = none) (ho : o.op = .load ty x) (hx : a.eval x = .pointer (some ⟨b, 0, none⟩)) (hu : P.underlying ty = some (.array m e)) (hi : (P.info? ty).map (·.size) = some k)
    (hK : wpListIn F n P ops Q rest (a.put o.dst (.agg (arrV κ k f))) w) : wpListIn F n P ops Q (o :: rest) a w := by
  have e := h.load (P := P) ty hu hi
  have e2 : (execOp a.eval o).run P w = .ok (.value (.agg (arrV κ k f))) w := by simp [execOp, ho, hx, e, Result.andThen]
  have hw : Region.wanted o (yielded ops a.tmps) = true := by simp [Region.wanted, hgd]
  unfold wpListIn
  rw [if_pos hw]
  unfold Oper.wpIn
  refine ⟨fun f hf => ?_, ?_⟩
  · unfold Oper.about at hf; rw [ho] at hf; cases hf
  · rw [Oper.semAt_eq _ _ _ (by rw [ho]; exact fun _ h => nomatch h), e2]
    exact hK
theorem wpListIn_store_arr {Q : Exit → Act → World → Prop} {rest : List Oper} {o : Oper} {a : Act} {w : World} {b : Nat} {T : TypeId} {κ κ' : IntKind} {k : Nat} {f g : Nat → Int}
    (h : HasArr w b T κ k f) (ty : TypeId) (x y : Operand) (hgd : o.guard = none) (ho : o.op = .store ty x y) (hx : a.eval x = .pointer (some ⟨b, 0, none⟩)) (hy : a.eval y = .agg (arrV κ' k g)) (hi : (P.info? ty).map (·.size) = some k)
    (hK : wpListIn F n P ops Q rest (a.put o.dst undef) (w.setRow b (arrV κ' k g))) : wpListIn F n P ops Q (o :: rest) a w := by
  have e := h.store (P := P) ty κ' g hi
  have e2 : (execOp a.eval o).run P w = .ok .skip (w.setRow b (arrV κ' k g)) := by simp [execOp, ho, hx, hy, e, Result.andThen]
  have hw : Region.wanted o (yielded ops a.tmps) = true := by simp [Region.wanted, hgd]
  unfold wpListIn
  rw [if_pos hw]
  unfold Oper.wpIn
  refine ⟨fun f hf => ?_, ?_⟩
  · unfold Oper.about at hf; rw [ho] at hf; cases hf
  · rw [Oper.semAt_eq _ _ _ (by rw [ho]; exact fun _ h => nomatch h), e2]
    exact hK
end
end Go.Proofs.YtmibinfaafhgdaaGreatDoor

namespace Go.Proofs.YtmibinfaafhgdaaGreatDoor
open Go.RowKit Go.Shelf

attribute [local go_sem] Oper.semAt_some

/-- A cell as it is yielded. -/
def cellE (m : BitVec 64) (x : CellOf m) : Array Value := #[.int .i64 ((x.1 : Nat) : Int)]
theorem cs_len {m : BitVec 64} {pre : List (CellOf m)} {j : Nat} (h : pre.map (·.1) = bitsL m j) : pre.length ≤ j := by
  have := congrArg List.length h
  rw [List.length_map] at this
  have := bitsL_len m j
  omega

set_option maxRecDepth 100000 in
set_option maxHeartbeats 2000000 in
theorem each1_in (m : BitVec 64) (n : Nat) (hn : 1 ≤ n) (l Bs : Nat) (J Jx : List (CellOf m) → World → Prop)
    (hY : ∀ pre (x : CellOf m) W, J pre W → pre.length < 64 → YieldAt Fence.wide (n - 1) Tryz.prog l #[.int .i64 ((x.1 : Nat) : Int)] W fun e W' =>
      (e = .returned (.bool true) ∧ J (pre ++ [x]) W' ∧ KeepsT W W') ∨ (e = .returned (.bool false) ∧ Jx (pre ++ [x]) W'))
    (W : World) (hBs : W.cell? ⟨Bs, 0, none⟩ = some (.int .u64 (bvI m))) (hT : DbEnv W) (h0 : J [] W) :
    CallsIn Fence.wide n Tryz.prog 73 #[.func (.yield l) #[] #[], .pointer (some ⟨Bs, 0, none⟩)] W fun e W' => (∃ v, e = .returned v) ∧
      ((∃ ys : List (CellOf m), ys.map (·.1) = bitsL m 64 ∧ J ys W') ∨ (∃ pre, True ∧ Jx pre W')) := by
  have HT := Lib.hid hT; clear hT
  have HY := Lib.hid hY; clear hY
  refine callsIn_of_wp Tryz.func73 rfl trivial ?_ rfl
  simp only [Tryz.ntmps73, List.size_toArray, List.length_cons, List.length_nil, Nat.reduceAdd, Nat.reduceSub, Array.replicate_succ, Array.replicate_zero, List.push_toArray, List.append_toArray, List.nil_append, List.cons_append]
  gi_wp2
  gi_loopw [3] (fun lv wr => ∃ (L : BitVec 64) (pre : List (CellOf m)) (j : Nat), j ≤ 64 ∧ lv = .int .u64 (bvI L) ∧ LeftB m L j ∧ pre.map (·.1) = bitsL m j ∧ J pre wr ∧ KeepsT W wr) (fun lv _ => (intOf lv).toNat)
  case atStart => exact ⟨m, [], 0, by omega, rfl, LeftB.start m, rfl, h0, rfl⟩
  case round =>
    obtain ⟨L, pre, j, hj, rfl, hL, hp, hJ, hK⟩ := hrel
    have h00 := zero_bv
    by_cases hz : L = 0#64
    · have hd := LeftB.done hL hj hz
      subst hz
      rw [h00]
      gi_wp2
      go_end0
      exact ⟨⟨_, rfl⟩, .inl ⟨pre, by rw [hp, hd], hJ⟩⟩
    · have hne : (bvI L == 0) = false := beq_eq_false_iff_ne.2 (fun e => hz (bvI_inj.1 (e.trans zero_bv.symm)))
      have hne2 : ¬ bvI L = 0 := beq_eq_false_iff_ne.1 hne
      obtain ⟨hm, hb, hL2⟩ := LeftB.step hL hz
      have ht := (low_facts hz).1
      have hdec := and_dec L hz
      have hy := HY.out pre ⟨lowB L, ht, hm.1⟩ wr hJ (by have := cs_len hp; omega)
      have htz := tz_any L hz wr (HT.out.keeps hK)
      have HDec := Lib.hid hdec; have HB := Lib.hid hb; have HL2 := Lib.hid hL2; have HHy := Lib.hid hy; have HTz := Lib.hid htz
      clear hdec hb hL2 hy htz hL hj hz
      gi_wp2
      refine ⟨trivial, ?_⟩
      refine (callsIn_wide.2 HTz.out).mono ?_; rintro e w1 ⟨rfl, rfl⟩
      obtain ⟨fn, tmps, assign, body, hy, hR3⟩ := HHy.out
      gi_wp2
      refine hR3.mono ?_
      rintro e W3 (⟨rfl, hJ3, hk3⟩ | ⟨rfl, hJx3⟩)
      · have hbd := bits_dec_bv L
        gi_wp2
        go_roundw
        case rel => exact ⟨L &&& (L - 1#64), pre ++ [⟨lowB L, ht, hm.1⟩], lowB L + 1, by omega, rfl, HL2.out, by rw [List.map_append, hp, HB.out]; rfl, hJ3, keepsT_t hK hk3⟩
        case measure => simp only [intOf]; unfold bvI; have := HDec.out; omega
      · gi_wp2
        refine bodyPost_ret (results_none rfl _ _ _) rfl ?_
        exact ⟨⟨_, rfl⟩, .inr ⟨_, trivial, hJx3⟩⟩

set_option maxHeartbeats 1000000 in
theorem each_in (n : Nat) (m : BitVec 64) (w : World) :
    CallsIn Fence.wide n Tryz.prog 50 #[.int .u64 (bvI m)] w fun e w' => e = .returned (.func (.func 73) #[] #[.pointer (some ⟨w.heap.size, 0, none⟩)]) ∧ w' = w.alloc (.cells #[.int .u64 (bvI m)] 59) := by
  refine callsIn_of_wp Tryz.func50 rfl trivial ?_ rfl
  simp only [Tryz.ntmps50, List.size_toArray, List.length_cons, List.length_nil, Nat.reduceAdd, Nat.reduceSub, Array.replicate_succ, Array.replicate_zero, List.push_toArray, List.append_toArray, List.nil_append, List.cons_append]
  gi_wp2
  go_ret
  exact ⟨rfl, rfl⟩

theorem each_stops (m : BitVec 64) (n : Nat) (hn : 1 ≤ n) (Bs : Nat) (w : World) (hBs : Boxed w Bs 59 (.int .u64 (bvI m))) (hT : DbEnv w) :
    SeqStopsK Fence.wide n Tryz.prog 73 #[.pointer (some ⟨Bs, 0, none⟩)] (cellE m) KeepsT (fun l => l.map (·.1) = bitsL m 64) (fun _ => True) 64 w :=
  fun l J Jx W hW _ _ hY h0 => each1_in m n hn l Bs J Jx hY W
    (by rw [hW.cell (p := ⟨Bs, 0, none⟩) hBs.lt]; exact hBs.cell) (hT.below hW) h0
end Go.Proofs.YtmibinfaafhgdaaGreatDoor

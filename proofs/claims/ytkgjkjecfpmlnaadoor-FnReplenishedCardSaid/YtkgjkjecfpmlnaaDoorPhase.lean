/-
  A region whose order is open: operations that read, or call what makes memory, beside a tail of operations (an allocation, a store) some of which may come up early. Of whatever program; no condition of ours.
-/
import Derived.Test.YtkgjkjecfpmlnaaDoorQuietTail
namespace Go.Proofs.YtkgjkjecfpmlnaaDoor
open Go.RowKit

section
variable {P : Program} {ops : Array Oper} {md : Region.Mode} {Ph : Type} {φ : Ph → World → Prop} {N : Nat}

/-- What a tail operation is asked: a value (or nothing), and a world of some phase. -/
def tUpon (φ : Ph → World → Prop) (K : Act → Ph → Prop) (o : Oper) (a : Act) : Result Next → Prop
  | .ok (.value u) w' => ∃ ph', φ ph' w' ∧ K (a.put o.dst u) ph'
  | .ok .skip w' => ∃ ph', φ ph' w' ∧ K (a.put o.dst undef) ph'
  | _ => False
def tOp (P : Program) (ops : Array Oper) (φ : Ph → World → Prop) (j : Nat) (K : Act → Ph → Prop) (a : Act) (ph : Ph) : Prop :=
  ∃ o, ops[j]? = some o ∧ Region.wanted o (yielded ops a.tmps) = true ∧ ∀ w, φ ph w → tUpon φ K o a ((execOp a.eval o).run P w)
/-- Operation number j: quiet in each phase if it is of the head, else of the tail. -/
def gOp (P : Program) (ops : Array Oper) (φ : Ph → World → Prop) (N j : Nat) (K : Act → Ph → Prop) (a : Act) (ph : Ph) : Prop :=
  if j < N then qOp P ops (φ ph) j (fun a' => K a' ph) a else tOp P ops φ j K a ph
def wpAnyF (P : Program) (md : Region.Mode) (ops : Array Oper) (φ : Ph → World → Prop) (N : Nat) (L : Act → Ph → Prop) : Nat → Array Bool → Act → Ph → Prop
  | 0, d, a, ph => Region.ready md ops d = [] ∧ L a ph
  | f + 1, d, a, ph => Region.ready md ops d ≠ [] ∧ ∀ i ∈ Region.ready md ops d, gOp P ops φ N i (wpAnyF P md ops φ N L f (d.setIfInBounds i true)) a ph

theorem tUpon_mono {K K' : Act → Ph → Prop} {o : Oper} {a : Act} {r : Result Next} (h : ∀ a ph, K a ph → K' a ph) (hh : tUpon φ K o a r) : tUpon φ K' o a r := by
  cases r with
  | ok n w' =>
    cases n <;> simp only [tUpon] at hh ⊢
    case value u => obtain ⟨ph', h1, h2⟩ := hh; exact ⟨ph', h1, h _ _ h2⟩
    case skip => obtain ⟨ph', h1, h2⟩ := hh; exact ⟨ph', h1, h _ _ h2⟩
  | halt x w' => simp only [tUpon] at hh
theorem gOp_mono {j : Nat} {K K' : Act → Ph → Prop} {a : Act} {ph : Ph} (h : ∀ a ph, K a ph → K' a ph) (hh : gOp P ops φ N j K a ph) : gOp P ops φ N j K' a ph := by
  unfold gOp at *
  split
  · rename_i hj; rw [if_pos hj] at hh; exact qOp_mono (fun a' => h a' ph) hh
  · rename_i hj; rw [if_neg hj] at hh
    obtain ⟨o, h1, h2, h3⟩ := hh
    exact ⟨o, h1, h2, fun w hw => tUpon_mono h (h3 w hw)⟩

/-- It serves whatever order is picked. -/
theorem any_of_F {L : Act → Ph → Prop} {Q' : Exit → Act → World → Prop} (hL : ∀ a w ph, φ ph w → L a ph → Q' .normal a w) :
    ∀ (f : Nat) (d : Array Bool) (a : Act) (ph : Ph) (w : World), φ ph w → wpAnyF P md ops φ N L f d a ph → wpAny P md ops Q' f d a w
  | 0, _, _, _, _, hw, h => ⟨h.1, hL _ _ _ hw h.2⟩
  | f + 1, d, a, ph, w, hw, h => ⟨fun h0 => absurd h0 h.1, fun i hi => by
    have h1 := h.2 i hi
    unfold gOp at h1
    split at h1
    · exact wpOp_of_qOp hw (fun a' w' hw' h' => any_of_F hL f _ a' ph w' hw' h') h1
    · obtain ⟨o, ho, hwant, hrun⟩ := h1
      have h3 := hrun w hw
      unfold wpOp
      simp only [ho, hwant, if_true]
      left
      unfold Oper.wp
      generalize (execOp a.eval o).run P w = r at *
      cases r with
      | ok n w' =>
        cases n <;> simp only [tUpon] at h3 <;> simp only [Oper.upon]
        case value u => obtain ⟨ph', hp, hk⟩ := h3; exact any_of_F hL f _ _ ph' w' hp hk
        case skip => obtain ⟨ph', hp, hk⟩ := h3; exact any_of_F hL f _ _ ph' w' hp hk
      | halt x w' => simp only [tUpon] at h3⟩

/-- In every phase the operation yields this value. -/
def YF (P : Program) (ops : Array Oper) (φ : Ph → World → Prop) (o : Oper) (v : Value) (a : Act) : Prop := ∀ ph, YieldsIn P ops (φ ph) o v a

theorem gOp_put {j : Nat} {oi oj : Oper} {v : Value} (hj : ops[j]? = some oj) (hap : oi.apart ops oj = true) (hsi : ∀ cs b, oi.op ≠ .select cs b) (hsj : ∀ cs b, oj.op ≠ .select cs b) {K : Act → Ph → Prop} {a : Act} {ph : Ph}
    (hy : YF P ops φ oi v a) (h : gOp P ops φ N j K (a.put oi.dst v) ph) : gOp P ops φ N j (fun a' ph' => YF P ops φ oi v a' ∧ K (a'.put oi.dst v) ph') a ph := by
  obtain ⟨h1, h2, h3⟩ := Oper.apart_spec hap
  have keep : ∀ (a : Act), YF P ops φ oi v a → ∀ u, YF P ops φ oi v (a.put oj.dst u) := fun a hy u ph =>
    (hy ph).of_same (execOp_put oi hsi a oj.dst u h3) (wanted_put oi a oj.dst u h3)
  unfold gOp at *
  split
  · rename_i hjn
    rw [if_pos hjn] at h
    unfold qOp at *
    simp only [hj] at *
    rw [wanted_put oj a oi.dst v h1] at h
    split
    · rename_i hw
      simp only [hw, if_true] at h
      obtain ⟨u, hu, hn⟩ := h
      refine ⟨u, fun w hw' => ?_, keep a hy u, by rw [← Act.put_comm a v u h2]; exact hn⟩
      have := hu w hw'
      unfold Oper.quietAt at *
      rwa [execOp_put oj hsj a oi.dst v h1] at this
    · rename_i hw
      simp only [hw] at h
      exact ⟨keep a hy _, by rw [← Act.put_comm a v undef h2]; exact h⟩
  · rename_i hjn
    rw [if_neg hjn] at h
    obtain ⟨o, ho, hwant, hrun⟩ := h
    obtain rfl : o = oj := Option.some.inj (ho.symm.trans hj)
    refine ⟨o, hj, by rw [← wanted_put o a oi.dst v h1]; exact hwant, fun w hw => ?_⟩
    have h4 := hrun w hw
    rw [execOp_put o hsj a oi.dst v h1] at h4
    generalize (execOp a.eval o).run P w = r at *
    cases r with
    | ok n w' =>
      cases n <;> simp only [tUpon] at h4 ⊢
      case value u => obtain ⟨ph', hp, hk⟩ := h4; exact ⟨ph', hp, keep a hy _, by rw [← Act.put_comm a v u h2]; exact hk⟩
      case skip => obtain ⟨ph', hp, hk⟩ := h4; exact ⟨ph', hp, keep a hy _, by rw [← Act.put_comm a v undef h2]; exact hk⟩
    | halt x w' => simp only [tUpon] at h4

theorem F_first {L : Act → Ph → Prop} {i : Nat} {oi : Oper} {v : Value} (hi : ops[i]? = some oi) (hiN : i < N) (hsel : ∀ (j : Nat) (o : Oper) cs b, ops[j]? = some o → o.op ≠ .select cs b) :
    ∀ (f : Nat) (d : Array Bool) (a : Act) (ph : Ph),
      (∀ j oj, ops[j]? = some oj → j ≠ i → d.getD j true = false → (∀ e ∈ oj.after, Region.binds md e = true → e.on ≠ i) → oi.apart ops oj = true) →
      i ∈ Region.ready md ops d → YF P ops φ oi v a →
      wpAnyF P md ops φ N L f (d.setIfInBounds i true) (a.put oi.dst v) ph → wpAnyF P md ops φ N L (f + 1) d a ph := by
  intro f
  induction f with
  | zero =>
    intro d a ph _ hr hy H
    refine ⟨fun h => (by rw [h] at hr; cases hr), fun j hj => ?_⟩
    by_cases hji : j = i
    · subst hji; unfold gOp; rw [if_pos hiN]; exact (hy ph).qOp hi H
    · have := ready_mono hj hji
      rw [H.1] at this
      cases this
  | succ f ih =>
    intro d a ph hfree hr hy H
    refine ⟨fun h => (by rw [h] at hr; cases hr), fun j hj => ?_⟩
    by_cases hji : j = i
    · subst hji; unfold gOp; rw [if_pos hiN]; exact (hy ph).qOp hi H
    · have h1 := H.2 j (ready_mono hj hji)
      obtain ⟨hjun, oj, hoj, hall⟩ := mem_ready.1 hj
      have hnot : ∀ e ∈ oj.after, Region.binds md e = true → e.on ≠ i := fun e he hb heq => by
        have h1 := hall e he hb
        have h0 := (mem_ready.1 hr).1
        rw [heq] at h1
        rcases Nat.lt_or_ge i d.size with h' | h'
        · simp [h'] at h0 h1; rw [h0] at h1; cases h1
        · simp [Array.getElem?_eq_none h'] at h1
      have h2 := gOp_put hoj (hfree j oj hoj hji hjun hnot) (fun cs b => hsel i oi cs b hi) (fun cs b => hsel j oj cs b hoj) hy h1
      have hfree' : ∀ k ok, ops[k]? = some ok → k ≠ i → (d.setIfInBounds j true).getD k true = false →
          (∀ e ∈ ok.after, Region.binds md e = true → e.on ≠ i) → oi.apart ops ok = true := fun k ok hk hki hun hno => by
        refine hfree k ok hk hki ?_ hno
        by_cases hjk : j = k
        · subst hjk; exact hjun
        · rw [getD_set_ne true hjk] at hun; exact hun
      refine gOp_mono (fun a' ph' h3 => ih (d.setIfInBounds j true) a' ph' hfree' (ready_mono hr (Ne.symm hji)) h3.1 ?_) h2
      rw [Array.setIfInBounds_comm _ _ hji]
      exact h3.2

/-- The head's operations write different slots, which the frame has. -/
def headOk (size : Nat) : List Oper → Bool
  | [] => true
  | o :: l => (match o.dst with | some d => decide (d < size) && l.all (fun o' => o'.dst != some d) | none => false) && headOk size l

theorem put_size (a : Act) (x : Option Tmp) (v : Value) : (a.put x v).tmps.size = a.tmps.size := by
  cases x <;> simp [Act.put]
theorem put_get_ne (a : Act) {x : Option Tmp} {d : Nat} (v : Value) (h : x ≠ some d) : (a.put x v).tmps[d]? = a.tmps[d]? := by
  cases x with
  | none => rfl
  | some e =>
    have hne : e ≠ d := fun h' => h (by rw [h'])
    simp [Act.put, Array.getElem?_setIfInBounds, hne]
theorem put_get_same (a : Act) {d : Nat} (v : Value) (h : d < a.tmps.size) : (a.put (some d) v).tmps[d]? = some v := by
  simp [Act.put, Array.getElem?_setIfInBounds, h]
theorem quiet_slot {C : World → Prop} {aF : Act} {d : Nat} : ∀ (l : List Oper) (a : Act), (l.all (fun o' => o'.dst != some d)) = true → wpQuiet P ops C (fun a' => a' = aF) l a → aF.tmps[d]? = a.tmps[d]?
  | [], a, _, h => by have h' : a = aF := h; rw [h']
  | o :: l, a, hd, h => by
    simp only [List.all_cons, Bool.and_eq_true] at hd
    have hne : o.dst ≠ some d := by simpa using hd.1
    unfold wpQuiet at h
    split at h
    · obtain ⟨v, _, hn⟩ := h
      exact (quiet_slot l _ hd.2 hn).trans (put_get_ne a v hne)
    · exact (quiet_slot l _ hd.2 h).trans (put_get_ne a undef hne)

theorem F_lex {g : Nat} {L : Act → Ph → Prop} {aF : Act} {ph0 : Ph} (hsel : Region.noSelect ops = true) :
    ∀ (l : List Oper) (k : Nat) (d : Array Bool) (a : Act), (∀ j, j < l.length → l[j]? = ops[k + j]?) → k + l.length = N → Region.lexHead md ops g l.length k d = true → headOk a.tmps.size l = true →
      (∀ ph, wpQuiet P ops (φ ph) (fun a' => a' = aF) l a) → (∀ d, Region.seqB md ops g N d = true → wpAnyF P md ops φ N L g d aF ph0) → wpAnyF P md ops φ N L (l.length + g) d a ph0
  | [], k, d, a, _, hk, hB, _, hq, ht => by
    obtain rfl : k = N := by simpa using hk
    have e : a = aF := hq ph0
    rw [e]
    simpa using ht d (by simpa [Region.lexHead] using hB)
  | o :: l, k, d, a, hl, hk, hB, hh, hq, ht => by
    have h0 : ops[k]? = some o := by simpa using (hl 0 (by simp)).symm
    simp only [List.length_cons, Region.lexHead, Bool.and_eq_true] at hB
    have hkn : k < N := by simp only [List.length_cons] at hk; omega
    have hr : k ∈ Region.ready md ops d := by simpa using hB.1.1
    simp only [headOk, Bool.and_eq_true] at hh
    obtain ⟨dd, hdd⟩ : ∃ dd, o.dst = some dd := by
      cases hx : o.dst with
      | none => rw [hx] at hh; simp at hh
      | some dd => exact ⟨dd, rfl⟩
    have hh1 := hh.1
    rw [hdd] at hh1
    simp only [Bool.and_eq_true, decide_eq_true_eq] at hh1
    have hv : ∀ ph, ∃ v, YieldsIn P ops (φ ph) o v a ∧ wpQuiet P ops (φ ph) (fun a' => a' = aF) l (a.put o.dst v) := fun ph =>
      yieldsIn_of_qOp h0 (by unfold qOp; simp only [h0]; exact hq ph)
    obtain ⟨v, hy0, hn0⟩ := hv ph0
    have hslot : ∀ ph, YieldsIn P ops (φ ph) o v a ∧ wpQuiet P ops (φ ph) (fun a' => a' = aF) l (a.put o.dst v) := fun ph => by
      obtain ⟨v', hy, hn⟩ := hv ph
      have e1 := quiet_slot (d := dd) l _ hh1.2 hn
      have e2 := quiet_slot (d := dd) l _ hh1.2 hn0
      rw [hdd, put_get_same a v' hh1.1] at e1
      rw [hdd, put_get_same a v hh1.1] at e2
      have : v' = v := Option.some.inj (e1.symm.trans e2)
      subst this
      exact ⟨hy, hn⟩
    have H := F_lex (g := g) (L := L) (aF := aF) (ph0 := ph0) hsel l (k + 1) (d.setIfInBounds k true) (a.put o.dst v) (fun j hj => by have := hl (j + 1) (by simp; omega); simpa [Nat.add_assoc, Nat.add_comm 1 j] using this)
      (by simp only [List.length_cons] at hk; omega) hB.2 (by rw [put_size]; exact hh.2) (fun ph => (hslot ph).2) ht
    rw [show (o :: l).length + g = (l.length + g) + 1 by simp; omega]
    exact F_first h0 hkn (Region.noSelect_spec hsel) _ d a ph0 (Region.free_spec h0 hB.1.2) hr (fun ph => (hslot ph).1) H

/-- The tail, one operation after the other. -/
def tList (P : Program) (ops : Array Oper) (φ : Ph → World → Prop) (L : Act → Ph → Prop) : List Oper → Act → Ph → Prop
  | [], a, ph => L a ph
  | o :: r, a, ph => Region.wanted o (yielded ops a.tmps) = true ∧ ∀ w, φ ph w → tUpon φ (tList P ops φ L r) o a ((execOp a.eval o).run P w)

theorem F_seq {L : Act → Ph → Prop} : ∀ (l : List Oper) (k : Nat) (d : Array Bool) (a : Act) (ph : Ph), (∀ j, l[j]? = ops[k + j]?) → N ≤ k → Region.seqB md ops l.length k d = true → tList P ops φ L l a ph → wpAnyF P md ops φ N L l.length d a ph
  | [], _, _, _, _, _, _, hB, h => ⟨by simpa [Region.seqB] using hB, h⟩
  | o :: l, k, d, a, ph, hl, hk, hB, h => by
    have h0 : ops[k]? = some o := by simpa using (hl 0).symm
    simp only [List.length_cons, Region.seqB, Bool.and_eq_true, decide_eq_true_eq] at hB
    refine ⟨fun h1 => (by rw [hB.1] at h1; cases h1), fun i hi => ?_⟩
    rw [hB.1] at hi
    obtain rfl : i = k := by simpa using hi
    unfold gOp
    rw [if_neg (by omega)]
    exact ⟨o, h0, h.1, fun w hw => tUpon_mono (fun a' ph' h' => F_seq l (i + 1) _ a' ph' (fun j => by have := hl (j + 1); simpa [Nat.add_assoc, Nat.add_comm 1 j] using this) (by omega) hB.2 h') (h.2 w hw)⟩

def phaseB (l : List Oper) (N size : Nat) : Bool :=
  Region.noSelect l.toArray && decide (N ≤ l.length) && headOk size (l.take N) && Region.lexHead .any l.toArray (l.length - N) N 0 (Array.replicate l.length false)

/-- THE REGION: a head that is quiet in every phase, a tail that goes from phase to phase. -/
theorem wp_region_phase {id : Nat} {Q : Exit → Act → World → Prop} {a : Act} {w : World} {l : List Oper} (N : Nat) (φ : Ph → World → Prop) (ph0 : Ph) (aF : Act) (hm : P.follows .mixedOrders = true) (hB : phaseB l N a.tmps.size = true) (hC : φ ph0 w.drew)
    (hq : ∀ ph, wpQuiet P l.toArray (φ ph) (fun a' => a' = aF) (l.take N) a)
    (ht : tList P l.toArray φ (fun a' ph => ∀ w', φ ph w' → Q .normal a' w') (l.drop N) aF ph0) : (Code.region id l.toArray true).wp P Q a w := by
  simp only [phaseB, Bool.and_eq_true, decide_eq_true_eq] at hB
  obtain ⟨⟨⟨hsel, hn⟩, hh⟩, hlex⟩ := hB
  have htl : (l.take N).length = N := by simp; omega
  have hdl : (l.drop N).length = l.length - N := by simp
  refine wp_region_any hm ?_
  have H := F_lex (md := .any) (N := N) (g := l.length - N) (φ := φ) (P := P) (ops := l.toArray) (L := fun a' ph => ∀ w', φ ph w' → Q .normal a' w') (aF := aF) (ph0 := ph0) hsel (l.take N) 0 (Array.replicate l.length false) a
    (fun j hj => by
      have hj' : j < N := by rw [htl] at hj; exact hj
      simp [hj']) (by simpa using htl) (by rw [htl]; exact hlex) hh hq
    (fun d hd => by
      have := F_seq (md := .any) (N := N) (φ := φ) (P := P) (ops := l.toArray) (l.drop N) N d aF ph0 (fun j => by simp [List.getElem?_drop]) (Nat.le_refl _) (by rw [hdl]; exact hd) ht
      rwa [hdl] at this)
  rw [htl, show N + (l.length - N) = l.length by omega] at H
  have := any_of_F (Q' := Q) (fun a' w' ph hw' h' => h' w' hw') _ _ _ _ _ hC H
  simpa using this
theorem wp_region_phases {id : Nat} {Q : Exit → Act → World → Prop} {a : Act} {w : World} {l : List Oper} (N : Nat) (φ : Ph → World → Prop) (ph0 : Ph) (hm : P.follows .mixedOrders = true) (hB : phaseB l N a.tmps.size = true) (hC : φ ph0 w.drew)
    (h : ∃ aF, (∀ ph, wpQuiet P l.toArray (φ ph) (fun a' => a' = aF) (l.take N) a) ∧ tList P l.toArray φ (fun a' ph => ∀ w', φ ph w' → Q .normal a' w') (l.drop N) aF ph0) : (Code.region id l.toArray true).wp P Q a w := by
  obtain ⟨aF, hq, ht⟩ := h
  exact wp_region_phase N φ ph0 aF hm hB hC hq ht
end
end Go.Proofs.YtkgjkjecfpmlnaaDoor

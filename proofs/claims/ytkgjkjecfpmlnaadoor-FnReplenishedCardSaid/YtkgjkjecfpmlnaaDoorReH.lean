/-
  A bath that is right, replenished: what the functions of both sides hand back, in three statements. Condition: the program's variables hold their own errors, its table of times what it holds.
-/
import Derived.Test.YtkgjkjecfpmlnaaDoorReP
namespace Go.Proofs.YtkgjkjecfpmlnaaDoor
open Go.RowKit

section
variable {p k c t v u a : Int}
theorem okStrR (z : Ers) (h : BOk p k c t v u a) (w : World) (hE : ErrEnv z w) :
    Calls Tryd.prog 10 #[devV p k c t, batV v u a] w fun e w' => e = .returned (.tuple #[.int .i64 (strn p k v u a), .int .i64 0]) ∧ Below w.heap.size w w' := by
  have hk := StrengthOf_any (p := p) (k := k) (b := c) (t := t) (v := v) (u := u) (a := a) z (by have := h.b0; omega) (by have := h.b1; omega) (by have := h.t0; omega) (by have := h.t1; omega) w hE
  unfold strR okC at hk
  rw [bathOk_true.2 h, if_pos rfl, if_pos rfl] at hk
  exact hk
theorem okSpecStrR (h : BOk p k c t v u a) (w : World) :
    Calls Tryd.prog 20 #[devV p k c t, batV v u a] w fun e w' => e = .returned (.tuple #[.int .i64 (strn p k v u a), .int .i64 0]) ∧ Below w.heap.size w w' := by
  have hk := specStrengthOf_any (p := p) (k := k) (b := c) (t := t) (v := v) (u := u) (a := a) (by have := h.b0; omega) (by have := h.b1; omega) (by have := h.t0; omega) (by have := h.t1; omega) w
  unfold strR okC at hk
  rw [bathOk_true.2 h, if_pos rfl, if_pos rfl] at hk
  exact hk
theorem okFillR (z : Ers) (h : BOk p k c t v u a) {m : Int} (h0 : 0 ≤ m) (h1 : m ≤ v) (w : World) (hE : ErrEnv z w) :
    Calls Tryd.prog 9 #[devV p k c t, batV v u a, .int .i64 m] w fun e w' => e = .returned (.tuple #[batV v (left u v m) (left a v m), .int .i64 0]) ∧ Below w.heap.size w w' := by
  have hk := Replenish_any (p := p) (k := k) (b := c) (t := t) (v := v) (u := u) (a := a) z m (by have := h.b0; omega) (by have := h.b1; omega) (by have := h.t0; omega) (by have := h.t1; omega) w hE
  unfold BathCode at hk
  rw [fill_ok h h0 h1] at hk
  exact hk
theorem okSpecFillR (h : BOk p k c t v u a) {m : Int} (h0 : 0 ≤ m) (h1 : m ≤ v) (w : World) :
    Calls Tryd.prog 19 #[devV p k c t, batV v u a, .int .i64 m] w fun e w' => e = .returned (.tuple #[batV v (left u v m) (left a v m), .int .i64 0]) ∧ Below w.heap.size w w' := by
  have hk := specReplenish_any (p := p) (k := k) (b := c) (t := t) (v := v) (u := u) (a := a) m (by have := h.b0; omega) (by have := h.b1; omega) (by have := h.t0; omega) (by have := h.t1; omega) w
  rw [fill_ok h h0 h1] at hk
  exact hk
theorem rep_one (z : Ers) (h : BOk p k c t v u a) (s : Int) (hs : 0 ≤ s) (hs' : s ≤ 1000) : ∃ (m : Nat) (S L1 L2 : Int), (m : Int) ≤ v ∧ s ≤ S ∧
    (∀ W, ErrEnv z W → Calls Tryd.prog 7 #[devV p k c t, batV v u a, .int .i64 s] W fun e w' => e = .returned (.tuple #[.int .i64 (m : Int), .int .i64 0]) ∧ Below W.heap.size W w') ∧
    (∀ W, Calls Tryd.prog 8 #[devV p k c t, batV v u a, .int .i64 s] W fun e w' => e = .returned (.tuple #[.int .i64 (m : Int), .int .i64 0]) ∧ Below W.heap.size W w') ∧
    (∀ W, ErrEnv z W → Calls Tryd.prog 9 #[devV p k c t, batV v u a, .int .i64 (m : Int)] W fun e w' => e = .returned (.tuple #[batV v L1 L2, .int .i64 0]) ∧ Below W.heap.size W w') ∧
    (∀ W, ErrEnv z W → Calls Tryd.prog 10 #[devV p k c t, batV v L1 L2] W fun e w' => e = .returned (.tuple #[.int .i64 S, .int .i64 0]) ∧ Below W.heap.size W w') ∧
    (0 < m → ∃ S' l1 l2 : Int, S' < s ∧
      (∀ W, ErrEnv z W → Calls Tryd.prog 9 #[devV p k c t, batV v u a, .int .i64 ((m : Int) - 1)] W fun e w' => e = .returned (.tuple #[batV v l1 l2, .int .i64 0]) ∧ Below W.heap.size W w') ∧
      (∀ W, ErrEnv z W → Calls Tryd.prog 10 #[devV p k c t, batV v l1 l2] W fun e w' => e = .returned (.tuple #[.int .i64 S', .int .i64 0]) ∧ Below W.heap.size W w')) := by
  have hf := for_facts h hs hs'
  have b0 : -128 ≤ c := by have := h.b0; omega
  have b1 : c ≤ 127 := by have := h.b1; omega
  have t0 : -128 ≤ t := by have := h.t0; omega
  have t1 : t ≤ 127 := by have := h.t1; omega
  have hC : forC p k c t v u a s = 0 := by unfold forC; rw [bathOk_true.2 h, inB_true.2 ⟨hs, hs'⟩]; rfl
  have hR : forR p k c t v u a s = ((least (forQ p k v u a s) (v.toNat + 1) : Nat) : Int) := by unfold forR; rw [hC]; rfl
  have hB := h.fill (m := ((least (forQ p k v u a s) (v.toNat + 1) : Nat) : Int)) (by omega) hf.1
  refine ⟨least (forQ p k v u a s) (v.toNat + 1), _, _, _, hf.1, hf.2.1, fun W hE => ?_, fun W => ?_, fun W hE => okFillR z h (by omega) hf.1 W hE, fun W hE => okStrR z hB W hE, fun hp => ?_⟩
  · have := ReplenishFor_any (p := p) (k := k) (b := c) (t := t) (v := v) (u := u) (a := a) z s b0 b1 t0 t1 W hE
    rw [hC, hR] at this; exact this
  · have := specReplenishFor_any (p := p) (k := k) (b := c) (t := t) (v := v) (u := u) (a := a) s b0 b1 t0 t1 W
    rw [hC, hR] at this; exact this
  · have h3 := hf.2.2 (least (forQ p k v u a s) (v.toNat + 1) - 1) (by omega)
    have e : ((least (forQ p k v u a s) (v.toNat + 1) - 1 : Nat) : Int) = ((least (forQ p k v u a s) (v.toNat + 1) : Nat) : Int) - 1 := by omega
    rw [e] at h3
    have hB2 := h.fill (m := ((least (forQ p k v u a s) (v.toNat + 1) : Nat) : Int) - 1) (by omega) (by omega)
    exact ⟨_, _, _, h3, fun W hE => okFillR z h (by omega) (by omega) W hE, fun W hE => okStrR z hB2 W hE⟩
theorem rep_two (z : Ers) (h : BOk p k c t v u a) (s sl : Int) (hs : 1 ≤ s) (hs' : s ≤ 5000) (h0 : 0 ≤ sl) (h1 : sl ≤ 36) : ∃ N : Nat, (N : Int) * s ≤ v * p / 1000 - u ∧
    (∀ W, TimEnv W → ErrEnv z W → Calls Tryd.prog 11 #[devV p k c t, batV v u a, .int .i64 s, .int .i64 sl] W fun e w' => e = .returned (.tuple #[.int .i64 (N : Int), .int .i64 0]) ∧ Below W.heap.size W w') ∧
    (∀ W, Calls Tryd.prog 12 #[devV p k c t, batV v u a, .int .i64 s, .int .i64 sl] W fun e w' => e = .returned (.tuple #[.int .i64 (N : Int), .int .i64 0]) ∧ Below W.heap.size W w') := by
  have b0 : -128 ≤ c := by have := h.b0; omega
  have b1 : c ≤ 127 := by have := h.b1; omega
  have t0 : -128 ≤ t := by have := h.t0; omega
  have t1 : t ≤ 127 := by have := h.t1; omega
  have hC : shC p k c t v u a s sl = 0 := by unfold shC; rw [bathOk_true.2 h, inB_true.2 ⟨hs, hs'⟩, inB_true.2 ⟨h0, h1⟩]; rfl
  have hR : shR p k c t v u a s sl = ((shN p k v u a s sl : Nat) : Int) := by unfold shR; rw [hC]; rfl
  refine ⟨shN p k v u a s sl, sheets_room h hs, fun W hT hE => ?_, fun W => ?_⟩
  · have := SheetsLeft_any (p := p) (k := k) (b := c) (t := t) (v := v) (u := u) (a := a) z s sl b0 b1 t0 t1 W hT hE
    rw [hC, hR] at this; exact this
  · have := specSheetsLeft_any (p := p) (k := k) (b := c) (t := t) (v := v) (u := u) (a := a) s sl b0 b1 t0 t1 W
    rw [hC, hR] at this; exact this
theorem rep_three (z : Ers) (h : BOk p k c t v u a) (g n cap : Nat) (xs : Nat → Int) (hn : n ≤ 60) (hx : ∀ j, j < n → 1 ≤ xs j ∧ xs j ≤ 5000) (sl : Int) (h0 : 0 ≤ sl) (h1 : sl ≤ 36) :
    ∃ (known : Nat) (C T : Int) (l : List Int), known ≤ n ∧
      (C = 6 ∨ C = 0 ∧ l.length = n ∧ (known = n ↔ T = 0) ∧ ∃ (J : Nat → Nat) (U V F G S K : Nat → Int), T = lrT J n ∧ (∀ i, i ≤ n → 0 ≤ lrT J i ∧ lrT J i ≤ 2000000) ∧ U 0 = u ∧ V 0 = a ∧ ∀ i, i < n → l.getD i 0 = (J i : Int) ∧ (i < known → J i = 0) ∧ (i = known → J i ≠ 0) ∧ K i ≤ sl ∧
        (∀ W, Calls Tryd.prog 19 #[devV p k c t, batV v (U i) (V i), .int .i64 (J i : Int)] W fun e w' => e = .returned (.tuple #[batV v (F i) (G i), .int .i64 0]) ∧ Below W.heap.size W w') ∧
        (∀ W, Calls Tryd.prog 20 #[devV p k c t, batV v (F i) (G i)] W fun e w' => e = .returned (.tuple #[.int .i64 (S i), .int .i64 0]) ∧ Below W.heap.size W w') ∧
        (∀ W, TimEnv W → ErrEnv z W → Calls Tryd.prog 21 #[.int .i64 (S i)] W fun e w' => e = .returned (.tuple #[.int .i64 (K i), .int .i64 0]) ∧ Below W.heap.size W w') ∧
        (∀ W, TimEnv W → ErrEnv z W → Calls Tryd.prog 22 #[devV p k c t, batV v (F i) (G i), .int .i64 (xs i)] W fun e w' => e = .returned (.tuple #[batV v (U (i + 1)) (V (i + 1)), .int .i64 0]) ∧ Below W.heap.size W w')) ∧
      l.length ≤ 60 ∧
      (∀ W, RowN W g n xs → TimEnv W → ErrEnv z W → Calls Tryd.prog 14 #[devV p k c t, batV v u a, .slice (some ⟨g, 0, none⟩) n cap, .int .i64 sl] W (MadeT l T C W)) ∧
      (∀ W, RowN W g n xs → Calls Tryd.prog 15 #[devV p k c t, batV v u a, .slice (some ⟨g, 0, none⟩) n cap, .int .i64 sl] W (MadeT l T C W)) ∧
      (∀ W, RowN W g n xs → TimEnv W → ErrEnv z W → Calls Tryd.prog 16 #[devV p k c t, batV v u a, .slice (some ⟨g, 0, none⟩) n cap, .int .i64 sl] W fun e w' => e = .returned (.tuple #[.int .i64 (known : Int), .int .i64 0]) ∧ Below W.heap.size W w') ∧
      (∀ W, RowN W g n xs → Calls Tryd.prog 17 #[devV p k c t, batV v u a, .slice (some ⟨g, 0, none⟩) n cap, .int .i64 sl] W fun e w' => e = .returned (.tuple #[.int .i64 (known : Int), .int .i64 0]) ∧ Below W.heap.size W w') := by
  have b0 : -128 ≤ c := by have := h.b0; omega
  have b1 : c ≤ 127 := by have := h.b1; omega
  have t0 : -128 ≤ t := by have := h.t0; omega
  have t1 : t ≤ 127 := by have := h.t1; omega
  have hv := h.v0
  have hA : arC (bathOk p k c t v u a) n xs sl = 0 := by
    unfold arC
    rw [bathOk_true.2 h, if_pos rfl, if_pos hn, allA_iff.2 (fun j hj => inB_true.2 (hx j hj)), inB_true.2 ⟨h0, h1⟩]; rfl
  have hR : sfR p k c t v u a sl n xs = ((sfN p k c t v u a sl n xs : Nat) : Int) := by unfold sfR; rw [hA]; rfl
  have hk := lr_known (p := p) (k := k) (b := c) (t := t) (u := u) (a := a) (sl := sl) (xs := xs) hv n
  have hlen := lrR_len (lrJ p k c t v sl xs u a) v n (arC (bathOk p k c t v u a) n xs sl)
  refine ⟨sfN p k c t v u a sl n xs, lrC (lrJ p k c t v sl xs u a) v n (arC (bathOk p k c t v u a) n xs sl), lrV (lrJ p k c t v sl xs u a) v n (arC (bathOk p k c t v u a) n xs sl), lrR (lrJ p k c t v sl xs u a) v n (arC (bathOk p k c t v u a) n xs sl), hk.1, ?_, by omega, fun W hr hT hE => ?_, fun W hr => ?_, fun W hr hT hE => ?_, fun W hr => ?_⟩
  · rw [hA]
    generalize hJ : lrJ p k c t v sl xs u a = J at *
    by_cases hall : ∀ i, i < n → (J i : Int) ≤ v
    · refine .inr ?_
      have hy := lr_yes hall
      rw [hy.1, hy.2.1, hy.2.2]
      have hTn := lrT_nn J n
      refine ⟨rfl, lrL_len J n, ⟨fun e => lrT_zero n (fun j hj => hk.2.1 j (by omega)), fun e => ?_⟩, ?_⟩
      · rcases Nat.lt_or_ge (sfN p k c t v u a sl n xs) n with h3 | h3
        · have h4 := hk.2.2 h3
          have h5 := hTn.2 _ h3
          omega
        · omega
      · refine ⟨J, fun i => (lrS p k c t v sl xs u a i).1, fun i => (lrS p k c t v sl xs u a i).2, fun i => left (lrS p k c t v sl xs u a i).1 v (J i), fun i => left (lrS p k c t v sl xs u a i).2 v (J i),
          fun i => strn p k v (left (lrS p k c t v sl xs u a i).1 v (J i)) (left (lrS p k c t v sl xs u a i).2 v (J i)), fun i => slw (strn p k v (left (lrS p k c t v sl xs u a i).1 v (J i)) (left (lrS p k c t v sl xs u a i).2 v (J i))), rfl, fun i hi => ⟨(lrT_nn J i).1, ?_⟩, rfl, rfl, fun i hi => ?_⟩
        · have h3 := lrT_bd (J := J) (v := v) i (fun j hj => hall j (by omega))
          have h4 : v * (i : Int) ≤ 20000 * 60 := Int.mul_le_mul (by have := h.v1; omega) (by omega) (by omega) (by omega)
          omega
        · have hO := lrS_ok (xs := xs) (sl := sl) h i (fun j hj => by rw [hJ]; exact hall j (by omega))
          have hJi : lrM p k c t v sl (lrS p k c t v sl xs u a i).1 (lrS p k c t v sl xs u a i).2 (xs i) = J i := by rw [← hJ]; rfl
          have hm := hall i hi
          have hst := lr_step (s := xs i) (sl := sl) hO (by rw [hJi]; exact hm)
          rw [hJi] at hst
          have hF := hO.fill (m := (J i : Int)) (by omega) hm
          have hro := ready_ok hF hst.1
          have hS := hF.strn_bd
          have hnx : lrS p k c t v sl xs u a (i + 1) = (left (lrS p k c t v sl xs u a i).1 v (J i) + xs i, left (lrS p k c t v sl xs u a i).2 v (J i)) := by rw [← hJi]; rfl
          refine ⟨lrL_at J n i hi, hk.2.1 i, fun e => by rw [e] at hi ⊢; exact hk.2.2 hi, hro.2.1, fun W => okSpecFillR hO (by omega) hm W, fun W => okSpecStrR hF W, fun W hT hE => ?_, fun W hT hE => ?_⟩
          · have := SlowerBy_any z (strn p k v (left (lrS p k c t v sl xs u a i).1 v (J i)) (left (lrS p k c t v sl xs u a i).2 v (J i))) W hT hE
            unfold slwR slwC at this
            rw [inB_true.2 hS, if_pos rfl, if_pos rfl, if_neg hro.2.2, if_neg hro.2.2] at this
            exact this
          · have := DevelopSheet_any (p := p) (k := k) (b := c) (t := t) (v := v) (u := left (lrS p k c t v sl xs u a i).1 v (J i)) (a := left (lrS p k c t v sl xs u a i).2 v (J i)) z (xs i) b0 b1 t0 t1 W hT hE
            have hsh : sheetC p k c t v (left (lrS p k c t v sl xs u a i).1 v (J i)) (left (lrS p k c t v sl xs u a i).2 v (J i)) (xs i) = 0 := by
              unfold sheetC sheetB
              rw [bathOk_true.2 hF, inB_true.2 (hx i hi), decide_eq_true hro.2.2, bathOk_true.2 hro.1]; rfl
            unfold BathCode at this
            rw [hsh] at this
            simp only [hnx]
            exact this
    · refine .inl ?_
      have hls := least_spec (n := n) (q := fun j => decide (v < (J j : Int)))
      unfold lrC lrF
      rw [if_pos rfl, if_pos]
      rcases Nat.lt_or_ge (least (fun j => decide (v < (J j : Int))) n) n with h3 | h3
      · exact h3
      · exfalso
        refine hall fun i hi => ?_
        have := hls.2.1 i (by omega)
        have := of_decide_eq_false this
        omega
  · exact LeastReplenished_any (p := p) (k := k) (b := c) (t := t) (v := v) (u := u) (a := a) z g n cap xs sl (by omega) b0 b1 t0 t1 W hr hT hE
  · exact specLeastReplenished_any (p := p) (k := k) (b := c) (t := t) (v := v) (u := u) (a := a) g n cap xs sl (by omega) b0 b1 t0 t1 W hr
  · have := SheetsFrom_any (p := p) (k := k) (b := c) (t := t) (v := v) (u := u) (a := a) z g n cap xs sl (by omega) b0 b1 t0 t1 W hr hT hE
    rw [hA, hR] at this; exact this
  · have := specSheetsFrom_any (p := p) (k := k) (b := c) (t := t) (v := v) (u := u) (a := a) g n cap xs sl (by omega) b0 b1 t0 t1 W hr
    rw [hA, hR] at this; exact this
end
end Go.Proofs.YtkgjkjecfpmlnaaDoor

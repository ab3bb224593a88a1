/-
  What FnReplenished asks of a bath, in plain numbers, and what the functions of both sides hand back there. Condition: the bath is right; the program's variables hold their own errors, its table of times what it holds.
-/
import Derived.Test.YtkgjkjecfpmlnaaDoorBathDrawn2
import Derived.Test.YtkgjkjecfpmlnaaDoorLeastI
import Derived.Test.YtkgjkjecfpmlnaaDoorLeastS
import Derived.Test.YtkgjkjecfpmlnaaDoorShLeft2
import Derived.Test.YtkgjkjecfpmlnaaDoorDeedsS2
namespace Go.Proofs.YtkgjkjecfpmlnaaDoor
open Go.RowKit

section
variable {p k b t v u a : Int}
theorem left_allR (x : Int) {v : Int} : left x v v = 0 := by unfold left; rw [Int.sub_self, Int.mul_zero]; exact Int.zero_ediv v
theorem strn_newR (h : BOk p k b t v u a) : strn p k v 0 0 = 1000 := by
  have hk := h.k0
  have hc := h.cap
  unfold strn fresh
  rw [if_neg (by omega), show v * p - 1000 * 0 = v * p by omega, Int.sub_zero, Int.mul_ediv_cancel _ (by omega), Int.mul_ediv_cancel _ (by omega)]
theorem for_facts (h : BOk p k b t v u a) {s : Int} (hs : 0 ≤ s) (hs' : s ≤ 1000) : ((least (forQ p k v u a s) (v.toNat + 1) : Nat) : Int) ≤ v ∧
    s ≤ strn p k v (left u v (least (forQ p k v u a s) (v.toNat + 1) : Nat)) (left a v (least (forQ p k v u a s) (v.toNat + 1) : Nat)) ∧
    (∀ j : Nat, j < least (forQ p k v u a s) (v.toNat + 1) → strn p k v (left u v j) (left a v j) < s) := by
  have hv := h.v0
  have hls := least_spec (n := v.toNat + 1) (q := forQ p k v u a s)
  have hq : forQ p k v u a s v.toNat = true := by
    unfold forQ
    have e : ((v.toNat : Nat) : Int) = v := by omega
    rw [e, left_allR, left_allR, strn_newR h]
    exact decide_eq_true hs'
  generalize least (forQ p k v u a s) (v.toNat + 1) = m at *
  have hm : m ≤ v.toNat := by
    rcases Nat.lt_or_ge v.toNat m with h1 | h1
    · have := hls.2.1 _ h1; rw [hq] at this; cases this
    · exact h1
  refine ⟨by omega, ?_, fun j hj => ?_⟩
  · have := hls.2.2 (by omega)
    unfold forQ at this
    exact of_decide_eq_true this
  · have := hls.2.1 j hj
    unfold forQ at this
    have := of_decide_eq_false this
    omega
theorem fill_ok {s : Int} (h : BOk p k b t v u a) (h0 : 0 ≤ s) (h1 : s ≤ v) : fillC p k b t v u a s = 0 := by
  unfold fillC
  rw [bathOk_true.2 h, inB_true.2 ⟨h0, h1⟩]; rfl
theorem sheets_room {s sl : Int} (h : BOk p k b t v u a) (hs : 1 ≤ s) : ((shN p k v u a s sl : Nat) : Int) * s ≤ v * p / 1000 - u := by
  have hls := least_spec (n := room p v u s) (q := shQ p k v u a s sl)
  have hr := h.room
  have h1 : ((shN p k v u a s sl : Nat) : Int) ≤ (v * p - 1000 * u) / (1000 * s) := by
    have h2 : shN p k v u a s sl ≤ room p v u s := hls.1
    have h3 : 0 ≤ (v * p - 1000 * u) / (1000 * s) := Int.ediv_nonneg (by omega) (by omega)
    unfold room at h2
    omega
  have h2 : v * p / 1000 - u = (v * p - 1000 * u) / 1000 := by omega
  rw [h2]
  have h3 := Int.mul_le_mul_of_nonneg_right h1 (by omega : (0 : Int) ≤ s)
  have h4 : (v * p - 1000 * u) / (1000 * s) * s ≤ (v * p - 1000 * u) / 1000 := by
    rw [← Int.ediv_ediv_of_nonneg (by omega)]
    exact Int.ediv_mul_le _ (by omega)
  omega
end

/-! ### SHEETS ONE AFTER THE OTHER -/
section
variable {p k b t v u a sl : Int} {xs : Nat → Int}
theorem lrM_zero {s : Int} (h : readyB p k b t v u a s sl = true) (hv : 1 ≤ v) : lrM p k b t v sl u a s = 0 := by
  have hq : lrQ p k b t v sl u a s 0 = true := by
    show readyB p k b t v (left u v ((0 : Nat) : Int)) (left a v ((0 : Nat) : Int)) s sl = true
    rw [show ((0 : Nat) : Int) = 0 from rfl, left_none hv, left_none hv]; exact h
  show least (lrQ p k b t v sl u a s) (v.toNat + 1) = 0
  unfold least
  rw [if_pos hq]
theorem lrM_pos {s : Int} (h : readyB p k b t v u a s sl = false) (hv : 1 ≤ v) : lrM p k b t v sl u a s ≠ 0 := by
  have hq : lrQ p k b t v sl u a s 0 = false := by
    show readyB p k b t v (left u v ((0 : Nat) : Int)) (left a v ((0 : Nat) : Int)) s sl = false
    rw [show ((0 : Nat) : Int) = 0 from rfl, left_none hv, left_none hv]; exact h
  show least (lrQ p k b t v sl u a s) (v.toNat + 1) ≠ 0
  unfold least
  rw [if_neg (by rw [hq]; decide)]; omega
theorem lr_before (hv : 1 ≤ v) : ∀ i, (∀ j, j < i → sfQ p k b t v u a sl xs j = false) → lrS p k b t v sl xs u a i = (u + preA xs i, a) ∧ ∀ j, j < i → lrJ p k b t v sl xs u a j = 0
  | 0, _ => ⟨by show (u, a) = (u + 0, a); rw [Int.add_zero], fun j h => by omega⟩
  | i + 1, h => by
    have ih := lr_before hv i (fun j hj => h j (by omega))
    have hi := h i (by omega)
    unfold sfQ at hi
    have hr : readyB p k b t v (u + preA xs i) a (xs i) sl = true := by simpa using hi
    have hz := lrM_zero hr hv
    have hJ : lrJ p k b t v sl xs u a i = 0 := by unfold lrJ; rw [ih.1]; exact hz
    refine ⟨?_, fun j hj => ?_⟩
    · show (left (lrS p k b t v sl xs u a i).1 v (lrM p k b t v sl (lrS p k b t v sl xs u a i).1 (lrS p k b t v sl xs u a i).2 (xs i)) + xs i, left (lrS p k b t v sl xs u a i).2 v (lrM p k b t v sl (lrS p k b t v sl xs u a i).1 (lrS p k b t v sl xs u a i).2 (xs i))) = (u + (preA xs i + xs i), a)
      rw [ih.1]
      show (left (u + preA xs i) v (lrM p k b t v sl (u + preA xs i) a (xs i)) + xs i, left a v (lrM p k b t v sl (u + preA xs i) a (xs i))) = _
      rw [hz, show ((0 : Nat) : Int) = 0 from rfl, left_none hv, left_none hv, Int.add_assoc]
    · by_cases e : j = i
      · subst e; exact hJ
      · exact ih.2 j (by omega)
theorem lr_known (hv : 1 ≤ v) (n : Nat) : sfN p k b t v u a sl n xs ≤ n ∧ (∀ j, j < sfN p k b t v u a sl n xs → lrJ p k b t v sl xs u a j = 0) ∧ (sfN p k b t v u a sl n xs < n → lrJ p k b t v sl xs u a (sfN p k b t v u a sl n xs) ≠ 0) := by
  have hls := least_spec (n := n) (q := sfQ p k b t v u a sl xs)
  have hb := lr_before (p := p) (k := k) (b := b) (t := t) (u := u) (a := a) (sl := sl) (xs := xs) hv (sfN p k b t v u a sl n xs) hls.2.1
  refine ⟨hls.1, hb.2, fun hlt => ?_⟩
  have hq : sfQ p k b t v u a sl xs (sfN p k b t v u a sl n xs) = true := hls.2.2 hlt
  unfold sfQ at hq
  have hr : readyB p k b t v (u + preA xs (sfN p k b t v u a sl n xs)) a (xs (sfN p k b t v u a sl n xs)) sl = false := by simpa using hq
  unfold lrJ
  rw [hb.1]
  exact lrM_pos hr hv
theorem lrT_nn (J : Nat → Nat) : ∀ n, 0 ≤ lrT J n ∧ ∀ j, j < n → (J j : Int) ≤ lrT J n
  | 0 => ⟨Int.le_refl _, fun j h => by omega⟩
  | n + 1 => by
    have ih := lrT_nn J n
    have e : lrT J (n + 1) = lrT J n + J n := rfl
    refine ⟨by omega, fun j hj => ?_⟩
    by_cases h : j = n
    · subst h; omega
    · have := ih.2 j (by omega); omega
theorem lrT_zero {J : Nat → Nat} : ∀ n, (∀ j, j < n → J j = 0) → lrT J n = 0
  | 0, _ => rfl
  | n + 1, h => by
    show lrT J n + (J n : Nat) = 0
    rw [lrT_zero n (fun j hj => h j (by omega)), h n (by omega)]; rfl
theorem lrT_bd {J : Nat → Nat} {v : Int} : ∀ n, (∀ j, j < n → (J j : Int) ≤ v) → lrT J n ≤ v * n
  | 0, _ => by simp [lrT]
  | n + 1, h => by
    have ih := lrT_bd n (fun j hj => h j (by omega))
    have hn := h n (by omega)
    show lrT J n + (J n : Nat) ≤ v * ((n + 1 : Nat) : Int)
    rw [Int.natCast_add, Int.mul_add]
    simp only [Int.natCast_one, Int.mul_one]
    omega
theorem lrL_at (J : Nat → Nat) : ∀ n i, i < n → (lrL J n).getD i 0 = (J i : Int)
  | 0, i, h => by omega
  | n + 1, i, h => by
    show (lrL J n ++ [(J n : Int)]).getD i 0 = _
    rw [List.getD_eq_getElem?_getD]
    by_cases e : i < n
    · rw [List.getElem?_append_left (by rw [lrL_len]; exact e), ← List.getD_eq_getElem?_getD]; exact lrL_at J n i e
    · obtain rfl : i = n := by omega
      rw [List.getElem?_append_right (by rw [lrL_len]; omega), lrL_len]; simp
theorem lrS_ok (h : BOk p k b t v u a) : ∀ i, (∀ j, j < i → (lrJ p k b t v sl xs u a j : Int) ≤ v) → BOk p k b t v (lrS p k b t v sl xs u a i).1 (lrS p k b t v sl xs u a i).2
  | 0, _ => h
  | i + 1, hj => (lr_step (lrS_ok h i (fun j hji => hj j (by omega))) (hj i (by omega))).2
end
end Go.Proofs.YtkgjkjecfpmlnaaDoor

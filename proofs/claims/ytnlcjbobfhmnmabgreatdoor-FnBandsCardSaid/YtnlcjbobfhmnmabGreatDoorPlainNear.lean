/-
  Plain arithmetic: the first of several that reaches a number, the first that is nearest, whether all lie within bounds. Imports nothing of the program but its base.
-/
import Derived.Test.YtnlcjbobfhmnmabGreatDoorBase
namespace Go.Proofs.YtnlcjbobfhmnmabGreatDoor
open Go.RowKit

/-- The first index for which q holds; n if there is none. -/
def firstK (q : Nat → Bool) : Nat → Nat
  | 0 => 0
  | n + 1 => if q 0 = true then 0 else firstK (fun i => q (i + 1)) n + 1
theorem firstK_eq : ∀ {n : Nat} {q : Nat → Bool} {k : Nat}, k ≤ n → (∀ j, j < k → q j = false) → (k < n → q k = true) → firstK q n = k
  | 0, q, k, hk, _, _ => by simp [firstK]; omega
  | n + 1, q, 0, _, _, h => by simp [firstK, h (by omega)]
  | n + 1, q, k + 1, hk, h0, h1 => by
    have : q 0 = false := h0 0 (by omega)
    simp only [firstK, this, Bool.false_eq_true, if_false]
    rw [firstK_eq (k := k) (by omega) (fun j hj => h0 (j + 1) (by omega)) (fun hlt => h1 (by omega))]
theorem firstK_spec : ∀ {n : Nat} {q : Nat → Bool}, firstK q n ≤ n ∧ (∀ j, j < firstK q n → q j = false) ∧ (firstK q n < n → q (firstK q n) = true)
  | 0, q => by simp [firstK]
  | n + 1, q => by
    by_cases h : q 0 = true
    · simp [firstK, h]
    · have ih := firstK_spec (n := n) (q := fun i => q (i + 1))
      have h' : q 0 = false := by simpa using h
      simp only [firstK, h', Bool.false_eq_true, if_false]
      refine ⟨by omega, fun j hj => ?_, fun hlt => ih.2.2 (by omega)⟩
      cases j with
      | zero => exact h'
      | succ j => exact ih.2.1 j (by omega)
/-- The first one that is nearest. -/
def nearK (g : Nat → Int) : Nat → Nat
  | 0 => 0
  | k + 1 => if g k < g (nearK g k) then k else nearK g k
theorem nearK_lt (g : Nat → Int) : ∀ k, 0 < k → nearK g k < k
  | 0, h => by omega
  | k + 1, _ => by
    rw [nearK]
    split
    · omega
    · rcases Nat.eq_zero_or_pos k with rfl | h
      · simp [nearK]
      · have := nearK_lt g k h; omega
theorem nearK_one (g : Nat → Int) : nearK g 1 = 0 := by simp [nearK]
theorem nearK_new {g : Nat → Int} {k : Nat} (h : g k < g (nearK g k)) : nearK g (k + 1) = k := by rw [nearK, if_pos h]
theorem nearK_old {g : Nat → Int} {k : Nat} (h : ¬ g k < g (nearK g k)) : nearK g (k + 1) = nearK g k := by rw [nearK, if_neg h]

/-- Do the first k numbers lie within both bounds? -/
def allT (lo hi : Int) (xs : Nat → Int) : Nat → Bool
  | 0 => true
  | k + 1 => allT lo hi xs k && inB (xs k) lo hi
theorem allT_iff {lo hi : Int} {xs : Nat → Int} : ∀ {n : Nat}, allT lo hi xs n = true ↔ ∀ j, j < n → inB (xs j) lo hi = true
  | 0 => by simp [allT]
  | n + 1 => by
    rw [allT, Bool.and_eq_true, allT_iff]
    constructor
    · rintro ⟨h, h1⟩ j hj
      rcases Nat.lt_or_ge j n with h2 | h2
      · exact h j h2
      · obtain rfl : j = n := by omega
        exact h1
    · intro h
      exact ⟨fun j hj => h j (by omega), h n (by omega)⟩
theorem allT_no {lo hi : Int} {xs : Nat → Int} {n k : Nat} (hk : k < n) (h : inB (xs k) lo hi = false) : allT lo hi xs n = false := by
  rcases h2 : allT lo hi xs n with _ | _
  · rfl
  · rw [allT_iff.1 h2 k hk] at h; cases h
theorem allT_more {lo hi : Int} {xs : Nat → Int} {k : Nat} (h : allT lo hi xs k = true) (h2 : inB (xs k) lo hi = true) : allT lo hi xs (k + 1) = true := by simp [allT, h, h2]
/-- Are these bands, and is the target one's density? -/
def bandB (n : Nat) (xs : Nat → Int) (t : Int) : Bool := inB n 1 20 && allT 0 400 xs n && inB t 0 400
theorem bandB_ok {n : Nat} {xs : Nat → Int} {t : Int} (h : bandB n xs t = true) : (1 ≤ n ∧ n ≤ 20) ∧ (∀ j, j < n → 0 ≤ xs j ∧ xs j ≤ 400) ∧ 0 ≤ t ∧ t ≤ 400 := by
  simp only [bandB, Bool.and_eq_true, inB_true] at h
  obtain ⟨⟨⟨h1, h2⟩, h3⟩, h4⟩ := h
  exact ⟨⟨by omega, by omega⟩, fun j hj => inB_true.1 (allT_iff.1 h3 j hj), h4⟩
end Go.Proofs.YtnlcjbobfhmnmabGreatDoor

/-
  Plain: what is reached over neighbours, as masks of bits, and the list of such parts. Imports nothing of the program.
-/
import Derived.RowKit
namespace Go.Proofs.YtmibinfaafhgdaaDoor

/-- Reached from a, step by step. -/
inductive Reach (R : Nat → Nat → Prop) (a : Nat) : Nat → Prop
  | start : Reach R a a
  | next {b c : Nat} : Reach R a b → R b c → Reach R a c
section
variable {R : Nat → Nat → Prop} {a b c : Nat}
theorem Reach.trans (h : Reach R a b) (k : Reach R b c) : Reach R a c := by
  induction k with
  | start => exact h
  | next _ hr ih => exact .next ih hr
theorem Reach.symm (hs : ∀ x y, R x y → R y x) (h : Reach R a b) : Reach R b a := by
  induction h with
  | start => exact .start
  | next _ hr ih => exact (Reach.next .start (hs _ _ hr)).trans ih
theorem Reach.lt {n : Nat} (hR : ∀ x y, R x y → y < n) (ha : a < n) (h : Reach R a b) : b < n := by
  cases h with
  | start => exact ha
  | next _ hr => exact hR _ _ hr
/-- A set that holds a, is closed, and holds only what is reached, is what is reached. -/
theorem reach_is {S : Nat → Prop} (ha : S a) (hcl : ∀ x y, S x → R x y → S y) (hre : ∀ x, S x → Reach R a x) : ∀ x, S x ↔ Reach R a x := fun x => by
  refine ⟨hre x, fun h => ?_⟩
  induction h with
  | start => exact ha
  | next _ hr ih => exact hcl _ _ ih hr
end

open Classical in
/-- The mask of the numbers below n of which p holds. -/
noncomputable def maskP (p : Nat → Prop) : Nat → Nat
  | 0 => 0
  | n + 1 => if p n then maskP p n + 2 ^ n else maskP p n
theorem maskP_lt (p : Nat → Prop) : ∀ n, maskP p n < 2 ^ n
  | 0 => by simp [maskP]
  | n + 1 => by
    have := maskP_lt p n
    have h2 : 2 ^ (n + 1) = 2 ^ n + 2 ^ n := by rw [Nat.pow_succ]; omega
    rw [maskP]
    split <;> omega
theorem maskP_bit (p : Nat → Prop) : ∀ n k, (maskP p n).testBit k = true ↔ k < n ∧ p k
  | 0, k => by simp [maskP]
  | n + 1, k => by
    have ih := maskP_bit p n k
    have hl := maskP_lt p n
    rw [maskP]
    by_cases hp : p n
    · rw [if_pos hp, Nat.add_comm]
      rcases Nat.lt_trichotomy k n with h | h | h
      · rw [Nat.testBit_two_pow_add_gt h, ih]
        constructor
        · rintro ⟨_, hk⟩; exact ⟨by omega, hk⟩
        · rintro ⟨_, hk⟩; exact ⟨h, hk⟩
      · subst h
        rw [Nat.testBit_two_pow_add_eq, Nat.testBit_lt_two_pow hl]
        simp [hp]
      · have hlt : 2 ^ n + maskP p n < 2 ^ k := by
          have h2 : 2 ^ (n + 1) = 2 ^ n + 2 ^ n := by rw [Nat.pow_succ]; omega
          have h3 : 2 ^ (n + 1) ≤ 2 ^ k := Nat.pow_le_pow_right (by omega) h
          omega
        rw [Nat.testBit_lt_two_pow hlt]
        simp; omega
    · rw [if_neg hp, ih]
      constructor
      · rintro ⟨hk, hq⟩; exact ⟨by omega, hq⟩
      · rintro ⟨hk, hq⟩
        have : k ≠ n := fun e => by subst e; exact hp hq
        exact ⟨by omega, hq⟩
/-- A mask with just these bits. -/
theorem mask_is {p : Nat → Prop} {n M : Nat} (hM : M < 2 ^ n) (h : ∀ k, k < n → (M.testBit k = true ↔ p k)) : M = maskP p n := by
  refine Nat.eq_of_testBit_eq fun k => ?_
  by_cases hk : k < n
  · rw [Bool.eq_iff_iff, maskP_bit, h k hk]; simp [hk]
  · rw [Nat.testBit_lt_two_pow (Nat.lt_of_lt_of_le hM (Nat.pow_le_pow_right (by omega) (by omega))), Nat.testBit_lt_two_pow (Nat.lt_of_lt_of_le (maskP_lt p n) (Nat.pow_le_pow_right (by omega) (by omega)))]

open Classical in
/-- The parts of the numbers below n, by their least number: those of the first i. -/
noncomputable def comps (R : Nat → Nat → Prop) (n : Nat) : Nat → List Nat
  | 0 => []
  | i + 1 => if ∃ j, j < i ∧ Reach R j i then comps R n i else comps R n i ++ [maskP (Reach R i) n]
section
variable {R : Nat → Nat → Prop} {n i : Nat}
theorem comps_old (h : ∃ j, j < i ∧ Reach R j i) : comps R n (i + 1) = comps R n i := by rw [comps, if_pos h]
theorem comps_new (h : ¬ ∃ j, j < i ∧ Reach R j i) : comps R n (i + 1) = comps R n i ++ [maskP (Reach R i) n] := by rw [comps, if_neg h]
theorem comps_len : ∀ i, (comps R n i).length ≤ i
  | 0 => by simp [comps]
  | i + 1 => by
    have := comps_len i
    rw [comps]
    split
    · omega
    · simp; omega
/-- What lies in the parts of the first i numbers, step by step: 'done' is what some number below i reaches. -/
theorem done_old (h : ∃ j, j < i ∧ Reach R j i) (c : Nat) : (∃ j, j < i + 1 ∧ Reach R j c) ↔ ∃ j, j < i ∧ Reach R j c := by
  constructor
  · rintro ⟨j, hj, hr⟩
    by_cases e : j = i
    · subst e
      obtain ⟨j0, h0, hr0⟩ := h
      exact ⟨j0, h0, hr0.trans hr⟩
    · exact ⟨j, by omega, hr⟩
  · rintro ⟨j, hj, hr⟩; exact ⟨j, by omega, hr⟩
theorem done_new (c : Nat) : (∃ j, j < i + 1 ∧ Reach R j c) ↔ (∃ j, j < i ∧ Reach R j c) ∨ Reach R i c := by
  constructor
  · rintro ⟨j, hj, hr⟩
    by_cases e : j = i
    · subst e; exact .inr hr
    · exact .inl ⟨j, by omega, hr⟩
  · rintro (⟨j, hj, hr⟩ | hr)
    · exact ⟨j, by omega, hr⟩
    · exact ⟨i, by omega, hr⟩
/-- Parts do not meet. -/
theorem comps_apart (hs : ∀ x y, R x y → R y x) (h : ¬ ∃ j, j < i ∧ Reach R j i) (c : Nat) (hc : Reach R i c) : ¬ ∃ j, j < i ∧ Reach R j c := by
  rintro ⟨j, hj, hr⟩
  exact h ⟨j, hj, hr.trans (hc.symm hs)⟩
end
end Go.Proofs.YtmibinfaafhgdaaDoor

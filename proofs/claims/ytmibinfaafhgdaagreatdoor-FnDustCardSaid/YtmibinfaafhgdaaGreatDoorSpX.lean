/-
  Plain: what is reached over neighbours, as masks of bits, and the list of such parts. Imports nothing of the program.
-/
import Derived.RowKit
import Derived.Test.YtmibinfaafhgdaaGreatDoorBvX
namespace Go.Proofs.YtmibinfaafhgdaaGreatDoor

/-- Reached from a, step by step. -/
inductive Reach (R : Nat → Nat → Prop) (a : Nat) : Nat → Prop
  | start : Reach R a a
  | next {b c : Nat} : Reach R a b → R b c → Reach R a c
section
variable {R : Nat → Nat → Prop} {a b c : Nat}
theorem Reach.trans (h : Reach R a b) (k : Reach R b c) : Reach R a c := by
  induction k with
  | start => exact h
  | next _ hr ih => exact .next ih hr
theorem Reach.symm (hs : ∀ x y, R x y → R y x) (h : Reach R a b) : Reach R b a := by
  induction h with
  | start => exact .start
  | next _ hr ih => exact (Reach.next .start (hs _ _ hr)).trans ih
theorem Reach.lt {n : Nat} (hR : ∀ x y, R x y → y < n) (ha : a < n) (h : Reach R a b) : b < n := by
  cases h with
  | start => exact ha
  | next _ hr => exact hR _ _ hr
/-- A set that holds a, is closed, and holds only what is reached, is what is reached. -/
theorem reach_is {S : Nat → Prop} (ha : S a) (hcl : ∀ x y, S x → R x y → S y) (hre : ∀ x, S x → Reach R a x) : ∀ x, S x ↔ Reach R a x := fun x => by
  refine ⟨hre x, fun h => ?_⟩
  induction h with
  | start => exact ha
  | next _ hr ih => exact hcl _ _ ih hr
end

open Classical in
/-- The mask of the numbers below n of which p holds. -/
noncomputable def maskP (p : Nat → Prop) : Nat → Nat
  | 0 => 0
  | n + 1 => if p n then maskP p n + 2 ^ n else maskP p n
theorem maskP_lt (p : Nat → Prop) : ∀ n, maskP p n < 2 ^ n
  | 0 => by simp [maskP]
  | n + 1 => by
    have := maskP_lt p n
    have h2 : 2 ^ (n + 1) = 2 ^ n + 2 ^ n := by rw [Nat.pow_succ]; omega
    rw [maskP]
    split <;> omega
theorem maskP_bit (p : Nat → Prop) : ∀ n k, (maskP p n).testBit k = true ↔ k < n ∧ p k
  | 0, k => by simp [maskP]
  | n + 1, k => by
    have ih := maskP_bit p n k
    have hl := maskP_lt p n
    rw [maskP]
    by_cases hp : p n
    · rw [if_pos hp, Nat.add_comm]
      rcases Nat.lt_trichotomy k n with h | h | h
      · rw [Nat.testBit_two_pow_add_gt h, ih]
        constructor
        · rintro ⟨_, hk⟩; exact ⟨by omega, hk⟩
        · rintro ⟨_, hk⟩; exact ⟨h, hk⟩
      · subst h
        rw [Nat.testBit_two_pow_add_eq, Nat.testBit_lt_two_pow hl]
        simp [hp]
      · have hlt : 2 ^ n + maskP p n < 2 ^ k := by
          have h2 : 2 ^ (n + 1) = 2 ^ n + 2 ^ n := by rw [Nat.pow_succ]; omega
          have h3 : 2 ^ (n + 1) ≤ 2 ^ k := Nat.pow_le_pow_right (by omega) h
          omega
        rw [Nat.testBit_lt_two_pow hlt]
        simp; omega
    · rw [if_neg hp, ih]
      constructor
      · rintro ⟨hk, hq⟩; exact ⟨by omega, hq⟩
      · rintro ⟨hk, hq⟩
        have : k ≠ n := fun e => by subst e; exact hp hq
        exact ⟨by omega, hq⟩
/-- A mask with just these bits. -/
theorem mask_is {p : Nat → Prop} {n M : Nat} (hM : M < 2 ^ n) (h : ∀ k, k < n → (M.testBit k = true ↔ p k)) : M = maskP p n := by
  refine Nat.eq_of_testBit_eq fun k => ?_
  by_cases hk : k < n
  · rw [Bool.eq_iff_iff, maskP_bit, h k hk]; simp [hk]
  · rw [Nat.testBit_lt_two_pow (Nat.lt_of_lt_of_le hM (Nat.pow_le_pow_right (by omega) (by omega))), Nat.testBit_lt_two_pow (Nat.lt_of_lt_of_le (maskP_lt p n) (Nat.pow_le_pow_right (by omega) (by omega)))]

open Classical in
/-- The parts of the numbers below n, by their least number: those of the first i. -/
noncomputable def comps (R : Nat → Nat → Prop) (n : Nat) : Nat → List Nat
  | 0 => []
  | i + 1 => if ∃ j, j < i ∧ Reach R j i then comps R n i else comps R n i ++ [maskP (Reach R i) n]
section
variable {R : Nat → Nat → Prop} {n i : Nat}
theorem comps_old (h : ∃ j, j < i ∧ Reach R j i) : comps R n (i + 1) = comps R n i := by rw [comps, if_pos h]
theorem comps_new (h : ¬ ∃ j, j < i ∧ Reach R j i) : comps R n (i + 1) = comps R n i ++ [maskP (Reach R i) n] := by rw [comps, if_neg h]
theorem comps_len : ∀ i, (comps R n i).length ≤ i
  | 0 => by simp [comps]
  | i + 1 => by
    have := comps_len i
    rw [comps]
    split
    · omega
    · simp; omega
/-- What lies in the parts of the first i numbers, step by step: 'done' is what some number below i reaches. -/
theorem done_old (h : ∃ j, j < i ∧ Reach R j i) (c : Nat) : (∃ j, j < i + 1 ∧ Reach R j c) ↔ ∃ j, j < i ∧ Reach R j c := by
  constructor
  · rintro ⟨j, hj, hr⟩
    by_cases e : j = i
    · subst e
      obtain ⟨j0, h0, hr0⟩ := h
      exact ⟨j0, h0, hr0.trans hr⟩
    · exact ⟨j, by omega, hr⟩
  · rintro ⟨j, hj, hr⟩; exact ⟨j, by omega, hr⟩
theorem done_new (c : Nat) : (∃ j, j < i + 1 ∧ Reach R j c) ↔ (∃ j, j < i ∧ Reach R j c) ∨ Reach R i c := by
  constructor
  · rintro ⟨j, hj, hr⟩
    by_cases e : j = i
    · subst e; exact .inr hr
    · exact .inl ⟨j, by omega, hr⟩
  · rintro (⟨j, hj, hr⟩ | hr)
    · exact ⟨j, by omega, hr⟩
    · exact ⟨i, by omega, hr⟩
/-- Parts do not meet. -/
theorem comps_apart (hs : ∀ x y, R x y → R y x) (h : ¬ ∃ j, j < i ∧ Reach R j i) (c : Nat) (hc : Reach R i c) : ¬ ∃ j, j < i ∧ Reach R j c := by
  rintro ⟨j, hj, hr⟩
  exact h ⟨j, hj, hr.trans (hc.symm hs)⟩
end
end Go.Proofs.YtmibinfaafhgdaaGreatDoor

namespace Go.Proofs.YtmibinfaafhgdaaGreatDoor

/-- Cell c lies side by side with cell x, or above or below it. -/
def nbN (x c : Nat) : Prop := c + 8 = x ∨ x + 8 = c ∨ (c + 1 = x ∧ x % 8 ≠ 0) ∨ (x + 1 = c ∧ c % 8 ≠ 0)
theorem nbN_symm {x c : Nat} (h : nbN x c) : nbN c x := by
  unfold nbN at *; omega
theorem westM_bit : ∀ c, c < 64 → westM.getLsbD c = decide (c % 8 = 0) := by decide +kernel
theorem eastM_bit : ∀ c, c < 64 → eastM.getLsbD c = decide (c % 8 = 7) := by decide +kernel
theorem bit_lt {m : BitVec 64} {c : Nat} (h : m.getLsbD c = true) : c < 64 := by
  rcases Nat.lt_or_ge c 64 with h1 | h1
  · exact h1
  · rw [BitVec.getLsbD_of_ge _ _ h1] at h; cases h
theorem growB_bit (m : BitVec 64) {c : Nat} (hc : c < 64) : (growB m).getLsbD c = true ↔ m.getLsbD c = true ∨ ∃ x, m.getLsbD x = true ∧ nbN x c := by
  have e1 : (growB m).getLsbD c = (m.getLsbD c || m.getLsbD (8 + c) || (m.getLsbD (1 + c) && !westM.getLsbD (1 + c) && decide (1 + c < 64)) || (decide (1 ≤ c) && (m.getLsbD (c - 1) && !eastM.getLsbD (c - 1))) || (decide (8 ≤ c) && m.getLsbD (c - 8))) := by
    unfold growB
    simp only [BitVec.getLsbD_or, BitVec.getLsbD_ushiftRight, BitVec.getLsbD_shiftLeft, BitVec.getLsbD_and, BitVec.getLsbD_not]
    have h1 : (decide (c < 64)) = true := by simpa using hc
    have h2 : (decide (c - 1 < 64)) = true := by simp; omega
    simp only [h1, h2, Bool.true_and]
    have h3 : (!decide (c < 1)) = decide (1 ≤ c) := by rw [← decide_not]; exact decide_eq_decide.2 (by omega)
    have h4 : (!decide (c < 8)) = decide (8 ≤ c) := by rw [← decide_not]; exact decide_eq_decide.2 (by omega)
    rw [h3, h4]
    cases m.getLsbD (1 + c) <;> cases westM.getLsbD (1 + c) <;> simp
  rw [e1]
  simp only [Bool.or_eq_true, Bool.and_eq_true, decide_eq_true_eq, Bool.not_eq_true']
  constructor
  · rintro ((((h | h) | ⟨⟨h, h2⟩, h3⟩) | ⟨h, h2, h3⟩) | ⟨h, h2⟩)
    · exact .inl h
    · exact .inr ⟨8 + c, h, by unfold nbN; omega⟩
    · rw [westM_bit _ h3] at h2
      have h2' : ¬ (1 + c) % 8 = 0 := by simpa using h2
      exact .inr ⟨1 + c, h, by unfold nbN; omega⟩
    · rw [eastM_bit _ (by omega)] at h3
      have h3' : ¬ (c - 1) % 8 = 7 := by simpa using h3
      exact .inr ⟨c - 1, h2, by unfold nbN; omega⟩
    · exact .inr ⟨c - 8, h2, by unfold nbN; omega⟩
  · rintro (h | ⟨x, hx, hn⟩)
    · exact .inl (.inl (.inl (.inl h)))
    · have hx64 := bit_lt hx
      rcases hn with h | h | ⟨h, h2⟩ | ⟨h, h2⟩
      · obtain rfl : x = 8 + c := by omega
        exact .inl (.inl (.inl (.inr hx)))
      · obtain rfl : x = c - 8 := by omega
        exact .inr ⟨by omega, hx⟩
      · obtain rfl : x = 1 + c := by omega
        exact .inl (.inl (.inr ⟨⟨hx, by rw [westM_bit _ hx64]; simpa using h2⟩, hx64⟩))
      · obtain rfl : x = c - 1 := by omega
        refine .inl (.inr ⟨by omega, hx, ?_⟩)
        rw [eastM_bit _ hx64]
        simp; omega

/-- Neighbours in a mask. -/
def RM (M : BitVec 64) (x y : Nat) : Prop := M.getLsbD x = true ∧ M.getLsbD y = true ∧ nbN x y
theorem RM_symm (M : BitVec 64) (x y : Nat) (h : RM M x y) : RM M y x := ⟨h.2.1, h.1, nbN_symm h.2.2⟩
/-- The spot of a cell. -/
noncomputable def compB (M : BitVec 64) (k : Nat) : BitVec 64 := BitVec.ofNat 64 (maskP (Reach (RM M) k) 64)
theorem compB_bit {M : BitVec 64} {k : Nat} (hk : M.getLsbD k = true) (c : Nat) : (compB M k).getLsbD c = true ↔ Reach (RM M) k c := by
  have hlt := maskP_lt (Reach (RM M) k) 64
  have h := maskP_bit (Reach (RM M) k) 64 c
  have e : (compB M k).getLsbD c = (maskP (Reach (RM M) k) 64).testBit c := by
    unfold compB
    rw [BitVec.getLsbD_ofNat]
    by_cases hc : c < 64
    · simp [hc]
    · have : (maskP (Reach (RM M) k) 64).testBit c = false := Nat.testBit_lt_two_pow (Nat.lt_of_lt_of_le hlt (Nat.pow_le_pow_right (by omega) (by omega)))
      simp [hc, this]
  rw [e, h]
  constructor
  · exact fun h => h.2
  · intro h
    refine ⟨?_, h⟩
    cases h with
    | start => exact bit_lt hk
    | next _ hr => exact bit_lt hr.2.1
theorem reach_in {M : BitVec 64} {k c : Nat} (hk : M.getLsbD k = true) (h : Reach (RM M) k c) : M.getLsbD c = true := by
  cases h with
  | start => exact hk
  | next _ hr => exact hr.2.1
/-- A mask that holds a cell, that only holds what is reached from it, and that does not grow within the cells N, is the cell's spot, if all that is reached lies in N. -/
theorem spot_fix {M N X : BitVec 64} {k : Nat} (hM : M.getLsbD k = true) (hk : X.getLsbD k = true) (hN : ∀ c, Reach (RM M) k c → N.getLsbD c = true) (hX : growB X &&& N = X) (hre : ∀ c, X.getLsbD c = true → Reach (RM M) k c) : X = compB M k := by
  have key : ∀ c, X.getLsbD c = true ↔ Reach (RM M) k c := reach_is hk (fun x y hx hr => by
    have hy := hN y (.next (hre x hx) hr)
    rw [← hX, BitVec.getLsbD_and, hy, Bool.and_true, growB_bit X (bit_lt hr.2.1)]
    exact .inr ⟨x, hx, hr.2.2⟩) hre
  refine BitVec.eq_of_getLsbD_eq fun i _ => ?_
  rw [Bool.eq_iff_iff, key, compB_bit hM]
/-- What is reached stays so. -/
theorem spot_step {M N X : BitVec 64} {k : Nat} (hNM : ∀ c, N.getLsbD c = true → M.getLsbD c = true) (hXN : ∀ c, X.getLsbD c = true → N.getLsbD c = true) (hre : ∀ c, X.getLsbD c = true → Reach (RM M) k c) :
    (∀ c, (growB X &&& N).getLsbD c = true → Reach (RM M) k c) ∧ (∀ c, X.getLsbD c = true → (growB X &&& N).getLsbD c = true) ∧ ∀ c, (growB X &&& N).getLsbD c = true → N.getLsbD c = true := by
  refine ⟨fun c h => ?_, fun c h => ?_, fun c h => ?_⟩
  · have hc := bit_lt h
    rw [BitVec.getLsbD_and, Bool.and_eq_true, growB_bit X hc] at h
    rcases h.1 with h1 | ⟨x, hx, hn⟩
    · exact hre c h1
    · exact .next (hre x hx) ⟨hNM x (hXN x hx), hNM c h.2, hn⟩
  · rw [BitVec.getLsbD_and, hXN c h, Bool.and_true, growB_bit X (bit_lt h)]
    exact .inl h
  · rw [BitVec.getLsbD_and, Bool.and_eq_true] at h
    exact h.2
/-- A greater set is a greater number. -/
theorem sub_lt {X Y : BitVec 64} (h : ∀ c, X.getLsbD c = true → Y.getLsbD c = true) (hne : X ≠ Y) : X.toNat < Y.toNat := by
  have e : X ||| Y = Y := BitVec.eq_of_getLsbD_eq fun i _ => by
    rw [BitVec.getLsbD_or, Bool.eq_iff_iff, Bool.or_eq_true]
    exact ⟨fun hh => hh.elim (h i) id, .inr⟩
  have h1 : X.toNat ≤ Y.toNat := by
    rw [← e, BitVec.toNat_or]; exact Nat.left_le_or
  have h2 : X.toNat ≠ Y.toNat := fun h => hne (BitVec.eq_of_toNat_eq h)
  omega

open Classical in
/-- The spots of the first i cells of a mask. -/
noncomputable def spL (M : BitVec 64) : Nat → List (BitVec 64)
  | 0 => []
  | i + 1 => if M.getLsbD i = true ∧ ¬ ∃ j, j < i ∧ M.getLsbD j = true ∧ Reach (RM M) j i then spL M i ++ [compB M i] else spL M i
section
variable {M : BitVec 64} {i : Nat}
theorem spL_new (h0 : M.getLsbD i = true) (h : ¬ ∃ j, j < i ∧ M.getLsbD j = true ∧ Reach (RM M) j i) : spL M (i + 1) = spL M i ++ [compB M i] := by rw [spL, if_pos ⟨h0, h⟩]
theorem spL_no (h0 : M.getLsbD i = false) : spL M (i + 1) = spL M i := by rw [spL, if_neg (by rw [h0]; rintro ⟨h, _⟩; cases h)]
theorem spL_old (h : ∃ j, j < i ∧ M.getLsbD j = true ∧ Reach (RM M) j i) : spL M (i + 1) = spL M i := by rw [spL, if_neg (fun h' => h'.2 h)]
theorem spL_len : ∀ i, (spL M i).length ≤ i
  | 0 => by simp [spL]
  | i + 1 => by
    have := spL_len i
    rw [spL]
    split
    · simp; omega
    · omega
/-- Which cells lie in the spots of the first i cells. -/
theorem spL_mem : ∀ i c, (∃ C, C ∈ spL M i ∧ C.getLsbD c = true) ↔ ∃ j, j < i ∧ M.getLsbD j = true ∧ Reach (RM M) j c
  | 0, c => by simp [spL]
  | i + 1, c => by
    have ih := spL_mem i c
    rcases hb : M.getLsbD i with _ | _
    · rw [spL_no hb, ih]
      constructor
      · rintro ⟨j, hj, h⟩; exact ⟨j, by omega, h⟩
      · rintro ⟨j, hj, h0, h⟩
        have : j ≠ i := fun e => by subst e; rw [hb] at h0; cases h0
        exact ⟨j, by omega, h0, h⟩
    · by_cases ho : ∃ j, j < i ∧ M.getLsbD j = true ∧ Reach (RM M) j i
      · rw [spL_old ho, ih]
        constructor
        · rintro ⟨j, hj, h⟩; exact ⟨j, by omega, h⟩
        · rintro ⟨j, hj, h0, h⟩
          by_cases e : j = i
          · subst e
            obtain ⟨j0, h1, h2, h3⟩ := ho
            exact ⟨j0, h1, h2, h3.trans h⟩
          · exact ⟨j, by omega, h0, h⟩
      · rw [spL_new hb ho]
        constructor
        · rintro ⟨C, hC, h⟩
          rcases List.mem_append.1 hC with hC | hC
          · obtain ⟨j, hj, h⟩ := ih.1 ⟨C, hC, h⟩
            exact ⟨j, by omega, h⟩
          · obtain rfl := List.mem_singleton.1 hC
            exact ⟨i, by omega, hb, (compB_bit hb c).1 h⟩
        · rintro ⟨j, hj, h0, h⟩
          by_cases e : j = i
          · subst e
            exact ⟨compB M j, List.mem_append_right _ (List.mem_singleton.2 rfl), (compB_bit hb c).2 h⟩
          · obtain ⟨C, hC, h⟩ := ih.2 ⟨j, by omega, h0, h⟩
            exact ⟨C, List.mem_append_left _ hC, h⟩
end
end Go.Proofs.YtmibinfaafhgdaaGreatDoor

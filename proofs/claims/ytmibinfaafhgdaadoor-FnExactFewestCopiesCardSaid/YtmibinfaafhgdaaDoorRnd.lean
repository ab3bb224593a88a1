/-
  Plain: the rim of a mask, the rounds till no cell is left, the number of its cells. Of whatever mask; no condition.
-/
import Derived.Test.YtmibinfaafhgdaaDoorSpotM
namespace Go.Proofs.YtmibinfaafhgdaaDoor

theorem bitR_of (k c : Nat) (hk : k < 64) : (1#64 <<< k).getLsbD c = decide (c = k) := by
  rw [BitVec.getLsbD_shiftLeft, BitVec.getLsbD_one]
  by_cases e : c = k
  · subst e; simp [hk]
  · by_cases h : c < k
    · simp [e, h]
    · have : ¬ c - k = 0 := by omega
      simp [e, this]
theorem not_bit (m : BitVec 64) {c : Nat} (hc : c < 64) : (~~~m).getLsbD c = !m.getLsbD c := by
  rw [BitVec.getLsbD_not]; simp [hc]
/-- The neighbours of a cell that a mask does not hold. -/
def aroB (m : BitVec 64) (k : Nat) : BitVec 64 := growB (1#64 <<< k) &&& ~~~(1#64 <<< k) &&& ~~~m
def rimB (m : BitVec 64) : BitVec 64 := m &&& growB (~~~m)
theorem aro_bit (m : BitVec 64) {k x : Nat} (hk : k < 64) (hx : x < 64) : (aroB m k).getLsbD x = true ↔ nbN k x ∧ m.getLsbD x = false := by
  unfold aroB
  rw [BitVec.getLsbD_and, BitVec.getLsbD_and, not_bit _ hx, not_bit _ hx, bitR_of k x hk]
  simp only [Bool.and_eq_true, Bool.not_eq_true', decide_eq_false_iff_not]
  rw [growB_bit _ hx, bitR_of k x hk]
  constructor
  · rintro ⟨⟨h | ⟨y, h1, h2⟩, h3⟩, h4⟩
    · exact absurd (by simpa using h) h3
    · rw [bitR_of k y hk] at h1
      obtain rfl : y = k := by simpa using h1
      exact ⟨h2, h4⟩
  · rintro ⟨h1, h2⟩
    refine ⟨⟨.inr ⟨k, by rw [bitR_of k k hk]; simp, h1⟩, ?_⟩, h2⟩
    unfold nbN at h1; omega
theorem bv_ne {a : BitVec 64} : a ≠ 0#64 ↔ ∃ x, x < 64 ∧ a.getLsbD x = true := by
  constructor
  · intro h
    apply Classical.byContradiction
    intro hn
    apply h
    refine BitVec.eq_of_getLsbD_eq fun i hi => ?_
    rcases hb : a.getLsbD i with _ | _
    · simp
    · exact absurd ⟨i, hi, hb⟩ hn
  · rintro ⟨x, _, h⟩ e
    rw [e] at h; simp at h
theorem rimB_iff (m : BitVec 64) {k : Nat} (hk : k < 64) : (rimB m).getLsbD k = true ↔ m.getLsbD k = true ∧ aroB m k ≠ 0#64 := by
  unfold rimB
  rw [BitVec.getLsbD_and, Bool.and_eq_true, growB_bit _ hk, not_bit _ hk, bv_ne]
  constructor
  · rintro ⟨h1, h | ⟨x, h2, h3⟩⟩
    · rw [h1] at h; cases h
    · have hx := bit_lt h2
      rw [not_bit _ hx] at h2
      exact ⟨h1, x, hx, (aro_bit m hk hx).2 ⟨nbN_symm h3, by simpa using h2⟩⟩
  · rintro ⟨h1, x, hx, h2⟩
    obtain ⟨h3, h4⟩ := (aro_bit m hk hx).1 h2
    exact ⟨h1, .inr ⟨x, by rw [not_bit _ hx, h4]; rfl, nbN_symm h3⟩⟩

/-! ### THERE IS A RIM -/
theorem conn_down (P : Nat → Prop) (hP : ∀ x y, x < 64 → y < 64 → nbN x y → P x → P y) : ∀ c, c < 64 → P c → P 0 := by
  intro c
  induction c using Nat.strongRecOn with
  | _ c ih =>
    intro hc h
    by_cases h0 : c = 0
    · subst h0; exact h
    · by_cases h8 : c % 8 = 0
      · exact ih (c - 8) (by omega) (by omega) (hP c (c - 8) hc (by omega) (by unfold nbN; omega) h)
      · exact ih (c - 1) (by omega) (by omega) (hP c (c - 1) hc (by omega) (by unfold nbN; omega) h)
theorem conn_up (P : Nat → Prop) (hP : ∀ x y, x < 64 → y < 64 → nbN x y → P x → P y) (h0 : P 0) : ∀ c, c < 64 → P c := by
  intro c
  induction c using Nat.strongRecOn with
  | _ c ih =>
    intro hc
    by_cases h1 : c = 0
    · subst h1; exact h0
    · by_cases h8 : c % 8 = 0
      · exact hP (c - 8) c (by omega) hc (by unfold nbN; omega) (ih (c - 8) (by omega) (by omega))
      · exact hP (c - 1) c (by omega) hc (by unfold nbN; omega) (ih (c - 1) (by omega) (by omega))
theorem rim_some {m : BitVec 64} (h0 : m ≠ 0#64) (h1 : ∃ c, c < 64 ∧ m.getLsbD c = false) : ∃ c, c < 64 ∧ (rimB m).getLsbD c = true := by
  apply Classical.byContradiction
  intro hno
  have hP : ∀ x y, x < 64 → y < 64 → nbN x y → m.getLsbD x = true → m.getLsbD y = true := by
    intro x y hx hy hn h
    rcases hb : m.getLsbD y with _ | _
    · exfalso
      apply hno
      refine ⟨x, hx, (rimB_iff m hx).2 ⟨h, bv_ne.2 ⟨y, hy, (aro_bit m hx hy).2 ⟨hn, hb⟩⟩⟩⟩
    · rfl
  obtain ⟨a, ha, h2⟩ := bv_ne.1 h0
  obtain ⟨c, hc, h3⟩ := h1
  have := conn_up (fun x => m.getLsbD x = true) hP (conn_down (fun x => m.getLsbD x = true) hP a ha h2) c hc
  simp only [h3] at this
  cases this

/-! ### THE NUMBER OF CELLS -/
def cntB (a : BitVec 64) : Nat → Nat
  | 0 => 0
  | j + 1 => cntB a j + if a.getLsbD j = true then 1 else 0
theorem cntB_le (a : BitVec 64) : ∀ j, cntB a j ≤ j
  | 0 => Nat.le_refl _
  | j + 1 => by have := cntB_le a j; unfold cntB; split <;> omega
theorem cntB_mono {a b : BitVec 64} (h : ∀ c, a.getLsbD c = true → b.getLsbD c = true) : ∀ j, cntB a j ≤ cntB b j
  | 0 => Nat.le_refl _
  | j + 1 => by
    have := cntB_mono h j
    unfold cntB
    by_cases e : a.getLsbD j = true
    · rw [if_pos e, if_pos (h j e)]; omega
    · rw [if_neg e]; split <;> omega
theorem cntB_strict {a b : BitVec 64} (h : ∀ c, a.getLsbD c = true → b.getLsbD c = true) {c : Nat} (h1 : a.getLsbD c = false) (h2 : b.getLsbD c = true) : ∀ j, c < j → cntB a j < cntB b j
  | 0, hj => by omega
  | j + 1, hj => by
    unfold cntB
    by_cases e : c = j
    · subst e
      have := cntB_mono h c
      rw [h1, h2]; simp; omega
    · have := cntB_strict h h1 h2 j (by omega)
      by_cases e : a.getLsbD j = true
      · rw [if_pos e, if_pos (h j e)]; omega
      · rw [if_neg e]; split <;> omega
theorem cntB_pos {a : BitVec 64} (h : a ≠ 0#64) : 1 ≤ cntB a 64 := by
  obtain ⟨x, hx, h2⟩ := bv_ne.1 h
  have h0 : ∀ j, cntB 0#64 j = 0 := by
    intro j
    induction j with
    | zero => rfl
    | succ j ih => unfold cntB; rw [ih]; simp
  have := cntB_strict (a := 0#64) (b := a) (fun c h => by simp at h) (c := x) (by simp) h2 64 hx
  omega
theorem cntB_end {a : BitVec 64} {j : Nat} (hj : j ≤ 64) (h : a >>> j = 0#64) : cntB a 64 = cntB a j := by
  have hz : ∀ i, j ≤ i → a.getLsbD i = false := by
    intro i hi
    have := congrArg (fun x => BitVec.getLsbD x (i - j)) h
    simp only [BitVec.getLsbD_ushiftRight, BitVec.getLsbD_zero] at this
    rwa [show j + (i - j) = i by omega] at this
  have : ∀ d, cntB a (j + d) = cntB a j := by
    intro d
    induction d with
    | zero => rfl
    | succ d ih =>
      have e : cntB a (j + (d + 1)) = cntB a (j + d) + if a.getLsbD (j + d) = true then 1 else 0 := rfl
      rw [e, hz (j + d) (by omega), ih]; simp
  have h2 := this (64 - j)
  rwa [show j + (64 - j) = 64 by omega] at h2

/-! ### THE ROUNDS -/
def rnd (m : BitVec 64) : BitVec 64 := m &&& ~~~rimB m
def itR (m : BitVec 64) : Nat → BitVec 64
  | 0 => m
  | i + 1 => rnd (itR m i)
theorem rnd_sub {m : BitVec 64} {c : Nat} (h : (rnd m).getLsbD c = true) : m.getLsbD c = true := by
  unfold rnd at h
  rw [BitVec.getLsbD_and, Bool.and_eq_true] at h
  exact h.1
theorem itR_sub {m : BitVec 64} {c : Nat} : ∀ i, (itR m i).getLsbD c = true → m.getLsbD c = true
  | 0, h => h
  | i + 1, h => itR_sub i (rnd_sub h)
theorem rnd_less {m : BitVec 64} (h0 : m ≠ 0#64) (h1 : ∃ c, c < 64 ∧ m.getLsbD c = false) : cntB (rnd m) 64 < cntB m 64 := by
  obtain ⟨c, hc, h⟩ := rim_some h0 h1
  refine cntB_strict (fun c h => rnd_sub h) (c := c) ?_ ((rimB_iff m hc).1 h).1 64 hc
  unfold rnd
  rw [BitVec.getLsbD_and, not_bit _ hc, h]; simp
theorem rounds_ex {m : BitVec 64} (h1 : ∃ c, c < 64 ∧ m.getLsbD c = false) : ∃ N, N ≤ 64 ∧ itR m N = 0#64 ∧ ∀ i, i < N → itR m i ≠ 0#64 := by
  have key : ∀ f i, cntB (itR m i) 64 ≤ f → i + f ≤ 64 → (∀ j, j < i → itR m j ≠ 0#64) → ∃ N, N ≤ 64 ∧ itR m N = 0#64 ∧ ∀ i, i < N → itR m i ≠ 0#64 := by
    intro f
    induction f with
    | zero =>
      intro i hc hf hi
      refine ⟨i, by omega, ?_, hi⟩
      apply Classical.byContradiction
      intro hn
      have := cntB_pos hn
      omega
    | succ f ih =>
      intro i hc hf hi
      by_cases h0 : itR m i = 0#64
      · exact ⟨i, by omega, h0, hi⟩
      · have hl : cntB (itR m (i + 1)) 64 < cntB (itR m i) 64 := by
          refine rnd_less h0 ?_
          obtain ⟨c, hc, h⟩ := h1
          refine ⟨c, hc, ?_⟩
          rcases hb : (itR m i).getLsbD c with _ | _
          · rfl
          · rw [itR_sub i hb] at h; cases h
        refine ih (i + 1) (by omega) (by omega) fun j hj => ?_
        by_cases e : j = i
        · subst e; exact h0
        · exact hi j (by omega)
  exact key 64 0 (cntB_le _ _) (by omega) fun j hj => by omega
theorem not_all {m : BitVec 64} (h : m ≠ 18446744073709551615#64) : ∃ c, c < 64 ∧ m.getLsbD c = false := by
  apply Classical.byContradiction
  intro hn
  apply h
  refine BitVec.eq_of_getLsbD_eq fun i hi => ?_
  rcases hb : m.getLsbD i with _ | _
  · exact absurd ⟨i, hi, hb⟩ hn
  · have : ∀ i, i < 64 → (18446744073709551615#64).getLsbD i = true := by decide +kernel
    rw [this i hi]
end Go.Proofs.YtmibinfaafhgdaaDoor

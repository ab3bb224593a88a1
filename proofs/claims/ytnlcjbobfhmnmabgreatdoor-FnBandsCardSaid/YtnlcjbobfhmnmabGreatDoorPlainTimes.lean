/-
  Plain arithmetic: the times of thirds of a stop, and the numbers of thirds that are sought among them. Imports nothing of the program.
-/
import Derived.IntWalk
import Derived.RowKit
namespace Go.Proofs.YtnlcjbobfhmnmabGreatDoor
open Go.RowKit

/-- The time of k thirds. -/
def tmN (k : Nat) : Int := (if k % 3 = 0 then 1000 else if k % 3 = 1 then 1260 else 1587) * 2 ^ (k / 3)
def tm (k : Int) : Int := tmN k.toNat

theorem tm_lt (a b : Int) (h0 : 0 ≤ a) (h : a < b) (h1 : b ≤ 37) : tm a < tm b := by
  obtain ⟨n, rfl⟩ := Int.eq_ofNat_of_zero_le h0
  obtain ⟨m, rfl⟩ := Int.eq_ofNat_of_zero_le (show 0 ≤ b by omega)
  have key : ∀ m : Nat, m < 38 → ∀ n : Nat, n < m → tmN n < tmN m := by decide +kernel
  exact key m (by omega) n (by omega)
theorem tm_le (a b : Int) (h0 : 0 ≤ a) (h : a ≤ b) (h1 : b ≤ 37) : tm a ≤ tm b := by
  rcases Int.lt_or_eq_of_le h with h | rfl
  · exact Int.le_of_lt (tm_lt a b h0 h h1)
  · exact Int.le_refl _
theorem tm_bd (k : Int) (h0 : 0 ≤ k) (h1 : k ≤ 37) : 1000 ≤ tm k ∧ tm k ≤ 5160960 := by
  obtain ⟨n, rfl⟩ := Int.eq_ofNat_of_zero_le h0
  have key : ∀ n : Nat, n < 38 → 1000 ≤ tmN n ∧ tmN n ≤ 5160960 := by decide +kernel
  exact key n (by omega)
theorem tm_0 : tm 0 = 1000 := by decide +kernel
theorem tm_36 : tm 36 = 4096000 := by decide +kernel

theorem tm_wrap (k c : Int) (h0 : 0 ≤ k) (h1 : k ≤ 37) (h : k % 3 = 0 ∧ c = 1000 ∨ k % 3 = 1 ∧ c = 1260 ∨ k % 3 = 2 ∧ c = 1587) : wrap64 (c * 2 ^ (k / 3).toNat) = tm k := by
  obtain ⟨n, rfl⟩ := Int.eq_ofNat_of_zero_le h0
  have k0 : ∀ n : Nat, n < 38 → n % 3 = 0 → wrap64 (1000 * 2 ^ (n / 3)) = tmN n := by decide +kernel
  have k1 : ∀ n : Nat, n < 38 → n % 3 = 1 → wrap64 (1260 * 2 ^ (n / 3)) = tmN n := by decide +kernel
  have k2 : ∀ n : Nat, n < 38 → n % 3 = 2 → wrap64 (1587 * 2 ^ (n / 3)) = tmN n := by decide +kernel
  have e : ((n : Int) / 3).toNat = n / 3 := by omega
  rw [e]
  rcases h with ⟨h, rfl⟩ | ⟨h, rfl⟩ | ⟨h, rfl⟩
  · exact k0 n (by omega) (by omega)
  · exact k1 n (by omega) (by omega)
  · exact k2 n (by omega) (by omega)

/-- How many of the 37 times are less than x. -/
def cl (x : Int) : Int := ((List.range 37).filter fun n => decide (tmN n < x)).length
theorem cl_bd (x : Int) : 0 ≤ cl x ∧ cl x ≤ 37 := by
  unfold cl
  have := List.length_filter_le (fun n => decide (tmN n < x)) (List.range 37)
  simp only [List.length_range] at this
  omega
theorem cl_eq (k x : Int) (h0 : 0 ≤ k) (h1 : k ≤ 37) (hlo : k = 0 ∨ tm (k - 1) < x) (hhi : k = 37 ∨ x ≤ tm k) : cl x = k := by
  obtain ⟨m, rfl⟩ := Int.eq_ofNat_of_zero_le h0
  have hc : ∀ n ∈ List.range 37, decide (tmN n < x) = decide (n < m) := by
    intro n hn
    have hn' : n < 37 := List.mem_range.1 hn
    by_cases hm : n < m
    · have h2 : tm (n : Int) ≤ tm ((m : Int) - 1) := tm_le _ _ (by omega) (by omega) (by omega)
      have h3 : tm ((m : Int) - 1) < x := by rcases hlo with h | h <;> omega
      have h4 : tm (n : Int) = tmN n := rfl
      have : tmN n < x := by omega
      simp [this, hm]
    · have h3 : x ≤ tm (m : Int) := by rcases hhi with h | h <;> omega
      have h2 : tm (m : Int) ≤ tm (n : Int) := tm_le _ _ (by omega) (by omega) (by omega)
      have h4 : tm (n : Int) = tmN n := rfl
      have : ¬ tmN n < x := by omega
      simp [this, hm]
  unfold cl
  rw [List.filter_congr hc]
  have key : ∀ m : Nat, m < 38 → ((List.range 37).filter fun n => decide (n < m)).length = m := by decide +kernel
  rw [key m (by omega)]
theorem cl_spec (x : Int) : (cl x = 0 ∨ tm (cl x - 1) < x) ∧ (cl x = 37 ∨ x ≤ tm (cl x)) := by
  have ex : ∀ n : Nat, n ≤ 37 → (∃ k : Int, 0 ≤ k ∧ k < n ∧ (k = 0 ∨ tm (k - 1) < x) ∧ x ≤ tm k) ∨ ((n : Int) = 0 ∨ tm ((n : Int) - 1) < x) := by
    intro n
    induction n with
    | zero => intro _; exact .inr (.inl rfl)
    | succ n ih =>
      intro hn
      rcases ih (by omega) with ⟨k, h0, h1, h2, h3⟩ | h
      · exact .inl ⟨k, h0, by omega, h2, h3⟩
      · by_cases hx : tm n < x
        · exact .inr (.inr (by simpa using hx))
        · exact .inl ⟨n, by omega, by omega, h, by omega⟩
  rcases ex 37 (Nat.le_refl _) with ⟨k, h0, h1, h2, h3⟩ | h
  · rw [cl_eq k x h0 (by omega) h2 (.inr h3)]
    exact ⟨h2, .inr h3⟩
  · rw [cl_eq 37 x (by omega) (by omega) h (.inl rfl)]
    exact ⟨h, .inl rfl⟩

/-- The thirds that a factor needs. -/
def fac (f : Int) : Int := cl (1000 * f)
theorem fac_bd (f : Int) (h : f ≤ 1000) : 0 ≤ fac f ∧ fac f ≤ 36 := by
  have h1 := cl_bd (1000 * f)
  have h2 := cl_spec (1000 * f)
  unfold fac
  have h3 := tm_36
  by_cases h4 : cl (1000 * f) = 37
  · rw [h4] at h2
    have : tm (37 - 1) = tm 36 := rfl
    rcases h2.1 with h5 | h5 <;> omega
  · omega

/-- The greatest thirds within a time: -1 if there are none. -/
def thin (n : Int) : Int := cl (n + 1) - 1
theorem thin_bd (n : Int) : -1 ≤ thin n ∧ thin n ≤ 36 := by have := cl_bd (n + 1); unfold thin; omega
theorem thin_eq (k n : Int) (h0 : -1 ≤ k) (h1 : k ≤ 36) (hlo : k = -1 ∨ tm k ≤ n) (hhi : k = 36 ∨ n < tm (k + 1)) : thin n = k := by
  unfold thin
  rw [cl_eq (k + 1) (n + 1) (by omega) (by omega) (by rcases hlo with h | h; · exact .inl (by omega)
                                                      · refine .inr ?_; rw [show k + 1 - 1 = k by omega]; omega)
    (by rcases hhi with h | h; · exact .inl (by omega)
        · exact .inr (by omega))]
  omega
theorem thin_spec (n : Int) : (thin n = -1 ∨ tm (thin n) ≤ n) ∧ (thin n = 36 ∨ n < tm (thin n + 1)) := by
  have h := cl_spec (n + 1)
  unfold thin
  rw [show cl (n + 1) - 1 + 1 = cl (n + 1) by omega]
  constructor
  · rcases h.1 with h | h
    · exact .inl (by omega)
    · exact .inr (by omega)
  · rcases h.2 with h | h
    · exact .inl (by omega)
    · exact .inr (by omega)
theorem thin_none (n : Int) : thin n = -1 ↔ n < 1000 := by
  have h := thin_spec n
  have h0 := tm_0
  have hb := thin_bd n
  constructor
  · intro e
    rw [e] at h
    rcases h.2 with h | h
    · omega
    · have : tm (-1 + 1) = tm 0 := rfl
      omega
  · intro e
    rcases h.1 with h | h
    · exact h
    · by_cases h2 : thin n = -1
      · exact h2
      · have := tm_bd (thin n) (by omega) (by omega)
        omega

/-- How far the time of k thirds is from n. -/
def far (n k : Int) : Int := max (tm k - n) (n - tm k)
/-- The thirds whose time is nearest. -/
def near (n : Int) : Int := if max 0 (thin n) < 36 ∧ tm (max 0 (thin n) + 1) - n < n - tm (max 0 (thin n)) then max 0 (thin n) + 1 else max 0 (thin n)
/-- The first nearest among those before m. -/
def Nearest (n m k : Int) : Prop := 0 ≤ k ∧ k < m ∧ (∀ j, 0 ≤ j → j < k → far n k < far n j) ∧ ∀ j, k < j → j < m → far n k ≤ far n j
theorem Nearest.uniq {n m k l : Int} (h : Nearest n m k) (g : Nearest n m l) : k = l := by
  obtain ⟨h1, h2, h3, h4⟩ := h
  obtain ⟨g1, g2, g3, g4⟩ := g
  rcases Int.lt_trichotomy k l with hlt | he | hgt
  · have a := g3 k h1 hlt
    have b := h4 l hlt g2
    omega
  · exact he
  · have a := h3 l g1 hgt
    have b := g4 k hgt h2
    omega
theorem near_nearest (n : Int) : Nearest n 37 (near n) := by
  have hs := thin_spec n
  have hb := thin_bd n
  have h0 := tm_0
  unfold near
  generalize hk : max 0 (thin n) = k
  have k0 : 0 ≤ k := by omega
  have k1 : k ≤ 36 := by omega
  have lo : k = 0 ∨ tm k ≤ n := by
    rcases hs.1 with h | h
    · exact .inl (by omega)
    · by_cases h2 : thin n < 0
      · exact .inl (by omega)
      · have : k = thin n := by omega
        rw [this]; exact .inr h
  have hi : k = 36 ∨ n < tm (k + 1) := by
    rcases hs.2 with h | h
    · exact .inl (by omega)
    · by_cases h2 : thin n = -1
      · have h3 := (thin_none n).1 h2
        have h4 := tm_bd (k + 1) (by omega) (by omega)
        exact .inr (by omega)
      · have : k = thin n := by omega
        rw [this]; exact .inr h
  by_cases hc : k < 36 ∧ tm (k + 1) - n < n - tm k
  · rw [if_pos hc]
    refine ⟨by omega, by omega, fun j j0 j1 => ?_, fun j j0 j1 => ?_⟩
    · have := tm_le j k j0 (by omega) (by omega)
      unfold far
      omega
    · have := tm_le (k + 1) j (by omega) (by omega) (by omega)
      unfold far
      omega
  · rw [if_neg hc]
    refine ⟨by omega, by omega, fun j j0 j1 => ?_, fun j j0 j1 => ?_⟩
    · have := tm_lt j k j0 j1 (by omega)
      unfold far
      omega
    · have h2 : tm (k + 1) ≤ tm j := tm_le (k + 1) j (by omega) (by omega) (by omega)
      have h3 : tm k ≤ tm j := tm_le k j (by omega) (by omega) (by omega)
      unfold far
      omega
theorem near_bd (n : Int) : 0 ≤ near n ∧ near n ≤ 36 := by have := near_nearest n; exact ⟨this.1, by have := this.2.1; omega⟩
end Go.Proofs.YtnlcjbobfhmnmabGreatDoor

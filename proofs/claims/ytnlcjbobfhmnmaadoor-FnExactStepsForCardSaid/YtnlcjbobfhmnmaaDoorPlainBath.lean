/-
  Plain arithmetic: the strength of a bath, by how many thirds it is slower, and what replenishing leaves. Imports nothing of the program.
-/
import Derived.Test.YtnlcjbobfhmnmaaDoorPlainTimes
namespace Go.Proofs.YtnlcjbobfhmnmaaDoor
open Go.RowKit

theorem prodB {a b A B : Int} (ha : 0 ≤ a) (ha' : a ≤ A) (hb : 0 ≤ b) (hb' : b ≤ B) : 0 ≤ a * b ∧ a * b ≤ A * B :=
  ⟨Int.mul_nonneg ha hb, Int.mul_le_mul ha' hb' hb (by omega)⟩
/-- A quotient of a part. -/
theorem partB {x a b : Int} (hx : 0 ≤ x) (ha : 0 ≤ a) (hb : 0 < b) (hab : a ≤ b) : 0 ≤ x * a / b ∧ x * a / b ≤ x := by
  have h0 : 0 ≤ x * a := Int.mul_nonneg hx ha
  refine ⟨Int.ediv_nonneg h0 (by omega), ?_⟩
  have h1 : x * a ≤ x * b := Int.mul_le_mul_of_nonneg_left hab hx
  have h2 := Int.ediv_le_ediv hb h1
  rwa [Int.mul_ediv_cancel _ (by omega : b ≠ 0)] at h2
/-- The greater part. -/
theorem partLe {x y a c b : Int} (hx : 0 ≤ x) (hxy : x ≤ y) (ha : 0 ≤ a) (hac : a ≤ c) (hb : 0 < b) : x * a / b ≤ y * c / b :=
  Int.ediv_le_ediv hb (Int.mul_le_mul hxy hac ha (by omega))

/-- Within its bounds: a developer. -/
structure DOk (p k b t : Int) : Prop where
  p0 : 100 ≤ p
  p1 : p ≤ 100000
  k0 : 1 ≤ k
  k1 : k ≤ 100000
  b0 : 10 ≤ b
  b1 : b ≤ 40
  t0 : 1 ≤ t
  t1 : t ≤ 10
/-- Within its bounds: a bath. -/
structure BOk (p k b t v u a : Int) : Prop extends DOk p k b t where
  v0 : 1 ≤ v
  v1 : v ≤ 20000
  u0 : 0 ≤ u
  u1 : u ≤ 100000000
  a0 : 0 ≤ a
  a1 : a ≤ 100000
  room : 1000 * u ≤ v * p

/-- What is left of the capacity, and the strength. -/
def fresh (p v u : Int) : Int := 1000 * (v * p - 1000 * u) / (v * p)
def strn (p k v u a : Int) : Int := if k ≤ a then 0 else fresh p v u * (k - a) / k

section
variable {p k b t v u a : Int}
theorem BOk.cap (h : BOk p k b t v u a) : 100 ≤ v * p ∧ v * p ≤ 2000000000 := by
  have h1 := prodB (a := v) (b := p) (A := 20000) (B := 100000) (by have := h.v0; omega) h.v1 (by have := h.p0; omega) h.p1
  refine ⟨?_, h1.2⟩
  have h2 : 1 * p ≤ v * p := Int.mul_le_mul_of_nonneg_right h.v0 (by have := h.p0; omega)
  have := h.p0
  omega
theorem capB (hv : 0 ≤ v) (hv' : v ≤ 20000) (hp : 0 ≤ p) (hp' : p ≤ 100000) : 0 ≤ v * p ∧ v * p ≤ 2000000000 :=
  prodB (a := v) (b := p) (A := 20000) (B := 100000) hv hv' hp hp'
theorem BOk.fresh_bd (h : BOk p k b t v u a) : 0 ≤ fresh p v u ∧ fresh p v u ≤ 1000 := by
  have hc := h.cap
  have hr := h.room
  have hu := h.u0
  exact partB (x := 1000) (by omega) (by omega) (by omega) (by omega)
theorem BOk.strn_mid (h : BOk p k b t v u a) (ha : a < k) : 0 ≤ fresh p v u * (k - a) ∧ fresh p v u * (k - a) ≤ 100000000 := by
  have hf := h.fresh_bd
  have := h.k1
  have := h.a0
  exact prodB (A := 1000) (B := 100000) hf.1 hf.2 (by omega) (by omega)
theorem BOk.strn_bd (h : BOk p k b t v u a) : 0 ≤ strn p k v u a ∧ strn p k v u a ≤ 1000 := by
  unfold strn
  have hf := h.fresh_bd
  have := h.a0
  have := h.k0
  by_cases hk : k ≤ a
  · rw [if_pos hk]; omega
  · rw [if_neg hk]
    have := partB (x := fresh p v u) (a := k - a) (b := k) hf.1 (by omega) (by omega) (by omega)
    omega

/-- More has been done with it, or it is older: no stronger. -/
theorem strn_mono {u' a' : Int} (h : BOk p k b t v u a) (hu : u' ≤ u) (hu0 : 0 ≤ u') (ha : a' ≤ a) (ha0 : 0 ≤ a') : strn p k v u a ≤ strn p k v u' a' := by
  have hk0 := h.k0
  have hc := h.cap
  have hr := h.room
  have h' : BOk p k b t v u' a' := { h with u0 := hu0, u1 := by have := h.u1; omega, a0 := ha0, a1 := by have := h.a1; omega, room := by omega }
  by_cases hk : k ≤ a
  · rw [show strn p k v u a = 0 by unfold strn; rw [if_pos hk]]
    exact h'.strn_bd.1
  · unfold strn
    rw [if_neg hk, if_neg (by omega)]
    have hf := h.fresh_bd
    have hff : fresh p v u ≤ fresh p v u' := by
      unfold fresh
      exact Int.ediv_le_ediv (by omega) (by omega)
    exact partLe hf.1 hff (by omega) (by omega) (by omega)
theorem strn_new (h : DOk p k b t) (hv : 1 ≤ v) (hv' : v ≤ 20000) : strn p k v 0 0 = 1000 := by
  have h' : BOk p k b t v 0 0 := { h with v0 := hv, v1 := hv', u0 := by omega, u1 := by omega, a0 := by omega, a1 := by omega, room := by have := capB (v := v) (p := p) (by omega) hv' (by have := h.p0; omega) h.p1; omega }
  have hc := h'.cap
  have hk := h.k0
  unfold strn fresh
  rw [if_neg (by omega), show v * p - 1000 * 0 = v * p by omega, Int.mul_ediv_cancel _ (by omega), show k - 0 = k by omega, Int.mul_ediv_cancel _ (by omega)]
end

/-- By how many thirds a bath of a strength is slower: 37 if there are none. -/
def slw (s : Int) : Int := ((List.range 37).filter fun n => decide (tmN n * s < 1000000)).length
theorem slw_bd (s : Int) : 0 ≤ slw s ∧ slw s ≤ 37 := by
  unfold slw
  have := List.length_filter_le (fun n => decide (tmN n * s < 1000000)) (List.range 37)
  simp only [List.length_range] at this
  omega
theorem tmul_le {a b s : Int} (hs : 0 ≤ s) (h0 : 0 ≤ a) (h : a ≤ b) (h1 : b ≤ 37) : tm a * s ≤ tm b * s := Int.mul_le_mul_of_nonneg_right (tm_le a b h0 h h1) hs
theorem tmul_bd {k s : Int} (hs : 0 ≤ s) (hs' : s ≤ 1000) (h0 : 0 ≤ k) (h1 : k ≤ 37) : 0 ≤ tm k * s ∧ tm k * s ≤ 5160960000 := by
  have := tm_bd k h0 h1
  exact prodB (A := 5160960) (B := 1000) (by omega) this.2 hs hs'
theorem slw_eq {k s : Int} (hs : 0 ≤ s) (h0 : 0 ≤ k) (h1 : k ≤ 37) (hlo : k = 0 ∨ tm (k - 1) * s < 1000000) (hhi : k = 37 ∨ 1000000 ≤ tm k * s) : slw s = k := by
  obtain ⟨m, rfl⟩ := Int.eq_ofNat_of_zero_le h0
  have hc : ∀ n ∈ List.range 37, decide (tmN n * s < 1000000) = decide (n < m) := by
    intro n hn
    have hn' : n < 37 := List.mem_range.1 hn
    have h4 : tm (n : Int) = tmN n := rfl
    by_cases hm : n < m
    · have h2 : tm (n : Int) * s ≤ tm ((m : Int) - 1) * s := tmul_le hs (by omega) (by omega) (by omega)
      have h3 : tm ((m : Int) - 1) * s < 1000000 := by rcases hlo with h | h <;> omega
      have : tmN n * s < 1000000 := by rw [h4] at h2; omega
      simp [this, hm]
    · have h3 : 1000000 ≤ tm (m : Int) * s := by rcases hhi with h | h <;> omega
      have h2 : tm (m : Int) * s ≤ tm (n : Int) * s := tmul_le hs (by omega) (by omega) (by omega)
      have : ¬ tmN n * s < 1000000 := by rw [h4] at h2; omega
      simp [this, hm]
  unfold slw
  rw [List.filter_congr hc]
  have key : ∀ m : Nat, m < 38 → ((List.range 37).filter fun n => decide (n < m)).length = m := by decide +kernel
  rw [key m (by omega)]
theorem slw_spec {s : Int} (hs : 0 ≤ s) : (slw s = 0 ∨ tm (slw s - 1) * s < 1000000) ∧ (slw s = 37 ∨ 1000000 ≤ tm (slw s) * s) := by
  have ex : ∀ n : Nat, n ≤ 37 → (∃ k : Int, 0 ≤ k ∧ k < n ∧ (k = 0 ∨ tm (k - 1) * s < 1000000) ∧ 1000000 ≤ tm k * s) ∨ ((n : Int) = 0 ∨ tm ((n : Int) - 1) * s < 1000000) := by
    intro n
    induction n with
    | zero => intro _; exact .inr (.inl rfl)
    | succ n ih =>
      intro hn
      rcases ih (by omega) with ⟨k, h0, h1, h2, h3⟩ | h
      · exact .inl ⟨k, h0, by omega, h2, h3⟩
      · by_cases hx : tm n * s < 1000000
        · exact .inr (.inr (by rw [show ((n + 1 : Nat) : Int) - 1 = n by omega]; exact hx))
        · exact .inl ⟨n, by omega, by omega, h, by omega⟩
  rcases ex 37 (Nat.le_refl _) with ⟨k, h0, h1, h2, h3⟩ | h
  · rw [slw_eq hs h0 (by omega) h2 (.inr h3)]
    exact ⟨h2, .inr h3⟩
  · have h' : (37 : Int) = 0 ∨ tm (37 - 1) * s < 1000000 := h
    rw [slw_eq hs (by omega : (0 : Int) ≤ 37) (by omega) h' (.inl rfl)]
    exact ⟨h', .inl rfl⟩
/-- A weaker bath is no quicker. -/
theorem slw_mono {s s' : Int} (hs : 0 ≤ s) (h : s ≤ s') : slw s' ≤ slw s := by
  have hs' : 0 ≤ s' := by omega
  have hsp := slw_spec hs
  have hsp' := slw_spec hs'
  have hb := slw_bd s
  have hb' := slw_bd s'
  refine Int.not_lt.1 fun hlt => ?_
  have h1 : 1000000 ≤ tm (slw s) * s := by rcases hsp.2 with e | e <;> omega
  have h2 : tm (slw s' - 1) * s' < 1000000 := by rcases hsp'.1 with e | e <;> omega
  have h3 : tm (slw s) * s ≤ tm (slw s) * s' := Int.mul_le_mul_of_nonneg_left h (by have := tm_bd (slw s) hb.1 (by omega); omega)
  have h4 : tm (slw s) * s' ≤ tm (slw s' - 1) * s' := tmul_le hs' hb.1 (by omega) (by omega)
  omega

/-! ### REPLENISHING -/
def left (x v m : Int) : Int := x * (v - m) / v
theorem left_bd {x v m : Int} (hx : 0 ≤ x) (hv : 1 ≤ v) (hm : 0 ≤ m) (hm' : m ≤ v) : 0 ≤ left x v m ∧ left x v m ≤ x := partB hx (by omega) (by omega) (by omega)
theorem left_mid {x v m : Int} (hx : 0 ≤ x) (hx' : x ≤ 100000000) (_hv : 1 ≤ v) (hv' : v ≤ 20000) (hm : 0 ≤ m) (hm' : m ≤ v) : 0 ≤ x * (v - m) ∧ x * (v - m) ≤ 2000000000000 :=
  prodB (A := 100000000) (B := 20000) hx hx' (by omega) (by omega)
theorem left_mono {x v m m' : Int} (hx : 0 ≤ x) (hv : 1 ≤ v) (_hm : 0 ≤ m) (hmm : m ≤ m') (hm' : m' ≤ v) : left x v m' ≤ left x v m := partLe hx (Int.le_refl _) (by omega) (by omega) (by omega)
theorem left_all {x v : Int} (_hv : 1 ≤ v) : left x v v = 0 := by unfold left; rw [show v - v = 0 by omega, Int.mul_zero, Int.zero_ediv]
theorem left_none {x v : Int} (hv : 1 ≤ v) : left x v 0 = x := by unfold left; rw [show v - 0 = v by omega, Int.mul_ediv_cancel _ (by omega)]
theorem BOk.fill {p k b t v u a m : Int} (h : BOk p k b t v u a) (hm : 0 ≤ m) (hm' : m ≤ v) : BOk p k b t v (left u v m) (left a v m) := by
  have h1 := left_bd h.u0 h.v0 hm hm'
  have h2 := left_bd h.a0 h.v0 hm hm'
  have := h.u1
  have := h.a1
  have := h.room
  exact { h with u0 := h1.1, u1 := by omega, a0 := h2.1, a1 := by omega, room := by omega }
/-- What is replenished is none weaker. -/
theorem fill_mono {p k b t v u a m m' : Int} (h : BOk p k b t v u a) (hm : 0 ≤ m) (hmm : m ≤ m') (hm' : m' ≤ v) : strn p k v (left u v m) (left a v m) ≤ strn p k v (left u v m') (left a v m') :=
  strn_mono (h.fill hm (by omega)) (left_mono h.u0 h.v0 hm hmm hm') (left_bd h.u0 h.v0 (by omega) hm').1 (left_mono h.a0 h.v0 hm hmm hm') (left_bd h.a0 h.v0 (by omega) hm').1
theorem fill_all {p k b t v u a : Int} (h : BOk p k b t v u a) : strn p k v (left u v v) (left a v v) = 1000 := by
  rw [left_all h.v0, left_all h.v0]
  exact strn_new h.toDOk h.v0 h.v1

/-! ### A SUM OF TESTS -/
/-- The least number below n at which a test holds; n if it never does. -/
def least (q : Nat → Bool) : Nat → Nat
  | 0 => 0
  | n + 1 => if q 0 = true then 0 else least (fun i => q (i + 1)) n + 1
theorem least_eq : ∀ {n : Nat} {q : Nat → Bool} {k : Nat}, k ≤ n → (∀ j, j < k → q j = false) → (k < n → q k = true) → least q n = k
  | 0, q, k, hk, _, _ => by simp [least]; omega
  | n + 1, q, 0, _, _, h => by simp [least, h (by omega)]
  | n + 1, q, k + 1, hk, h0, h1 => by
    have : q 0 = false := h0 0 (by omega)
    simp only [least, this, Bool.false_eq_true, if_false]
    rw [least_eq (k := k) (by omega) (fun j hj => h0 (j + 1) (by omega)) (fun hlt => h1 (by omega))]
theorem least_spec : ∀ {n : Nat} {q : Nat → Bool}, least q n ≤ n ∧ (∀ j, j < least q n → q j = false) ∧ (least q n < n → q (least q n) = true)
  | 0, q => by simp [least]
  | n + 1, q => by
    by_cases h : q 0 = true
    · simp [least, h]
    · have ih := least_spec (n := n) (q := fun i => q (i + 1))
      have h' : q 0 = false := by simpa using h
      simp only [least, h', Bool.false_eq_true, if_false]
      refine ⟨by omega, fun j hj => ?_, fun hlt => ih.2.2 (by omega)⟩
      cases j with
      | zero => exact h'
      | succ j => exact ih.2.1 j (by omega)
end Go.Proofs.YtnlcjbobfhmnmaaDoor

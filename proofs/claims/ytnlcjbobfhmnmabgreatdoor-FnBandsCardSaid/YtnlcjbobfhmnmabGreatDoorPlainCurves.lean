/-
  Plain arithmetic: whether a list of points is a curve, the density of a curve at an exposure, the least exposure for a density. Condition: none but those that each theorem names.
-/
import Derived.Test.YtnlcjbobfhmnmabGreatDoorBase
namespace Go.Proofs.YtnlcjbobfhmnmabGreatDoor
open Go.RowKit

def ptOk (x y : Int) : Bool := inB x (-200) 200 && inB y 0 400
theorem ptOk_iff {x y : Int} : ptOk x y = true ↔ -200 ≤ x ∧ x ≤ 200 ∧ 0 ≤ y ∧ y ≤ 400 := by
  simp only [ptOk, Bool.and_eq_true, inB_true, and_assoc]
/-- The first k points lie on the scale. -/
def scaleB (xs ys : Nat → Int) : Nat → Bool
  | 0 => true
  | k + 1 => scaleB xs ys k && ptOk (xs k) (ys k)
def riseOk (xs ys : Nat → Int) (k : Nat) : Bool := decide (xs k < xs (k + 1)) && decide (ys k ≤ ys (k + 1))
/-- The first k parts rise. -/
def risesB (xs ys : Nat → Int) : Nat → Bool
  | 0 => true
  | k + 1 => risesB xs ys k && riseOk xs ys k
def shapedB (n : Nat) (xs ys : Nat → Int) : Bool := decide (0 < n) && scaleB xs ys n && risesB xs ys (n - 1)
def validC (n : Nat) (xs ys : Nat → Int) : Bool := shapedB n xs ys && decide (n ≤ 12)

theorem scaleB_iff {xs ys : Nat → Int} : ∀ {n : Nat}, scaleB xs ys n = true ↔ ∀ j, j < n → ptOk (xs j) (ys j) = true
  | 0 => by simp [scaleB]
  | n + 1 => by
    rw [scaleB, Bool.and_eq_true, scaleB_iff]
    constructor
    · rintro ⟨h, h1⟩ j hj
      rcases Nat.lt_or_ge j n with h2 | h2
      · exact h j h2
      · obtain rfl : j = n := by omega
        exact h1
    · intro h
      exact ⟨fun j hj => h j (by omega), h n (by omega)⟩
theorem risesB_iff {xs ys : Nat → Int} : ∀ {n : Nat}, risesB xs ys n = true ↔ ∀ j, j < n → xs j < xs (j + 1) ∧ ys j ≤ ys (j + 1)
  | 0 => by simp [risesB]
  | n + 1 => by
    rw [risesB, Bool.and_eq_true, risesB_iff, riseOk, Bool.and_eq_true, decide_eq_true_eq, decide_eq_true_eq]
    constructor
    · rintro ⟨h, h1⟩ j hj
      rcases Nat.lt_or_ge j n with h2 | h2
      · exact h j h2
      · obtain rfl : j = n := by omega
        exact h1
    · intro h
      exact ⟨fun j hj => h j (by omega), h n (by omega)⟩

/-- The points of a curve, however many. -/
structure Crv (n : Nat) (xs ys : Nat → Int) : Prop where
  pos : 0 < n
  scale : ∀ j, j < n → -200 ≤ xs j ∧ xs j ≤ 200 ∧ 0 ≤ ys j ∧ ys j ≤ 400
  rise : ∀ j, j + 1 < n → xs j < xs (j + 1) ∧ ys j ≤ ys (j + 1)
theorem shapedB_iff {n : Nat} {xs ys : Nat → Int} : shapedB n xs ys = true ↔ Crv n xs ys := by
  rw [shapedB, Bool.and_eq_true, Bool.and_eq_true, decide_eq_true_eq, scaleB_iff, risesB_iff]
  constructor
  · rintro ⟨⟨h, h1⟩, h2⟩
    exact ⟨h, fun j hj => ptOk_iff.1 (h1 j hj), fun j hj => h2 j (by omega)⟩
  · intro h
    exact ⟨⟨h.pos, fun j hj => ptOk_iff.2 (h.scale j hj)⟩, fun j hj => h.rise j (by omega)⟩
theorem validC_crv {n : Nat} {xs ys : Nat → Int} (h : validC n xs ys = true) : Crv n xs ys ∧ n ≤ 12 := by
  rw [validC, Bool.and_eq_true, decide_eq_true_eq] at h
  exact ⟨shapedB_iff.1 h.1, h.2⟩
theorem Crv.valid {n : Nat} {xs ys : Nat → Int} (h : Crv n xs ys) (hn : n ≤ 12) : validC n xs ys = true := by
  rw [validC, Bool.and_eq_true, decide_eq_true_eq]
  exact ⟨shapedB_iff.2 h, hn⟩
theorem not_crv {n : Nat} {xs ys : Nat → Int} (h : shapedB n xs ys = false) : ¬ Crv n xs ys := fun hc => by
  rw [shapedB_iff.2 hc] at h; cases h
theorem shapedB_no {n : Nat} {xs ys : Nat → Int} (h : ¬ Crv n xs ys) : shapedB n xs ys = false := by
  rcases hs : shapedB n xs ys with _ | _
  · rfl
  · exact absurd (shapedB_iff.1 hs) h
theorem Crv.mono {n : Nat} {xs ys : Nat → Int} (c : Crv n xs ys) (i : Nat) : ∀ j : Nat, i < j → j < n → xs i < xs j ∧ ys i ≤ ys j := by
  intro j
  induction j with
  | zero => intro h; omega
  | succ j ih =>
    intro h hj
    have h1 := c.rise j hj
    rcases Nat.lt_or_ge i j with h2 | h2
    · have h3 := ih h2 (by omega)
      omega
    · obtain rfl : i = j := by omega
      exact h1
theorem Crv.small {n : Nat} {xs ys : Nat → Int} (c : Crv n xs ys) {j : Nat} (hj : j < n) : (-32768 ≤ xs j ∧ xs j ≤ 32767) ∧ -32768 ≤ ys j ∧ ys j ≤ 32767 := by
  have := c.scale j hj
  omega
theorem Crv.take {n m : Nat} {xs ys : Nat → Int} (c : Crv n xs ys) (hm : 0 < m) (h : m ≤ n) : Crv m xs ys :=
  ⟨hm, fun j hj => c.scale j (by omega), fun j hj => c.rise j (by omega)⟩

/-! ### THE DENSITY AT AN EXPOSURE -/
def interp (x0 y0 x1 y1 x : Int) : Int := y0 + (y1 - y0) * (x - x0) / (x1 - x0)
theorem interp_bd {x0 y0 x1 y1 x : Int} (hy : y0 ≤ y1) (h0 : x0 ≤ x) (h1 : x < x1) : y0 ≤ interp x0 y0 x1 y1 x ∧ interp x0 y0 x1 y1 x ≤ y1 := by
  have hp : 0 < x1 - x0 := by omega
  have hq : 0 ≤ (y1 - y0) * (x - x0) := Int.mul_nonneg (by omega) (by omega)
  have h2 : 0 ≤ (y1 - y0) * (x - x0) / (x1 - x0) := Int.ediv_nonneg hq (by omega)
  have h3 : (y1 - y0) * (x - x0) / (x1 - x0) ≤ y1 - y0 := Int.ediv_le_of_le_mul hp (Int.mul_le_mul_of_nonneg_left (by omega) (by omega))
  unfold interp
  generalize (y1 - y0) * (x - x0) / (x1 - x0) = q at h2 h3
  omega
theorem interp_mono {x0 y0 x1 y1 x x' : Int} (hy : y0 ≤ y1) (hx : x0 < x1) (h : x ≤ x') : interp x0 y0 x1 y1 x ≤ interp x0 y0 x1 y1 x' := by
  have hp : 0 < x1 - x0 := by omega
  have hm : (y1 - y0) * (x - x0) ≤ (y1 - y0) * (x' - x0) := Int.mul_le_mul_of_nonneg_left (by omega) (by omega)
  have := Int.ediv_le_ediv hp hm
  unfold interp
  omega
theorem interp_at {x0 y0 x1 y1 : Int} : interp x0 y0 x1 y1 x0 = y0 := by simp [interp]

def densAt (xs ys : Nat → Int) (x : Int) : Nat → Int
  | 0 => ys 0
  | k + 1 => if xs (k + 1) ≤ x then ys (k + 1) else if xs k ≤ x then interp (xs k) (ys k) (xs (k + 1)) (ys (k + 1)) x else densAt xs ys x k
/-- The density at an exposure. -/
def dens (n : Nat) (xs ys : Nat → Int) (x : Int) : Int := densAt xs ys x (n - 1)

theorem densAt_last {xs ys : Nat → Int} {x : Int} {k : Nat} (h : xs k ≤ x) : densAt xs ys x k = ys k := by
  cases k with
  | zero => rfl
  | succ k => rw [densAt, if_pos h]
theorem densAt_first {n : Nat} {xs ys : Nat → Int} {x : Int} (c : Crv n xs ys) (h : x ≤ xs 0) : ∀ k, k < n → densAt xs ys x k = ys 0
  | 0, _ => rfl
  | k + 1, hk => by
    have h1 := (c.mono 0 (k + 1) (by omega) hk).1
    rw [densAt, if_neg (by omega)]
    by_cases hkx : xs k ≤ x
    · have hk0 : k = 0 := by
        rcases Nat.eq_zero_or_pos k with h2 | h2
        · exact h2
        · have := (c.mono 0 k h2 (by omega)).1
          omega
      subst hk0
      obtain rfl : x = xs 0 := by omega
      rw [if_pos hkx, interp_at]
    · rw [if_neg hkx]
      exact densAt_first c h k (by omega)
theorem densAt_seg {n : Nat} {xs ys : Nat → Int} {x : Int} (c : Crv n xs ys) {i : Nat} (h0 : xs i ≤ x) (h1 : x < xs (i + 1)) : ∀ k, i < k → k < n → densAt xs ys x k = interp (xs i) (ys i) (xs (i + 1)) (ys (i + 1)) x
  | 0, h, _ => by omega
  | k + 1, h, hk => by
    by_cases e : k = i
    · subst e
      rw [densAt, if_neg (by omega), if_pos h0]
    · have h2 := (c.mono (i + 1) (k + 1) (by omega) hk).1
      have h3 : xs (i + 1) ≤ xs k := by
        by_cases e2 : i + 1 = k
        · rw [e2]; exact Int.le_refl _
        · have := (c.mono (i + 1) k (by omega) (by omega)).1
          omega
      rw [densAt, if_neg (by omega), if_neg (by omega)]
      exact densAt_seg c h0 h1 k (by omega) (by omega)
theorem densAt_bd {n : Nat} {xs ys : Nat → Int} (c : Crv n xs ys) (x : Int) : ∀ k, k < n → ys 0 ≤ densAt xs ys x k ∧ densAt xs ys x k ≤ ys k
  | 0, _ => ⟨Int.le_refl _, Int.le_refl _⟩
  | k + 1, hk => by
    have h1 := (c.mono 0 (k + 1) (by omega) hk).2
    have h2 := c.rise k hk
    have ih := densAt_bd c x k (by omega)
    rw [densAt]
    by_cases h3 : xs (k + 1) ≤ x
    · rw [if_pos h3]; omega
    · rw [if_neg h3]
      by_cases h4 : xs k ≤ x
      · rw [if_pos h4]
        have h5 := interp_bd (x0 := xs k) (x1 := xs (k + 1)) h2.2 h4 (by omega)
        have h6 : ys 0 ≤ ys k := by
          rcases Nat.eq_zero_or_pos k with h7 | h7
          · rw [h7]; exact Int.le_refl _
          · exact (c.mono 0 k h7 (by omega)).2
        omega
      · rw [if_neg h4]; omega
theorem densAt_mono {n : Nat} {xs ys : Nat → Int} (c : Crv n xs ys) {x x' : Int} (h : x ≤ x') : ∀ k, k < n → densAt xs ys x k ≤ densAt xs ys x' k
  | 0, _ => Int.le_refl _
  | k + 1, hk => by
    have h2 := c.rise k hk
    have ih := densAt_mono c h k (by omega)
    have hb := densAt_bd c x k (by omega)
    have hb' := densAt_bd c x (k + 1) hk
    by_cases h3 : xs (k + 1) ≤ x'
    · rw [densAt_last (x := x') h3]; exact hb'.2
    · rw [densAt, densAt, if_neg (by omega), if_neg h3]
      by_cases h4 : xs k ≤ x
      · rw [if_pos h4, if_pos (by omega)]
        exact interp_mono h2.2 h2.1 h
      · rw [if_neg h4]
        by_cases h5 : xs k ≤ x'
        · rw [if_pos h5]
          have h6 := interp_bd (x0 := xs k) (x1 := xs (k + 1)) h2.2 h5 (by omega)
          omega
        · rw [if_neg h5]; exact ih

theorem dens_first {n : Nat} {xs ys : Nat → Int} {x : Int} (c : Crv n xs ys) (h : x ≤ xs 0) : dens n xs ys x = ys 0 := densAt_first c h _ (by have := c.pos; omega)
theorem dens_last {n : Nat} {xs ys : Nat → Int} {x : Int} (h : xs (n - 1) ≤ x) : dens n xs ys x = ys (n - 1) := densAt_last h
theorem dens_seg {n : Nat} {xs ys : Nat → Int} {x : Int} (c : Crv n xs ys) {i : Nat} (hi : i + 1 < n) (h0 : xs i ≤ x) (h1 : x < xs (i + 1)) : dens n xs ys x = interp (xs i) (ys i) (xs (i + 1)) (ys (i + 1)) x :=
  densAt_seg c h0 h1 _ (by omega) (by omega)
theorem dens_bd {n : Nat} {xs ys : Nat → Int} (c : Crv n xs ys) (x : Int) : ys 0 ≤ dens n xs ys x ∧ dens n xs ys x ≤ ys (n - 1) := densAt_bd c x _ (by have := c.pos; omega)
theorem dens_mono {n : Nat} {xs ys : Nat → Int} (c : Crv n xs ys) {x x' : Int} (h : x ≤ x') : dens n xs ys x ≤ dens n xs ys x' := densAt_mono c h _ (by have := c.pos; omega)
theorem dens_400 {n : Nat} {xs ys : Nat → Int} (c : Crv n xs ys) (x : Int) : 0 ≤ dens n xs ys x ∧ dens n xs ys x ≤ 400 := by
  have h := dens_bd c x
  have h1 := c.scale 0 c.pos
  have h2 := c.scale (n - 1) (by have := c.pos; omega)
  omega

/-! ### THE LEAST PLACE -/
def seekX (f : Int → Int) (y : Int) : Nat → Int → Int
  | 0, x => x
  | m + 1, x => if f x < y then seekX f y m (x + 1) else x
theorem seekX_eq {f : Int → Int} {y : Int} : ∀ (m : Nat) (x r : Int), x ≤ r → r ≤ x + m → (∀ z, x ≤ z → z < r → f z < y) → (r = x + m ∨ y ≤ f r) → seekX f y m x = r
  | 0, x, r, h0, h1, _, _ => by rw [seekX]; omega
  | m + 1, x, r, h0, h1, hl, hr => by
    rw [seekX]
    by_cases h : f x < y
    · rw [if_pos h]
      have hne : x ≠ r := by
        rintro rfl
        rcases hr with hr | hr <;> omega
      exact seekX_eq m (x + 1) r (by omega) (by omega) (fun z hz hz' => hl z (by omega) hz') (hr.imp (fun h => by omega) id)
    · rw [if_neg h]
      rcases Int.lt_or_eq_of_le h0 with h2 | h2
      · exact absurd (hl x (Int.le_refl _) h2) h
      · exact h2
theorem seekX_is {f : Int → Int} {y : Int} : ∀ (m : Nat) (x : Int), x ≤ seekX f y m x ∧ seekX f y m x ≤ x + m ∧ (∀ z, x ≤ z → z < seekX f y m x → f z < y) ∧ (seekX f y m x = x + m ∨ y ≤ f (seekX f y m x))
  | 0, x => by
    rw [seekX]
    exact ⟨Int.le_refl _, by omega, fun z h h' => by omega, .inl (by omega)⟩
  | m + 1, x => by
    rw [seekX]
    by_cases h : f x < y
    · rw [if_pos h]
      obtain ⟨h1, h2, h3, h4⟩ := seekX_is (f := f) (y := y) m (x + 1)
      refine ⟨by omega, by omega, fun z hz hz' => ?_, h4.imp (fun h => by omega) id⟩
      by_cases e : z = x
      · rw [e]; exact h
      · exact h3 z (by omega) hz'
    · rw [if_neg h]
      exact ⟨Int.le_refl _, by omega, fun z hz hz' => by omega, .inr (by omega)⟩
/-- The least place from -200 to 200 at which f is at least y; 201 if there is none. -/
def forX (f : Int → Int) (y : Int) : Int := seekX f y 401 (-200)
theorem forX_eq {f : Int → Int} {y r : Int} (h0 : -200 ≤ r) (h1 : r ≤ 201) (hl : ∀ z, -200 ≤ z → z < r → f z < y) (hr : r = 201 ∨ y ≤ f r) : forX f y = r :=
  seekX_eq 401 (-200) r h0 (by omega) hl (hr.imp (fun h => by omega) id)
theorem forX_is (f : Int → Int) (y : Int) : -200 ≤ forX f y ∧ forX f y ≤ 201 ∧ (∀ z, -200 ≤ z → z < forX f y → f z < y) ∧ (forX f y = 201 ∨ y ≤ f (forX f y)) := by
  obtain ⟨h1, h2, h3, h4⟩ := seekX_is (f := f) (y := y) 401 (-200)
  exact ⟨h1, by unfold forX; omega, h3, h4.imp (fun h => by unfold forX; omega) id⟩
end Go.Proofs.YtnlcjbobfhmnmabGreatDoor

/-
  Division that rounds down: what both sides return for numbers from -1000 to 1000. No condition of ours.
-/
import Derived.Test.YtaanboedhabheabBase
namespace Go.Proofs.Ytaanboedhabheab
open Go.RowKit

theorem flr_neg {x y : Int} (hx : x < 0) (hy : 1 ≤ y) : (x.tmod y < 0 ∧ x.tdiv y - 1 = x / y) ∨ (x.tmod y = 0 ∧ x.tdiv y = x / y) := by
  have h1 := Int.tdiv_eq_ediv (a := x) (b := y)
  have h2 := Int.tmod_eq_emod (a := x) (b := y)
  have hs : Int.sign y = 1 := Int.sign_eq_one_of_pos (by omega)
  have hm := Int.emod_nonneg x (by omega : y ≠ 0)
  have hlt := Int.emod_lt_of_pos x (by omega : 0 < y)
  by_cases hd : y ∣ x
  · right
    rw [if_pos (Or.inr hd)] at h1 h2
    have := Int.emod_eq_zero_of_dvd hd
    omega
  · left
    have hn : ¬ (0 ≤ x ∨ y ∣ x) := by rintro (h | h); omega; exact hd h
    rw [if_neg hn] at h1 h2
    rw [hs] at h1
    have hna : (y.natAbs : Int) = y := Int.natAbs_of_nonneg (by omega)
    omega
theorem flr_bd {x y : Int} (hx : -1000 ≤ x) (hx' : x ≤ 1000) (hy : 1 ≤ y) : -1000 ≤ x / y ∧ x / y ≤ 1000 := by
  have h0 := Int.mul_ediv_add_emod x y
  have hm := Int.emod_nonneg x (by omega : y ≠ 0)
  have hlt := Int.emod_lt_of_pos x (by omega : 0 < y)
  constructor
  · have := Int.ediv_le_ediv (a := -1000) (b := x) (by omega : 0 < y) hx
    have h3 : -1000 ≤ (-1000 : Int) / y := by
      have := Int.le_ediv_iff_mul_le (a := -1000) (b := -1000) (c := y) (by omega)
      exact this.2 (by omega)
    omega
  · have := Int.ediv_le_ediv (a := x) (b := 1000) (by omega : 0 < y) hx'
    have h3 : (1000 : Int) / y ≤ 1000 := Int.ediv_le_self _ (by omega)
    omega

end Go.Proofs.Ytaanboedhabheab

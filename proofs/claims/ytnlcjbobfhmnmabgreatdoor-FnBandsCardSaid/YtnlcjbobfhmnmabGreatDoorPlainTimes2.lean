/-
  Plain arithmetic: the nearest and the greatest of the times, at and around a time of the table. Imports nothing of the program.
-/
import Derived.Test.YtnlcjbobfhmnmabGreatDoorPlainTimes
namespace Go.Proofs.YtnlcjbobfhmnmabGreatDoor
open Go.RowKit

theorem thin_tm (k : Int) (h0 : 0 ≤ k) (h1 : k ≤ 36) : thin (tm k) = k :=
  thin_eq k _ (by omega) h1 (.inr (Int.le_refl _)) (by
    by_cases h : k = 36
    · exact .inl h
    · exact .inr (tm_lt k (k + 1) h0 (by omega) (by omega)))
theorem near_tm (k : Int) (h0 : 0 ≤ k) (h1 : k ≤ 36) : near (tm k) = k := by
  have h := near_nearest (tm k)
  refine h.uniq ⟨h0, by omega, fun j j0 j1 => ?_, fun j j0 j1 => ?_⟩
  · have := tm_lt j k j0 j1 (by omega)
    unfold far; omega
  · have := tm_lt k j h0 j0 (by omega)
    unfold far; omega
theorem tm_3 (k : Int) (h0 : 0 ≤ k) (h1 : k ≤ 33) : tm (k + 3) = 2 * tm k := by
  obtain ⟨n, rfl⟩ := Int.eq_ofNat_of_zero_le h0
  have key : ∀ n : Nat, n < 34 → tmN (n + 3) = 2 * tmN n := by decide +kernel
  exact key n (by omega)
theorem near_ge (n k : Int) (h0 : 0 ≤ k) (h1 : k ≤ 36) (h : tm k ≤ n) : k ≤ near n := by
  have hn := near_nearest n
  rcases Int.lt_or_le (near n) k with hlt | hge
  · have h2 := hn.2.2.2 k hlt (by omega)
    have h3 := tm_lt (near n) k hn.1 hlt (by omega)
    unfold far at h2; omega
  · exact hge
theorem thin_le_near (n : Int) (h : 1000 ≤ n) : 0 ≤ thin n ∧ tm (thin n) ≤ n ∧ thin n ≤ near n := by
  have h1 : ¬ thin n = -1 := fun e => by have := (thin_none n).1 e; omega
  have h2 := thin_bd n
  have h3 := (thin_spec n).1
  have h4 : tm (thin n) ≤ n := by
    rcases h3 with h3 | h3
    · exact absurd h3 h1
    · exact h3
  exact ⟨by omega, h4, near_ge n _ (by omega) h2.2 h4⟩
theorem near_far (n j : Int) (h0 : 0 ≤ j) (h1 : j ≤ 36) : ¬ far n j < far n (near n) ∧ ¬ (j < near n ∧ far n j = far n (near n)) := by
  have hn := near_nearest n
  rcases Int.lt_trichotomy j (near n) with h | h | h
  · have := hn.2.2.1 j h0 h; omega
  · subst h; omega
  · have := hn.2.2.2 j h (by omega); omega
theorem enl_same (k b : Int) (hb : 1 ≤ b) : tm k * b * b / (b * b) = tm k := by
  rw [Int.mul_assoc]
  exact Int.mul_ediv_cancel _ (Int.ne_of_gt (Int.mul_pos (by omega) (by omega)))
theorem enl_more (k b : Int) (h0 : 0 ≤ k) (h1 : k ≤ 36) (hb : 1 ≤ b) : tm k ≤ tm k * (b + 1) * (b + 1) / (b * b) := by
  have h := tm_bd k h0 (by omega)
  refine (Int.le_ediv_iff_mul_le (Int.mul_pos (by omega) (by omega))).2 ?_
  rw [Int.mul_assoc]
  refine Int.mul_le_mul_of_nonneg_left ?_ (by omega)
  have e : (b + 1) * (b + 1) = b * b + (2 * b + 1) := by
    rw [Int.add_mul, Int.mul_add]; omega
  rw [e]; omega
end Go.Proofs.YtnlcjbobfhmnmabGreatDoor

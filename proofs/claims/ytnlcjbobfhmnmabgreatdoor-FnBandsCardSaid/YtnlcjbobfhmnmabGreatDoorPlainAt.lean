/-
  Plain arithmetic: a part of a curve between its points. No condition but those that each theorem names.
-/
import Derived.Test.YtnlcjbobfhmnmabGreatDoorPlainCurves
import Derived.Test.YtnlcjbobfhmnmabGreatDoorCvX
namespace Go.Proofs.YtnlcjbobfhmnmabGreatDoor
open Go.RowKit

def tint (x0 y0 x1 y1 x : Int) : Int := y0 + ((y1 - y0) * (x - x0)).tdiv (x1 - x0)
theorem tint_interp {x0 y0 x1 y1 x : Int} (hy : y0 ≤ y1) (hx : x0 ≤ x) : tint x0 y0 x1 y1 x = interp x0 y0 x1 y1 x := by
  unfold tint interp
  rw [Int.tdiv_eq_ediv_of_nonneg (Int.mul_nonneg (by omega) (by omega))]
theorem prod_bd {a b : Int} (ha : 0 ≤ a) (ha' : a ≤ 400) (hb : -1100000 ≤ b) (hb' : b ≤ 1100000) : -440000000 ≤ a * b ∧ a * b ≤ 440000000 := by
  have h1 : a * b ≤ a * 1100000 := Int.mul_le_mul_of_nonneg_left hb' ha
  have h2 : a * (-1100000) ≤ a * b := Int.mul_le_mul_of_nonneg_left hb ha
  omega
theorem tdiv_bd {P d : Int} (h : -440000000 ≤ P) (h' : P ≤ 440000000) : -440000000 ≤ P.tdiv d ∧ P.tdiv d ≤ 440000000 := by
  have := Int.natAbs_tdiv_le_natAbs P d
  omega
theorem Crv.smallP {n : Nat} {xs ys : Nat → Int} (c : Crv n xs ys) : SmallP n xs ys := fun _ hj => c.small hj
end Go.Proofs.YtnlcjbobfhmnmabGreatDoor

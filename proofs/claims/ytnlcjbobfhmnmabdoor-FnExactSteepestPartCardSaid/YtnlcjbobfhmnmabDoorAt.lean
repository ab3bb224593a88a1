/-
  The density at an exposure, by the program and by the reference. Condition: the points are a curve's.
-/
import Derived.Test.YtnlcjbobfhmnmabDoorValidC
import Derived.Test.YtnlcjbobfhmnmabDoorPlainAt
namespace Go.Proofs.YtnlcjbobfhmnmabDoor
open Go.RowKit Go.Shelf

attribute [local go_sem] Oper.semAt_some

theorem dens_end {n : Nat} {xs ys : Nat → Int} {x : Int} (c : Crv n xs ys) (h0 : xs 0 < x) (h : ∀ i ∈ List.finRange (n - 1), xs (i.1 + 1) ≤ x) : dens n xs ys x = ys (n - 1) := by
  have hp := c.pos
  refine dens_last ?_
  by_cases e : n - 1 = 0
  · rw [e]; omega
  · have := h ⟨n - 2, by omega⟩ (mem_finR _)
    rw [show n - 2 + 1 = n - 1 by omega] at this
    exact this
theorem dens_mid {n k : Nat} {xs ys : Nat → Int} {x : Int} (c : Crv n xs ys) (h0 : xs 0 < x) (hk : k ≤ n - 1) {ini : List (Fin (n - 1))} {i : Fin (n - 1)} (e : fins (n - 1) k = ini ++ [i]) (h : ∀ j ∈ ini, xs (j.1 + 1) ≤ x) (h1 : x < xs (i.1 + 1)) :
    tint (xs i.1) (ys i.1) (xs (i.1 + 1)) (ys (i.1 + 1)) x = dens n xs ys x := by
  cases k with
  | zero => rw [fins_zero] at e; simp at e
  | succ k =>
    rw [fins_succ (by omega)] at e
    obtain ⟨rfl, e2⟩ := List.append_inj' e rfl
    have hik : i.1 = k := by
      have := congrArg (fun l => l.map Fin.val) e2
      simpa using this.symm
    rw [hik] at h1 ⊢
    have hx : xs k ≤ x := by
      cases k with
      | zero => omega
      | succ m => exact h ⟨m, by omega⟩ (by rw [fins_succ (by omega)]; simp)
    rw [tint_interp (c.rise k (by omega)).2 hx, dens_seg c (by omega) hx h1]

end Go.Proofs.YtnlcjbobfhmnmabDoor

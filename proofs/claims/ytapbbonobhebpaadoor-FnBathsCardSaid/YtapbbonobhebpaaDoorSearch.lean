/-
  sort.Search: the least number at which a test that stays true is true; the least millilitres in a tray. Condition: the test's own contract.
-/
import Derived.Test.YtapbbonobhebpaaDoorBathI
import Derived.Shelf.Abstract
namespace Go.Proofs.YtapbbonobhebpaaDoor
open Go.RowKit Go.Shelf

theorem boxAt (w : World) (i : Nat) (hi : i = w.heap.size) (T : TypeId) (x : Value) : (w.alloc (.cells #[x] T)).cell? ⟨i, 0, none⟩ = some x := by
  subst hi; simp

section
variable {p k b t v u a : Int}

/-! ### FOR A STRENGTH -/
/-- The least number of millilitres behind which the strength is as told, and the code. -/
def forQ (p k v u a s : Int) (m : Nat) : Bool := decide (s ≤ strn p k v (left u v m) (left a v m))
def forC (p k b t v u a s : Int) : Int := if bathOk p k b t v u a = true then (if inB s 0 1000 = true then 0 else 2) else 1
def forR (p k b t v u a s : Int) : Int := ifC (forC p k b t v u a s) (least (forQ p k v u a s) (v.toNat + 1))
theorem for_mono {s : Int} (h : BOk p k b t v u a) : ∀ x y : Nat, x ≤ y → (y : Int) ≤ v → forQ p k v u a s x = true → forQ p k v u a s y = true := fun x y hxy hy hx => by
  have := fill_mono h (m := x) (m' := y) (by omega) (by omega) hy
  simp only [forQ, decide_eq_true_eq] at hx ⊢
  omega
theorem for_le {s : Int} (h : BOk p k b t v u a) (hs : s ≤ 1000) : (least (forQ p k v u a s) (v.toNat + 1) : Int) ≤ v := by
  have hv := h.v0
  have hsp := least_spec (n := v.toNat + 1) (q := forQ p k v u a s)
  have hall := fill_all h
  have hq : forQ p k v u a s v.toNat = true := by
    simp only [forQ, decide_eq_true_eq]
    rw [show ((v.toNat : Nat) : Int) = v by omega, hall]
    exact hs
  rcases Nat.lt_or_ge v.toNat (least (forQ p k v u a s) (v.toNat + 1)) with hlt | hge
  · rw [hsp.2.1 _ hlt] at hq; cases hq
  · omega

end
end Go.Proofs.YtapbbonobhebpaaDoor

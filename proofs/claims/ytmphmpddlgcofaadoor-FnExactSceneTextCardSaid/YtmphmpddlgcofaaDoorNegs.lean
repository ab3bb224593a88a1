/-
  Negatives and prints by value: the laws' copies, and what both sides' tests return. Condition: int16 numbers.
-/
import Derived.Test.YtmphmpddlgcofaaDoorDense
namespace Go.Proofs.YtmphmpddlgcofaaDoor
open Go.RowKit

/-- Numbers of int16. -/
def S16 (f : Nat → Int) : Prop := ∀ k, k < 64 → -32768 ≤ f k ∧ f k ≤ 32767
theorem dnsB_S16 {f : Nat → Int} (h : dnsB f = true) : S16 f := fun k hk => by have := dnsB_bd h hk; omega

end Go.Proofs.YtmphmpddlgcofaaDoor

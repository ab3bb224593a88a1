/-
  How many cells a mask has; whether a cell lies in it. Condition: the mask is one of 64 bits.
-/
import Derived.Test.YtaanboedhabheaaDoorMaskT
namespace Go.Proofs.YtaanboedhabheaaDoor
open Go.RowKit

/-- The bits among the first n. -/
def cntF : Nat → Nat → Nat
  | 0, _ => 0
  | n + 1, m => m % 2 + cntF n (m / 2)
theorem cntF_0 : ∀ n, cntF n 0 = 0
  | 0 => rfl
  | n + 1 => by rw [cntF, cntF_0 n]
theorem cntF_le : ∀ n m, cntF n m ≤ n
  | 0, _ => Nat.le_refl _
  | n + 1, m => by
    have := cntF_le n (m / 2)
    rw [cntF]; omega
section
variable {P : Program}
theorem run_and1 {ρ : Operand → Value} {o : Oper} {w : World} {T T2 : TypeId} {x y : Operand} {m : Nat} (ho : o.op = .binOp .and T x y T2) (hx : ρ x = .int .u64 (m : Int)) (hy : ρ y = .int .u64 1) (hm : m < 18446744073709551616) :
    (execOp ρ o).run P w = .ok (.value (.int .u64 ((m % 2 : Nat) : Int))) w := by
  have hb : (BitVec.ofNat 64 m &&& 1#64).toNat = m % 2 := by
    rw [BitVec.toNat_and]
    have e : (1#64).toNat = 1 := by decide
    rw [e, BitVec.toNat_ofNat, Nat.mod_eq_of_lt hm, Nat.and_one_is_mod]
  have hw : IntKind.u64.wrap ((m % 2 : Nat) : Int) = ((m % 2 : Nat) : Int) := by
    rw [IntKind.wrap_u64]; omega
  unfold execOp
  simp [ho, hx, hy, binOp, Op.intBits, IntKind.bits, eqGuard]
  show IntKind.u64.wrap (((BitVec.ofNat 64 m &&& 1#64).toNat : Nat) : Int) = _
  rw [hb]
  simpa using hw
theorem run_shrN {ρ : Operand → Value} {o : Oper} {w : World} {T T2 : TypeId} {x y : Operand} {κ : IntKind} {m k : Nat} (ho : o.op = .binOp .shr T x y T2) (hx : ρ x = .int .u64 (m : Int)) (hy : ρ y = .int κ (k : Int)) (hk : k < 64) :
    (execOp ρ o).run P w = .ok (.value (.int .u64 ((m / 2 ^ k : Nat) : Int))) w := by
  have h1 : ¬ (k : Int) < 0 := by omega
  have h2 : min k 64 = k := by omega
  unfold execOp
  simp [ho, hx, hy, binOp, Op.shift, h1, h2, IntKind.bits, eqGuard]
end

end Go.Proofs.YtaanboedhabheaaDoor

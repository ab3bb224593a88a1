/-
  Masks turned around: what both sides' functions return. Condition: masks of 64 bits.
-/
import Derived.Test.YtnlcjbobfhmnmaaDoorMirBits
namespace Go.Proofs.YtnlcjbobfhmnmaaDoor
open Go.RowKit

theorem run_and1c {P : Program} {ρ : Operand → Value} {o : Oper} {w : World} {T T2 : TypeId} {x y : Operand} {m c : Nat} (ho : o.op = .binOp .and T x y T2) (hx : ρ x = .int .u64 (m : Int)) (hy : ρ y = .int .u64 1) (hm : m < 18446744073709551616) (hc : m % 2 = c) :
    (execOp ρ o).run P w = .ok (.value (.int .u64 (c : Int))) w := by
  have h := run_bvand (P := P) (ρ := ρ) (w := w) (b := BitVec.ofNat 64 m) (M := 1#64) ho (by rw [hx]; simp [Nat.mod_eq_of_lt hm]) (by rw [hy]; rfl)
  rw [h]
  have e : (BitVec.ofNat 64 m &&& 1#64).toNat = c := by
    rw [BitVec.toNat_and]
    have e : (1#64).toNat = 1 := by decide
    rw [e, BitVec.toNat_ofNat, Nat.mod_eq_of_lt hm, Nat.and_one_is_mod, hc]
  show Result.ok (Next.value (Value.int .u64 (((BitVec.ofNat 64 m &&& 1#64).toNat : Nat) : Int))) w = _
  rw [e]
theorem run_shrM {P : Program} {ρ : Operand → Value} {o : Oper} {w : World} {T T2 : TypeId} {x y : Operand} {κ : IntKind} {m k : Nat} (ho : o.op = .binOp .shr T x y T2) (hx : ρ x = .int .u64 (m : Int)) (hy : ρ y = .int κ (k : Int)) (hk : k < 64) :
    (execOp ρ o).run P w = .ok (.value (.int .u64 ((m / 2 ^ k : Nat) : Int))) w := by
  have h1 : ¬ (k : Int) < 0 := by omega
  have h2 : min k 64 = k := by omega
  unfold execOp
  simp [ho, hx, hy, binOp, Op.shift, h1, h2, IntKind.bits, eqGuard]

end Go.Proofs.YtnlcjbobfhmnmaaDoor

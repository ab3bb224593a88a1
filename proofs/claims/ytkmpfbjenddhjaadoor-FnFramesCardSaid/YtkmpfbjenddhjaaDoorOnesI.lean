/-
  How many cells a mask has, by the library's OnesCount64: its contract. Of whatever mask; no condition.
-/
import Derived.Test.YtkmpfbjenddhjaaDoorOnes
namespace Go.Proofs.YtkmpfbjenddhjaaDoor
open Go.RowKit

theorem run_add_bv {P : Program} {ρ : Operand → Value} {o : Oper} {w : World} {T T2 : TypeId} {x y : Operand} {a b : BitVec 64} (ho : o.op = .binOp .add T x y T2) (hx : ρ x = .int .u64 (bvI a)) (hy : ρ y = .int .u64 (bvI b)) :
    (execOp ρ o).run P w = .ok (.value (.int .u64 (bvI (a + b)))) w := by
  have hw : IntKind.u64.wrap (bvI a + bvI b) = bvI (a + b) := by
    unfold bvI
    rw [IntKind.wrap_u64, BitVec.toNat_add]; omega
  unfold execOp
  simp only [ho, hx, hy]
  simp [binOp, Op.intArith, eqGuard, hw]
theorem run_and127 {P : Program} {ρ : Operand → Value} {o : Oper} {w : World} {T T2 : TypeId} {x y : Operand} {m c : Nat} (ho : o.op = .binOp .and T x y T2) (hx : ρ x = .int .i64 (m : Int)) (hy : ρ y = .int .i64 127) (hm : m < 9223372036854775808) (hc : m % 128 = c) :
    (execOp ρ o).run P w = .ok (.value (.int .i64 (c : Int))) w := by
  have hb : (BitVec.ofNat 64 m &&& BitVec.ofNat 64 127).toNat = c := by
    rw [BitVec.toNat_and, BitVec.toNat_ofNat, BitVec.toNat_ofNat, Nat.mod_eq_of_lt (by omega), ← hc]
    exact Nat.and_two_pow_sub_one_eq_mod m 7
  have hw : IntKind.i64.wrap ((c : Nat) : Int) = ((c : Nat) : Int) := IntWalk.i64_in _ (by omega)
  unfold execOp
  simp only [ho, hx, hy]
  simp [binOp, Op.intBits, IntKind.bits, eqGuard]
  show IntKind.i64.wrap (((BitVec.ofNat 64 m &&& BitVec.ofNat 64 127).toNat : Nat) : Int) = _
  rw [hb, hw]

end Go.Proofs.YtkmpfbjenddhjaaDoor

/-
  Masks of 64 cells as numbers: bits, and the operations that make them. Of whatever program; each theorem names its own condition.
-/
import Derived.Test.YtnlcjbobfhmnmaaDoorBase
import Derived.Laws.Bits64b
namespace Go.Proofs.YtnlcjbobfhmnmaaDoor
open Go.RowKit

/-- The mask of the first k cells that are asked for. -/
def maskN (p : Nat → Bool) : Nat → Nat
  | 0 => 0
  | k + 1 => if p k = true then maskN p k ||| 2 ^ k else maskN p k
theorem maskN_yes {p : Nat → Bool} {k : Nat} (h : p k = true) : maskN p (k + 1) = maskN p k ||| 2 ^ k := by simp [maskN, h]
theorem maskN_no {p : Nat → Bool} {k : Nat} (h : p k = false) : maskN p (k + 1) = maskN p k := by simp [maskN, h]
theorem maskN_bit (p : Nat → Bool) : ∀ k j, (maskN p k).testBit j = (decide (j < k) && p j)
  | 0, j => by simp [maskN]
  | k + 1, j => by
    have ih := maskN_bit p k j
    rcases h : p k with _ | _
    · rw [maskN_no h, ih]
      by_cases e : j = k
      · subst e; simp [h]
      · have : j < k ↔ j < k + 1 := by omega
        simp [this]
    · rw [maskN_yes h, Nat.testBit_or, ih, Nat.testBit_two_pow]
      by_cases e : k = j
      · subst e; simp [h]
      · have : j < k ↔ j < k + 1 := by omega
        simp [this, e]
theorem maskN_lt (p : Nat → Bool) (k : Nat) (hk : k ≤ 64) : maskN p k < 18446744073709551616 := by
  refine Nat.lt_of_lt_of_le (Nat.lt_pow_two_of_testBit (maskN p k) (n := k) fun j hj => ?_) (Nat.le_trans (Nat.pow_le_pow_right (by omega) hk) (by decide))
  rw [maskN_bit]
  have : ¬ j < k := by omega
  simp [this]
theorem two_pow_lt64 {k : Nat} (hk : k < 64) : 2 ^ k < 18446744073709551616 :=
  Nat.lt_of_lt_of_le (Nat.pow_lt_pow_right (by omega) hk) (by decide)
theorem maskN_of_bits {p : Nat → Bool} {m : Nat} (h : ∀ j, m.testBit j = (decide (j < 64) && p j)) : m = maskN p 64 :=
  Nat.eq_of_testBit_eq fun j => by rw [h j, maskN_bit]

section
variable {P : Program}
theorem run_shl1 {ρ : Operand → Value} {o : Oper} {w : World} {T T2 : TypeId} {x y : Operand} {κ : IntKind} {k : Nat} (ho : o.op = .binOp .shl T x y T2) (hx : ρ x = .int .u64 1) (hy : ρ y = .int κ (k : Int)) (hk : k < 64) :
    (execOp ρ o).run P w = .ok (.value (.int .u64 ((2 ^ k : Nat) : Int))) w := by
  have h1 : ¬ (k : Int) < 0 := by omega
  have h2 : min k 64 = k := by omega
  have h3 : IntKind.u64.wrap ((2 : Int) ^ k) = (2 : Int) ^ k := by
    rw [IntKind.wrap_u64]
    have := two_pow_lt64 hk
    have e : ((2 : Int) ^ k) = ((2 ^ k : Nat) : Int) := by norm_cast
    rw [e]
    clear h2 h1 e
    generalize (2 ^ k : Nat) = b at *
    omega
  unfold execOp
  simp [ho, hx, hy, binOp, Op.shift, h1, h2, IntKind.bits, h3, eqGuard]
theorem run_or64 {ρ : Operand → Value} {o : Oper} {w : World} {T T2 : TypeId} {x y : Operand} {m n : Nat} (ho : o.op = .binOp .or T x y T2) (hx : ρ x = .int .u64 (m : Int)) (hy : ρ y = .int .u64 (n : Int)) (hm : m < 18446744073709551616) (hn : n < 18446744073709551616) :
    (execOp ρ o).run P w = .ok (.value (.int .u64 ((m ||| n : Nat) : Int))) w := by
  have hb : (BitVec.ofNat 64 m ||| BitVec.ofNat 64 n).toNat = m ||| n := by
    simp [BitVec.toNat_or, Nat.mod_eq_of_lt hm, Nat.mod_eq_of_lt hn]
  have hlt : m ||| n < 2 ^ 64 := Nat.or_lt_two_pow hm hn
  have hw : IntKind.u64.wrap ((m ||| n : Nat) : Int) = ((m ||| n : Nat) : Int) := by
    rw [IntKind.wrap_u64]; omega
  unfold execOp
  simp [ho, hx, hy, binOp, Op.intBits, IntKind.bits, eqGuard]
  show IntKind.u64.wrap (((BitVec.ofNat 64 m ||| BitVec.ofNat 64 n).toNat : Nat) : Int) = _
  rw [hb, hw]
theorem wpList_yield {ops : Array Oper} {rest : List Oper} {o : Oper} {a : Act} {w : World} {Q : Exit → Act → World → Prop} {v : Value} (hgd : o.guard = none) (h : (execOp a.eval o).run P w = .ok (.value v) w)
    (hK : wpList P ops Q rest (a.put o.dst v) w) : wpList P ops Q (o :: rest) a w :=
  wpList_plain hgd fun K hK' => by unfold Oper.wp; rw [h]; exact hK' _ _ hK
theorem wpList_or {ops : Array Oper} {rest : List Oper} {o : Oper} {a : Act} {w : World} {Q : Exit → Act → World → Prop} {T T2 : TypeId} {m n : Nat} (x y : Operand) (hgd : o.guard = none) (ho : o.op = .binOp .or T x y T2) (hx : a.eval x = .int .u64 (m : Int)) (hy : a.eval y = .int .u64 (n : Int))
    (hm : m < 18446744073709551616) (hn : n < 18446744073709551616) (hK : wpList P ops Q rest (a.put o.dst (.int .u64 ((m ||| n : Nat) : Int))) w) : wpList P ops Q (o :: rest) a w :=
  wpList_yield hgd (run_or64 ho hx hy hm hn) hK
theorem wpList_shl1 {ops : Array Oper} {rest : List Oper} {o : Oper} {a : Act} {w : World} {Q : Exit → Act → World → Prop} {T T2 : TypeId} {κ : IntKind} {k : Nat} (x y : Operand) (hgd : o.guard = none) (ho : o.op = .binOp .shl T x y T2) (hx : a.eval x = .int .u64 1) (hy : a.eval y = .int κ (k : Int)) (hk : k < 64)
    (hK : wpList P ops Q rest (a.put o.dst (.int .u64 ((2 ^ k : Nat) : Int))) w) : wpList P ops Q (o :: rest) a w :=
  wpList_yield hgd (run_shl1 ho hx hy hk) hK
end
end Go.Proofs.YtnlcjbobfhmnmaaDoor

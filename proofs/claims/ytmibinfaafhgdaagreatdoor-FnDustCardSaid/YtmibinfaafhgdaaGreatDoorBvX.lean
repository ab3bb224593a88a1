/-
  Masks of 64 cells as numbers: bits, and the operations that make them. Of whatever program; each theorem names its own condition.
-/
import Derived.Test.YtmibinfaafhgdaaGreatDoorBase
import Derived.Laws.Bits64b
namespace Go.Proofs.YtmibinfaafhgdaaGreatDoor
open Go.RowKit

/-- The mask of the first k cells that are asked for. -/
def maskN (p : Nat → Bool) : Nat → Nat
  | 0 => 0
  | k + 1 => if p k = true then maskN p k ||| 2 ^ k else maskN p k
theorem maskN_yes {p : Nat → Bool} {k : Nat} (h : p k = true) : maskN p (k + 1) = maskN p k ||| 2 ^ k := by simp [maskN, h]
theorem maskN_no {p : Nat → Bool} {k : Nat} (h : p k = false) : maskN p (k + 1) = maskN p k := by simp [maskN, h]
theorem maskN_bit (p : Nat → Bool) : ∀ k j, (maskN p k).testBit j = (decide (j < k) && p j)
  | 0, j => by simp [maskN]
  | k + 1, j => by
    have ih := maskN_bit p k j
    rcases h : p k with _ | _
    · rw [maskN_no h, ih]
      by_cases e : j = k
      · subst e; simp [h]
      · have : j < k ↔ j < k + 1 := by omega
        simp [this]
    · rw [maskN_yes h, Nat.testBit_or, ih, Nat.testBit_two_pow]
      by_cases e : k = j
      · subst e; simp [h]
      · have : j < k ↔ j < k + 1 := by omega
        simp [this, e]
theorem maskN_lt (p : Nat → Bool) (k : Nat) (hk : k ≤ 64) : maskN p k < 18446744073709551616 := by
  refine Nat.lt_of_lt_of_le (Nat.lt_pow_two_of_testBit (maskN p k) (n := k) fun j hj => ?_) (Nat.le_trans (Nat.pow_le_pow_right (by omega) hk) (by decide))
  rw [maskN_bit]
  have : ¬ j < k := by omega
  simp [this]
theorem two_pow_lt64 {k : Nat} (hk : k < 64) : 2 ^ k < 18446744073709551616 :=
  Nat.lt_of_lt_of_le (Nat.pow_lt_pow_right (by omega) hk) (by decide)
theorem maskN_of_bits {p : Nat → Bool} {m : Nat} (h : ∀ j, m.testBit j = (decide (j < 64) && p j)) : m = maskN p 64 :=
  Nat.eq_of_testBit_eq fun j => by rw [h j, maskN_bit]

section
variable {P : Program}
theorem run_shl1 {ρ : Operand → Value} {o : Oper} {w : World} {T T2 : TypeId} {x y : Operand} {κ : IntKind} {k : Nat} (ho : o.op = .binOp .shl T x y T2) (hx : ρ x = .int .u64 1) (hy : ρ y = .int κ (k : Int)) (hk : k < 64) :
    (execOp ρ o).run P w = .ok (.value (.int .u64 ((2 ^ k : Nat) : Int))) w := by
  have h1 : ¬ (k : Int) < 0 := by omega
  have h2 : min k 64 = k := by omega
  have h3 : IntKind.u64.wrap ((2 : Int) ^ k) = (2 : Int) ^ k := by
    rw [IntKind.wrap_u64]
    have := two_pow_lt64 hk
    have e : ((2 : Int) ^ k) = ((2 ^ k : Nat) : Int) := by norm_cast
    rw [e]
    clear h2 h1 e
    generalize (2 ^ k : Nat) = b at *
    omega
  unfold execOp
  simp [ho, hx, hy, binOp, Op.shift, h1, h2, IntKind.bits, h3, eqGuard]
theorem run_or64 {ρ : Operand → Value} {o : Oper} {w : World} {T T2 : TypeId} {x y : Operand} {m n : Nat} (ho : o.op = .binOp .or T x y T2) (hx : ρ x = .int .u64 (m : Int)) (hy : ρ y = .int .u64 (n : Int)) (hm : m < 18446744073709551616) (hn : n < 18446744073709551616) :
    (execOp ρ o).run P w = .ok (.value (.int .u64 ((m ||| n : Nat) : Int))) w := by
  have hb : (BitVec.ofNat 64 m ||| BitVec.ofNat 64 n).toNat = m ||| n := by
    simp [BitVec.toNat_or, Nat.mod_eq_of_lt hm, Nat.mod_eq_of_lt hn]
  have hlt : m ||| n < 2 ^ 64 := Nat.or_lt_two_pow hm hn
  have hw : IntKind.u64.wrap ((m ||| n : Nat) : Int) = ((m ||| n : Nat) : Int) := by
    rw [IntKind.wrap_u64]; omega
  unfold execOp
  simp [ho, hx, hy, binOp, Op.intBits, IntKind.bits, eqGuard]
  show IntKind.u64.wrap (((BitVec.ofNat 64 m ||| BitVec.ofNat 64 n).toNat : Nat) : Int) = _
  rw [hb, hw]
theorem wpList_yield {ops : Array Oper} {rest : List Oper} {o : Oper} {a : Act} {w : World} {Q : Exit → Act → World → Prop} {v : Value} (hgd : o.guard = none) (h : (execOp a.eval o).run P w = .ok (.value v) w)
    (hK : wpList P ops Q rest (a.put o.dst v) w) : wpList P ops Q (o :: rest) a w :=
  wpList_plain hgd fun K hK' => by unfold Oper.wp; rw [h]; exact hK' _ _ hK
theorem wpList_or {ops : Array Oper} {rest : List Oper} {o : Oper} {a : Act} {w : World} {Q : Exit → Act → World → Prop} {T T2 : TypeId} {m n : Nat} (x y : Operand) (hgd : o.guard = none) (ho : o.op = .binOp .or T x y T2) (hx : a.eval x = .int .u64 (m : Int)) (hy : a.eval y = .int .u64 (n : Int))
    (hm : m < 18446744073709551616) (hn : n < 18446744073709551616) (hK : wpList P ops Q rest (a.put o.dst (.int .u64 ((m ||| n : Nat) : Int))) w) : wpList P ops Q (o :: rest) a w :=
  wpList_yield hgd (run_or64 ho hx hy hm hn) hK
theorem wpList_shl1 {ops : Array Oper} {rest : List Oper} {o : Oper} {a : Act} {w : World} {Q : Exit → Act → World → Prop} {T T2 : TypeId} {κ : IntKind} {k : Nat} (x y : Operand) (hgd : o.guard = none) (ho : o.op = .binOp .shl T x y T2) (hx : a.eval x = .int .u64 1) (hy : a.eval y = .int κ (k : Int)) (hk : k < 64)
    (hK : wpList P ops Q rest (a.put o.dst (.int .u64 ((2 ^ k : Nat) : Int))) w) : wpList P ops Q (o :: rest) a w :=
  wpList_yield hgd (run_shl1 ho hx hy hk) hK
end
end Go.Proofs.YtmibinfaafhgdaaGreatDoor

namespace Go.Proofs.YtmibinfaafhgdaaGreatDoor
open Go.RowKit

/-- The number of a mask. -/
def bvI (a : BitVec 64) : Int := (a.toNat : Int)
theorem bvI_of {x : Int} (h0 : 0 ≤ x) (h1 : x ≤ 18446744073709551615) : ∃ a, x = bvI a := by
  refine ⟨BitVec.ofNat 64 x.toNat, ?_⟩
  unfold bvI
  rw [BitVec.toNat_ofNat]
  omega
theorem bvI_bd (a : BitVec 64) : 0 ≤ bvI a ∧ bvI a ≤ 18446744073709551615 := by
  have := a.isLt
  unfold bvI; omega
theorem bvI_inj {a b : BitVec 64} : bvI a = bvI b ↔ a = b := by
  unfold bvI
  rw [Int.natCast_inj]; exact BitVec.toNat_inj
theorem wrap_bv (a : BitVec 64) : IntKind.u64.wrap (bvI a) = bvI a := by
  have := bvI_bd a
  rw [IntKind.wrap_u64]; omega
section
variable {P : Program} {ρ : Operand → Value} {o : Oper} {w : World} {T T2 : TypeId} {x y : Operand} {a b : BitVec 64} {κ : IntKind} {k : Nat}
theorem run_and_bv (ho : o.op = .binOp .and T x y T2) (hx : ρ x = .int .u64 (bvI a)) (hy : ρ y = .int .u64 (bvI b)) :
    (execOp ρ o).run P w = .ok (.value (.int .u64 (bvI (a &&& b)))) w := by
  have hw := wrap_bv (a &&& b)
  unfold bvI at *
  unfold execOp
  simp [ho, hx, hy, binOp, Op.intBits, IntKind.bits, eqGuard, -BitVec.toNat_and, -BitVec.toNat_or, -BitVec.toNat_not]
  exact hw
theorem run_or_bv (ho : o.op = .binOp .or T x y T2) (hx : ρ x = .int .u64 (bvI a)) (hy : ρ y = .int .u64 (bvI b)) :
    (execOp ρ o).run P w = .ok (.value (.int .u64 (bvI (a ||| b)))) w := by
  have hw := wrap_bv (a ||| b)
  unfold bvI at *
  unfold execOp
  simp [ho, hx, hy, binOp, Op.intBits, IntKind.bits, eqGuard, -BitVec.toNat_and, -BitVec.toNat_or, -BitVec.toNat_not]
  exact hw
theorem run_andNot_bv (ho : o.op = .binOp .andNot T x y T2) (hx : ρ x = .int .u64 (bvI a)) (hy : ρ y = .int .u64 (bvI b)) :
    (execOp ρ o).run P w = .ok (.value (.int .u64 (bvI (a &&& ~~~b)))) w := by
  have hw := wrap_bv (a &&& ~~~b)
  unfold bvI at *
  unfold execOp
  simp [ho, hx, hy, binOp, Op.intBits, IntKind.bits, eqGuard, -BitVec.toNat_and, -BitVec.toNat_or, -BitVec.toNat_not]
  exact hw
theorem run_shr_bv (ho : o.op = .binOp .shr T x y T2) (hx : ρ x = .int .u64 (bvI a)) (hy : ρ y = .int κ (k : Int)) (hk : k < 64) :
    (execOp ρ o).run P w = .ok (.value (.int .u64 (bvI (a >>> k)))) w := by
  have h1 : ¬ (k : Int) < 0 := by omega
  have h2 : min k 64 = k := by omega
  have e : (a >>> k).toNat = a.toNat / 2 ^ k := by rw [BitVec.toNat_ushiftRight, Nat.shiftRight_eq_div_pow]
  unfold bvI at *
  rw [e]
  unfold execOp
  simp [ho, hx, hy, binOp, Op.shift, h1, h2, IntKind.bits, eqGuard]
theorem run_shl_bv (ho : o.op = .binOp .shl T x y T2) (hx : ρ x = .int .u64 (bvI a)) (hy : ρ y = .int κ (k : Int)) (hk : k < 64) :
    (execOp ρ o).run P w = .ok (.value (.int .u64 (bvI (a <<< k)))) w := by
  have h1 : ¬ (k : Int) < 0 := by omega
  have h2 : min k 64 = k := by omega
  have e : IntKind.u64.wrap ((a.toNat : Int) * 2 ^ k) = ((a <<< k).toNat : Int) := by
    have e2 : ((2 : Int) ^ k) = ((2 ^ k : Nat) : Int) := by norm_cast
    rw [IntKind.wrap_u64, BitVec.toNat_shiftLeft, Nat.shiftLeft_eq, e2, ← Int.natCast_mul]
    generalize a.toNat * 2 ^ k = q
    omega
  unfold bvI at *
  rw [← e]
  unfold execOp
  simp [ho, hx, hy, binOp, Op.shift, h1, h2, IntKind.bits, eqGuard]
theorem run_eql_bv (ho : o.op = .binOp .eql T x y T2) (hx : ρ x = .int .u64 (bvI a)) (hy : ρ y = .int .u64 (bvI b)) :
    (execOp ρ o).run P w = .ok (.value (.bool (decide (a = b)))) w := by
  have e := @bvI_inj a b
  unfold execOp
  have e2 : (bvI a == bvI b) = decide (a = b) := by rw [Bool.eq_iff_iff]; simp [e]
  simp [ho, hx, hy, binOp, eqGuard, Op.intCmp, e2]
theorem run_neq_bv (ho : o.op = .binOp .neq T x y T2) (hx : ρ x = .int .u64 (bvI a)) (hy : ρ y = .int .u64 (bvI b)) :
    (execOp ρ o).run P w = .ok (.value (.bool (!decide (a = b)))) w := by
  have e := @bvI_inj a b
  unfold execOp
  have e2 : (bvI a != bvI b) = !decide (a = b) := by rw [bne, show (bvI a == bvI b) = decide (a = b) by rw [Bool.eq_iff_iff]; simp [e]]
  simp [ho, hx, hy, binOp, eqGuard, Op.intCmp, e2]
end

/-! ### NEIGHBOURS -/
/-- The border cells in the west and in the east. -/
def westM : BitVec 64 := 0x0101010101010101#64
def eastM : BitVec 64 := 0x8080808080808080#64
/-- A mask with all neighbours. -/
def growB (m : BitVec 64) : BitVec 64 := m ||| m >>> 8 ||| (m &&& ~~~westM) >>> 1 ||| (m &&& ~~~eastM) <<< 1 ||| m <<< 8
theorem growB_spec (m : BitVec 64) : m ||| m <<< 8 ||| m >>> 8 ||| (m &&& ~~~eastM) <<< 1 ||| (m &&& ~~~westM) >>> 1 = growB m := by
  unfold growB; ac_rfl

end Go.Proofs.YtmibinfaafhgdaaGreatDoor

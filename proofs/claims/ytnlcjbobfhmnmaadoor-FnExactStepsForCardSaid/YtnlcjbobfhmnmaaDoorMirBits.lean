/-
  Bits turned around in numbers of 64 bits: the library's and the reference's ways. Condition: numbers of 64 bits.
-/
import Derived.Test.YtnlcjbobfhmnmaaDoorMaskT
namespace Go.Proofs.YtnlcjbobfhmnmaaDoor
open Go.RowKit

/-- One step of turning bits around. -/
def mstep (s : Nat) (M b : BitVec 64) : BitVec 64 := ((b >>> s) &&& M) ||| ((b &&& M) <<< s)
theorem mstep_bit (s : Nat) (M b : BitVec 64) (hM : ∀ i, i < 64 → M.getLsbD i = decide (i / s % 2 = 0)) (hs : s = 1 ∨ s = 2 ∨ s = 4 ∨ s = 8 ∨ s = 16 ∨ s = 32) (i : Nat) (hi : i < 64) : (mstep s M b).getLsbD i = b.getLsbD (if i / s % 2 = 0 then i + s else i - s) := by
  unfold mstep
  rw [BitVec.getLsbD_or, BitVec.getLsbD_and, BitVec.getLsbD_ushiftRight, BitVec.getLsbD_shiftLeft, hM i hi]
  by_cases h : i / s % 2 = 0
  · rw [if_pos h, decide_eq_true h, Bool.and_true]
    have h1 : (!decide (i < s) && (b &&& M).getLsbD (i - s)) = false := by
      by_cases h2 : i < s
      · simp [h2]
      · have h3 : ¬ (i - s) / s % 2 = 0 := by rcases hs with rfl | rfl | rfl | rfl | rfl | rfl <;> omega
        rw [BitVec.getLsbD_and, hM (i - s) (by omega), decide_eq_false h3]
        simp
    have h4 : (decide (i < 64) && !decide (i < s) && (b &&& M).getLsbD (i - s)) = false := by
      rw [Bool.and_assoc, h1, Bool.and_false]
    rw [h4, Bool.or_false, Nat.add_comm]
  · rw [if_neg h, decide_eq_false h, Bool.and_false, Bool.false_or]
    have h2 : ¬ i < s := by
      intro h2
      apply h
      rw [Nat.div_eq_of_lt h2]
    have h3 : (i - s) / s % 2 = 0 := by rcases hs with rfl | rfl | rfl | rfl | rfl | rfl <;> omega
    rw [BitVec.getLsbD_and, hM (i - s) (by omega), decide_eq_true h3]
    simp [hi, h2]
def m0 : BitVec 64 := 6148914691236517205#64
def m1 : BitVec 64 := 3689348814741910323#64
def m2 : BitVec 64 := 1085102592571150095#64
def m3 : BitVec 64 := 71777214294589695#64
def m4 : BitVec 64 := 281470681808895#64
def m5 : BitVec 64 := 4294967295#64
theorem m0_bit : ∀ i, i < 64 → m0.getLsbD i = decide (i / 1 % 2 = 0) := by decide +kernel
theorem m1_bit : ∀ i, i < 64 → m1.getLsbD i = decide (i / 2 % 2 = 0) := by decide +kernel
theorem m2_bit : ∀ i, i < 64 → m2.getLsbD i = decide (i / 4 % 2 = 0) := by decide +kernel
theorem m3_bit : ∀ i, i < 64 → m3.getLsbD i = decide (i / 8 % 2 = 0) := by decide +kernel
theorem m4_bit : ∀ i, i < 64 → m4.getLsbD i = decide (i / 16 % 2 = 0) := by decide +kernel
/-- The last step: the halves change places. -/
def half (b : BitVec 64) : BitVec 64 := (b >>> 32) ||| (b <<< 32)
theorem half_bit (b : BitVec 64) (i : Nat) (hi : i < 64) : (half b).getLsbD i = b.getLsbD (if i / 32 % 2 = 0 then i + 32 else i - 32) := by
  unfold half
  rw [BitVec.getLsbD_or, BitVec.getLsbD_ushiftRight, BitVec.getLsbD_shiftLeft]
  by_cases h : i < 32
  · have h2 : i / 32 % 2 = 0 := by omega
    simp [h, h2, Nat.add_comm]
  · have h2 : ¬ i / 32 % 2 = 0 := by omega
    have h3 : b.getLsbD (32 + i) = false := BitVec.getLsbD_of_ge _ _ (by omega)
    simp [h, h2, h3, hi]
def revBytes (b : BitVec 64) : BitVec 64 := half (mstep 16 m4 (mstep 8 m3 b))
def rev64 (b : BitVec 64) : BitVec 64 := revBytes (mstep 4 m2 (mstep 2 m1 (mstep 1 m0 b)))
def sw (s i : Nat) : Nat := if i / s % 2 = 0 then i + s else i - s
theorem sw_lt : ∀ i, i < 64 → sw 1 i < 64 ∧ sw 2 i < 64 ∧ sw 4 i < 64 ∧ sw 8 i < 64 ∧ sw 16 i < 64 ∧ sw 32 i < 64 := by decide +kernel
theorem revBytes_bit (b : BitVec 64) (i : Nat) (hi : i < 64) : (revBytes b).getLsbD i = b.getLsbD (sw 8 (sw 16 (sw 32 i))) := by
  have h1 := (sw_lt i hi).2.2.2.2.2
  have h2 := (sw_lt _ h1).2.2.2.2.1
  unfold revBytes
  rw [half_bit _ _ hi]
  show (mstep 16 m4 (mstep 8 m3 b)).getLsbD (sw 32 i) = _
  rw [mstep_bit 16 m4 _ m4_bit (by omega) _ h1]
  show (mstep 8 m3 b).getLsbD (sw 16 (sw 32 i)) = _
  rw [mstep_bit 8 m3 _ m3_bit (by omega) _ h2]
  rfl
theorem rev64_bit (b : BitVec 64) (i : Nat) (hi : i < 64) : (rev64 b).getLsbD i = b.getLsbD (sw 1 (sw 2 (sw 4 (sw 8 (sw 16 (sw 32 i)))))) := by
  have h1 := (sw_lt i hi).2.2.2.2.2
  have h2 := (sw_lt _ h1).2.2.2.2.1
  have h3 := (sw_lt _ h2).2.2.2.1
  have h4 := (sw_lt _ h3).2.2.1
  have h5 := (sw_lt _ h4).2.1
  unfold rev64
  rw [revBytes_bit _ _ hi, mstep_bit 4 m2 _ m2_bit (by omega) _ h3]
  show (mstep 2 m1 (mstep 1 m0 b)).getLsbD (sw 4 (sw 8 (sw 16 (sw 32 i)))) = _
  rw [mstep_bit 2 m1 _ m1_bit (by omega) _ h4]
  show (mstep 1 m0 b).getLsbD (sw 2 (sw 4 (sw 8 (sw 16 (sw 32 i))))) = _
  rw [mstep_bit 1 m0 _ m0_bit (by omega) _ h5]
  rfl
def mirQ (k : Nat) : Nat := k / 8 * 8 + 7 - k % 8
theorem mirQ_lt {k : Nat} (h : k < 64) : mirQ k < 64 := by unfold mirQ; omega
theorem mirQ_mirQ {k : Nat} : mirQ (mirQ k) = k := by unfold mirQ; omega
theorem sw_all : ∀ i, i < 64 → sw 1 (sw 2 (sw 4 (sw 8 (sw 16 (sw 32 (sw 8 (sw 16 (sw 32 i)))))))) = mirQ i := by decide +kernel
/-- The mask with east and west exchanged. -/
def mirN (m : Nat) : Nat := maskN (fun j => m.testBit (mirQ j)) 64
theorem mirN_lt (m : Nat) : mirN m < 18446744073709551616 := maskN_lt _ 64 (Nat.le_refl _)
theorem rev_mirN (b : BitVec 64) : (revBytes (rev64 b)).toNat = mirN b.toNat := by
  refine maskN_of_bits fun j => ?_
  by_cases hj : j < 64
  · have h1 := (sw_lt j hj).2.2.2.2.2
    have h2 := (sw_lt _ h1).2.2.2.2.1
    have h3 := (sw_lt _ h2).2.2.2.1
    rw [BitVec.testBit_toNat, revBytes_bit _ _ hj, rev64_bit _ _ h3, sw_all j hj, decide_eq_true hj, Bool.true_and, BitVec.testBit_toNat]
  · rw [BitVec.testBit_toNat, BitVec.getLsbD_of_ge _ _ (by omega), decide_eq_false hj, Bool.false_and]

section
variable {P : Program}
/-- A number of 64 bits as a value. -/
abbrev bvV (b : BitVec 64) : Value := .int .u64 (b.toNat : Nat)
theorem ofInt_bv (b : BitVec 64) : BitVec.ofInt 64 ((b.toNat : Nat) : Int) = b := by simp
theorem wrap_bv (b : BitVec 64) : IntKind.u64.wrap ((b.toNat : Nat) : Int) = ((b.toNat : Nat) : Int) := by
  rw [IntKind.wrap_u64]
  have := b.isLt
  omega
theorem run_bvand {ρ : Operand → Value} {o : Oper} {w : World} {T T2 : TypeId} {x y : Operand} {b M : BitVec 64} (ho : o.op = .binOp .and T x y T2) (hx : ρ x = bvV b) (hy : ρ y = bvV M) : (execOp ρ o).run P w = .ok (.value (bvV (b &&& M))) w := by
  unfold execOp
  simp [ho, hx, hy, binOp, Op.intBits, IntKind.bits, eqGuard]
  show IntKind.u64.wrap (((b &&& M).toNat : Nat) : Int) = _
  rw [wrap_bv, BitVec.toNat_and]
theorem run_bvor {ρ : Operand → Value} {o : Oper} {w : World} {T T2 : TypeId} {x y : Operand} {b M : BitVec 64} (ho : o.op = .binOp .or T x y T2) (hx : ρ x = bvV b) (hy : ρ y = bvV M) : (execOp ρ o).run P w = .ok (.value (bvV (b ||| M))) w := by
  unfold execOp
  simp [ho, hx, hy, binOp, Op.intBits, IntKind.bits, eqGuard]
  show IntKind.u64.wrap (((b ||| M).toNat : Nat) : Int) = _
  rw [wrap_bv, BitVec.toNat_or]
theorem run_bvshr {ρ : Operand → Value} {o : Oper} {w : World} {T T2 : TypeId} {x y : Operand} {b : BitVec 64} {κ : IntKind} {s : Nat} (ho : o.op = .binOp .shr T x y T2) (hx : ρ x = bvV b) (hy : ρ y = .int κ (s : Int)) (hs : s < 64) : (execOp ρ o).run P w = .ok (.value (bvV (b >>> s))) w := by
  have h1 : ¬ (s : Int) < 0 := by omega
  have h2 : min s 64 = s := by omega
  unfold execOp
  simp [ho, hx, hy, binOp, Op.shift, h1, h2, IntKind.bits, eqGuard, Nat.shiftRight_eq_div_pow]
theorem run_bvshl {ρ : Operand → Value} {o : Oper} {w : World} {T T2 : TypeId} {x y : Operand} {b : BitVec 64} {κ : IntKind} {s : Nat} (ho : o.op = .binOp .shl T x y T2) (hx : ρ x = bvV b) (hy : ρ y = .int κ (s : Int)) (hs : s < 64) : (execOp ρ o).run P w = .ok (.value (bvV (b <<< s))) w := by
  have h1 : ¬ (s : Int) < 0 := by omega
  have h2 : min s 64 = s := by omega
  unfold execOp
  simp [ho, hx, hy, binOp, Op.shift, h1, h2, IntKind.bits, eqGuard, Nat.shiftLeft_eq]
  rw [IntKind.wrap_u64]
end
end Go.Proofs.YtnlcjbobfhmnmaaDoor

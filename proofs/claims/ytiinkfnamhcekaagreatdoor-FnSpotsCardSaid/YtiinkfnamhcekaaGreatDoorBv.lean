/-
  Masks of 64 cells as bit vectors: what the operations on them give; a mask with all neighbours on both sides. Of whatever mask; no condition.
-/
import Derived.Test.YtiinkfnamhcekaaGreatDoorMaskT
namespace Go.Proofs.YtiinkfnamhcekaaGreatDoor
open Go.RowKit

/-- The number of a mask. -/
def bvI (a : BitVec 64) : Int := (a.toNat : Int)
theorem bvI_of {x : Int} (h0 : 0 ≤ x) (h1 : x ≤ 18446744073709551615) : ∃ a, x = bvI a := by
  refine ⟨BitVec.ofNat 64 x.toNat, ?_⟩
  unfold bvI
  rw [BitVec.toNat_ofNat]
  omega
theorem bvI_bd (a : BitVec 64) : 0 ≤ bvI a ∧ bvI a ≤ 18446744073709551615 := by
  have := a.isLt
  unfold bvI; omega
theorem bvI_inj {a b : BitVec 64} : bvI a = bvI b ↔ a = b := by
  unfold bvI
  rw [Int.natCast_inj]; exact BitVec.toNat_inj
theorem wrap_bv (a : BitVec 64) : IntKind.u64.wrap (bvI a) = bvI a := by
  have := bvI_bd a
  rw [IntKind.wrap_u64]; omega
section
variable {P : Program} {ρ : Operand → Value} {o : Oper} {w : World} {T T2 : TypeId} {x y : Operand} {a b : BitVec 64} {κ : IntKind} {k : Nat}
theorem run_and_bv (ho : o.op = .binOp .and T x y T2) (hx : ρ x = .int .u64 (bvI a)) (hy : ρ y = .int .u64 (bvI b)) :
    (execOp ρ o).run P w = .ok (.value (.int .u64 (bvI (a &&& b)))) w := by
  have hw := wrap_bv (a &&& b)
  unfold bvI at *
  unfold execOp
  simp [ho, hx, hy, binOp, Op.intBits, IntKind.bits, eqGuard, -BitVec.toNat_and, -BitVec.toNat_or, -BitVec.toNat_not]
  exact hw
theorem run_or_bv (ho : o.op = .binOp .or T x y T2) (hx : ρ x = .int .u64 (bvI a)) (hy : ρ y = .int .u64 (bvI b)) :
    (execOp ρ o).run P w = .ok (.value (.int .u64 (bvI (a ||| b)))) w := by
  have hw := wrap_bv (a ||| b)
  unfold bvI at *
  unfold execOp
  simp [ho, hx, hy, binOp, Op.intBits, IntKind.bits, eqGuard, -BitVec.toNat_and, -BitVec.toNat_or, -BitVec.toNat_not]
  exact hw
theorem run_andNot_bv (ho : o.op = .binOp .andNot T x y T2) (hx : ρ x = .int .u64 (bvI a)) (hy : ρ y = .int .u64 (bvI b)) :
    (execOp ρ o).run P w = .ok (.value (.int .u64 (bvI (a &&& ~~~b)))) w := by
  have hw := wrap_bv (a &&& ~~~b)
  unfold bvI at *
  unfold execOp
  simp [ho, hx, hy, binOp, Op.intBits, IntKind.bits, eqGuard, -BitVec.toNat_and, -BitVec.toNat_or, -BitVec.toNat_not]
  exact hw
theorem run_shr_bv (ho : o.op = .binOp .shr T x y T2) (hx : ρ x = .int .u64 (bvI a)) (hy : ρ y = .int κ (k : Int)) (hk : k < 64) :
    (execOp ρ o).run P w = .ok (.value (.int .u64 (bvI (a >>> k)))) w := by
  have h1 : ¬ (k : Int) < 0 := by omega
  have h2 : min k 64 = k := by omega
  have e : (a >>> k).toNat = a.toNat / 2 ^ k := by rw [BitVec.toNat_ushiftRight, Nat.shiftRight_eq_div_pow]
  unfold bvI at *
  rw [e]
  unfold execOp
  simp [ho, hx, hy, binOp, Op.shift, h1, h2, IntKind.bits, eqGuard]
theorem run_shl_bv (ho : o.op = .binOp .shl T x y T2) (hx : ρ x = .int .u64 (bvI a)) (hy : ρ y = .int κ (k : Int)) (hk : k < 64) :
    (execOp ρ o).run P w = .ok (.value (.int .u64 (bvI (a <<< k)))) w := by
  have h1 : ¬ (k : Int) < 0 := by omega
  have h2 : min k 64 = k := by omega
  have e : IntKind.u64.wrap ((a.toNat : Int) * 2 ^ k) = ((a <<< k).toNat : Int) := by
    have e2 : ((2 : Int) ^ k) = ((2 ^ k : Nat) : Int) := by norm_cast
    rw [IntKind.wrap_u64, BitVec.toNat_shiftLeft, Nat.shiftLeft_eq, e2, ← Int.natCast_mul]
    generalize a.toNat * 2 ^ k = q
    omega
  unfold bvI at *
  rw [← e]
  unfold execOp
  simp [ho, hx, hy, binOp, Op.shift, h1, h2, IntKind.bits, eqGuard]
theorem run_eql_bv (ho : o.op = .binOp .eql T x y T2) (hx : ρ x = .int .u64 (bvI a)) (hy : ρ y = .int .u64 (bvI b)) :
    (execOp ρ o).run P w = .ok (.value (.bool (decide (a = b)))) w := by
  have e := @bvI_inj a b
  unfold execOp
  have e2 : (bvI a == bvI b) = decide (a = b) := by rw [Bool.eq_iff_iff]; simp [e]
  simp [ho, hx, hy, binOp, eqGuard, Op.intCmp, e2]
theorem run_neq_bv (ho : o.op = .binOp .neq T x y T2) (hx : ρ x = .int .u64 (bvI a)) (hy : ρ y = .int .u64 (bvI b)) :
    (execOp ρ o).run P w = .ok (.value (.bool (!decide (a = b)))) w := by
  have e := @bvI_inj a b
  unfold execOp
  have e2 : (bvI a != bvI b) = !decide (a = b) := by rw [bne, show (bvI a == bvI b) = decide (a = b) by rw [Bool.eq_iff_iff]; simp [e]]
  simp [ho, hx, hy, binOp, eqGuard, Op.intCmp, e2]
end

/-! ### NEIGHBOURS -/
/-- The border cells in the west and in the east. -/
def westM : BitVec 64 := 0x0101010101010101#64
def eastM : BitVec 64 := 0x8080808080808080#64
/-- A mask with all neighbours. -/
def growB (m : BitVec 64) : BitVec 64 := m ||| m >>> 8 ||| (m &&& ~~~westM) >>> 1 ||| (m &&& ~~~eastM) <<< 1 ||| m <<< 8
theorem growB_spec (m : BitVec 64) : m ||| m <<< 8 ||| m >>> 8 ||| (m &&& ~~~eastM) <<< 1 ||| (m &&& ~~~westM) >>> 1 = growB m := by
  unfold growB; ac_rfl

set_option maxHeartbeats 1000000 in
theorem l07Grow_any (m : BitVec 64) (w : World) :
    Calls Tryz.prog 28 #[.int .u64 (bvI m)] w fun e w' => e = .returned (.int .u64 (bvI (growB m))) ∧ w = w' := by
  rw [← growB_spec]
  go_enter Tryz.func28, Tryz.ntmps28
  go_wp2_with (first
    | (refine wpList_yield rfl (run_shl_bv (a := westM) (k := 7) (κ := .u64) rfl rfl rfl (by decide)) ?_)
    | (refine wpList_yield rfl (run_shl_bv (a := m) (k := 8) (κ := .u64) rfl rfl rfl (by decide)) ?_)
    | (refine wpList_yield rfl (run_shr_bv (a := m) (k := 8) (κ := .u64) rfl rfl rfl (by decide)) ?_)
    | (refine wpList_yield rfl (run_andNot_bv (a := m) (b := eastM) rfl rfl rfl) ?_)
    | (refine wpList_yield rfl (run_andNot_bv (a := m) (b := westM) rfl rfl rfl) ?_)
    | (refine wpList_yield rfl (run_shl_bv (a := m &&& ~~~eastM) (k := 1) (κ := .u64) rfl rfl rfl (by decide)) ?_)
    | (refine wpList_yield rfl (run_shr_bv (a := m &&& ~~~westM) (k := 1) (κ := .u64) rfl rfl rfl (by decide)) ?_)
    | (refine wpList_yield rfl (run_or_bv rfl rfl rfl) ?_))
  go_ret
  exact ⟨rfl, rfl⟩

theorem specGrowMask_any (m : BitVec 64) (w : World) :
    Calls Tryz.prog 13 #[.int .u64 (bvI m)] w fun e w' => e = .returned (.int .u64 (bvI (growB m))) ∧ w = w' := by
  go_enter Tryz.func13, Tryz.ntmps13
  go_wp2_with (go_at_call 28; refine (l07Grow_any _ _).mono ?_; rintro e w' ⟨rfl, rfl⟩)
  go_ret
  exact ⟨rfl, rfl⟩

theorem northward_any (m : BitVec 64) (w : World) :
    Calls Tryz.prog 60 #[.int .u64 (bvI m)] w fun e w' => e = .returned (.int .u64 (bvI (m >>> 8))) ∧ w = w' := by
  go_enter Tryz.func60, Tryz.ntmps60
  go_wp2_with (refine wpList_yield rfl (run_shr_bv (a := m) (k := 8) (κ := .u64) rfl rfl rfl (by decide)) ?_)
  go_ret
  exact ⟨rfl, rfl⟩

theorem southward_any (m : BitVec 64) (w : World) :
    Calls Tryz.prog 63 #[.int .u64 (bvI m)] w fun e w' => e = .returned (.int .u64 (bvI (m <<< 8))) ∧ w = w' := by
  go_enter Tryz.func63, Tryz.ntmps63
  go_wp2_with (refine wpList_yield rfl (run_shl_bv (a := m) (k := 8) (κ := .u64) rfl rfl rfl (by decide)) ?_)
  go_ret
  exact ⟨rfl, rfl⟩

theorem westward_any (m : BitVec 64) (w : World) :
    Calls Tryz.prog 61 #[.int .u64 (bvI m)] w fun e w' => e = .returned (.int .u64 (bvI ((m &&& ~~~westM) >>> 1))) ∧ w = w' := by
  go_enter Tryz.func61, Tryz.ntmps61
  go_wp2_with (first | (refine wpList_yield rfl (run_andNot_bv (a := m) (b := westM) rfl rfl rfl) ?_) | (refine wpList_yield rfl (run_shr_bv (a := m &&& ~~~westM) (k := 1) (κ := .u64) rfl rfl rfl (by decide)) ?_))
  go_ret
  exact ⟨rfl, rfl⟩

theorem eastward_any (m : BitVec 64) (w : World) :
    Calls Tryz.prog 62 #[.int .u64 (bvI m)] w fun e w' => e = .returned (.int .u64 (bvI ((m &&& ~~~eastM) <<< 1))) ∧ w = w' := by
  go_enter Tryz.func62, Tryz.ntmps62
  go_wp2_with (first | (refine wpList_yield rfl (run_andNot_bv (a := m) (b := eastM) rfl rfl rfl) ?_) | (refine wpList_yield rfl (run_shl_bv (a := m &&& ~~~eastM) (k := 1) (κ := .u64) rfl rfl rfl (by decide)) ?_))
  go_ret
  exact ⟨rfl, rfl⟩
end Go.Proofs.YtiinkfnamhcekaaGreatDoor

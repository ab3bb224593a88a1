/-
  Bits of numbers: what shifts, and, or and 'and not' give, for 32 and 64 bits. Of whatever program; each theorem names its own condition.
-/
import Derived.Test.YtmphmpddlgcofaaDoorMaskT
namespace Go.Proofs.YtmphmpddlgcofaaDoor
open Go.RowKit

section
variable {P : Program}
theorem run_shr32 {ρ : Operand → Value} {o : Oper} {w : World} {T T2 : TypeId} {x y : Operand} {κ : IntKind} {m k : Nat} (ho : o.op = .binOp .shr T x y T2) (hx : ρ x = .int .u32 (m : Int)) (hy : ρ y = .int κ (k : Int)) (hk : k < 32) :
    (execOp ρ o).run P w = .ok (.value (.int .u32 ((m / 2 ^ k : Nat) : Int))) w := by
  have h1 : ¬ (k : Int) < 0 := by omega
  have h2 : min k 32 = k := by omega
  unfold execOp
  simp [ho, hx, hy, binOp, Op.shift, h1, h2, IntKind.bits, eqGuard]
theorem run_shr64 {ρ : Operand → Value} {o : Oper} {w : World} {T T2 : TypeId} {x y : Operand} {κ : IntKind} {m k : Nat} (ho : o.op = .binOp .shr T x y T2) (hx : ρ x = .int .u64 (m : Int)) (hy : ρ y = .int κ (k : Int)) (hk : k < 64) :
    (execOp ρ o).run P w = .ok (.value (.int .u64 ((m / 2 ^ k : Nat) : Int))) w := by
  have h1 : ¬ (k : Int) < 0 := by omega
  have h2 : min k 64 = k := by omega
  unfold execOp
  simp [ho, hx, hy, binOp, Op.shift, h1, h2, IntKind.bits, eqGuard]
theorem two_pow_lt32 {k : Nat} (hk : k < 32) : 2 ^ k < 4294967296 :=
  Nat.lt_of_lt_of_le (Nat.pow_lt_pow_right (by omega) hk) (by decide)
theorem run_shl32 {ρ : Operand → Value} {o : Oper} {w : World} {T T2 : TypeId} {x y : Operand} {κ : IntKind} {k : Nat} (ho : o.op = .binOp .shl T x y T2) (hx : ρ x = .int .u32 1) (hy : ρ y = .int κ (k : Int)) (hk : k < 32) :
    (execOp ρ o).run P w = .ok (.value (.int .u32 ((2 ^ k : Nat) : Int))) w := by
  have h1 : ¬ (k : Int) < 0 := by omega
  have h2 : min k 32 = k := by omega
  have h3 : IntKind.u32.wrap ((2 : Int) ^ k) = (2 : Int) ^ k := by
    rw [IntKind.wrap_u32]
    have := two_pow_lt32 hk
    have e : ((2 : Int) ^ k) = ((2 ^ k : Nat) : Int) := by norm_cast
    rw [e]
    clear h2 h1 e
    generalize (2 ^ k : Nat) = b at *
    omega
  unfold execOp
  simp [ho, hx, hy, binOp, Op.shift, h1, h2, IntKind.bits, h3, eqGuard]
theorem run_or32 {ρ : Operand → Value} {o : Oper} {w : World} {T T2 : TypeId} {x y : Operand} {m n : Nat} (ho : o.op = .binOp .or T x y T2) (hx : ρ x = .int .u32 (m : Int)) (hy : ρ y = .int .u32 (n : Int)) (hm : m < 4294967296) (hn : n < 4294967296) :
    (execOp ρ o).run P w = .ok (.value (.int .u32 ((m ||| n : Nat) : Int))) w := by
  have hb : (BitVec.ofNat 32 m ||| BitVec.ofNat 32 n).toNat = m ||| n := by
    simp [BitVec.toNat_or, Nat.mod_eq_of_lt hm, Nat.mod_eq_of_lt hn]
  have hlt : m ||| n < 2 ^ 32 := Nat.or_lt_two_pow hm hn
  have hw : IntKind.u32.wrap ((m ||| n : Nat) : Int) = ((m ||| n : Nat) : Int) := by
    rw [IntKind.wrap_u32]; omega
  unfold execOp
  simp [ho, hx, hy, binOp, Op.intBits, IntKind.bits, eqGuard]
  show IntKind.u32.wrap (((BitVec.ofNat 32 m ||| BitVec.ofNat 32 n).toNat : Nat) : Int) = _
  rw [hb, hw]
theorem run_and1b {ρ : Operand → Value} {o : Oper} {w : World} {T T2 : TypeId} {x y : Operand} {m c : Nat} (ho : o.op = .binOp .and T x y T2) (hx : ρ x = .int .u64 (m : Int)) (hy : ρ y = .int .u64 1) (hm : m < 18446744073709551616) (hc : m % 2 = c) :
    (execOp ρ o).run P w = .ok (.value (.int .u64 (c : Int))) w := by
  have hb : (BitVec.ofNat 64 m &&& 1#64).toNat = c := by
    rw [BitVec.toNat_and]
    have e : (1#64).toNat = 1 := by decide
    rw [e, BitVec.toNat_ofNat, Nat.mod_eq_of_lt hm, Nat.and_one_is_mod, hc]
  have hw : IntKind.u64.wrap ((c : Nat) : Int) = ((c : Nat) : Int) := by
    rw [IntKind.wrap_u64]; omega
  unfold execOp
  simp [ho, hx, hy, binOp, Op.intBits, IntKind.bits, eqGuard]
  show IntKind.u64.wrap (((BitVec.ofNat 64 m &&& 1#64).toNat : Nat) : Int) = _
  rw [hb]
  simpa using hw
/-- A number of 32 bits without its lowest 24. -/
theorem high24 {m : Nat} (hm : m < 4294967296) : (BitVec.ofNat 32 m &&& ~~~ BitVec.ofNat 32 16777215).toNat = m / 16777216 * 16777216 := by
  have e : (m / 16777216 * 16777216) = (m >>> 24) <<< 24 := by rw [Nat.shiftLeft_eq, Nat.shiftRight_eq_div_pow]
  rw [e]
  apply Nat.eq_of_testBit_eq
  intro i
  rw [Nat.testBit_shiftLeft, Nat.testBit_shiftRight, BitVec.testBit_toNat, BitVec.getLsbD_and, BitVec.getLsbD_not, BitVec.getLsbD_ofNat, BitVec.getLsbD_ofNat]
  have e2 : (16777215 : Nat) = 2 ^ 24 - 1 := by decide
  rw [e2, Nat.testBit_two_pow_sub_one]
  by_cases h : 24 ≤ i
  · have h3 : 24 + (i - 24) = i := by omega
    have h4 : ¬ i < 24 := by omega
    rw [h3]
    by_cases h5 : i < 32
    · simp [h, h4, h5]
    · have : m.testBit i = false := Nat.testBit_lt_two_pow (Nat.lt_of_lt_of_le hm (Nat.le_trans (by decide : 4294967296 ≤ 2 ^ 32) (Nat.pow_le_pow_right (by omega) (by omega))))
      simp [h5, this]
  · have h4 : i < 24 := by omega
    simp [h, h4]
theorem run_andNot24 {ρ : Operand → Value} {o : Oper} {w : World} {T T2 : TypeId} {x y : Operand} {m : Nat} (ho : o.op = .binOp .andNot T x y T2) (hx : ρ x = .int .u32 (m : Int)) (hy : ρ y = .int .u32 16777215) (hm : m < 4294967296) :
    (execOp ρ o).run P w = .ok (.value (.int .u32 ((m / 16777216 * 16777216 : Nat) : Int))) w := by
  have hb := high24 hm
  have hw : IntKind.u32.wrap ((m / 16777216 * 16777216 : Nat) : Int) = ((m / 16777216 * 16777216 : Nat) : Int) := by
    rw [IntKind.wrap_u32]; omega
  unfold execOp
  simp only [ho, hx, hy]
  simp [binOp, Op.intBits, IntKind.bits, eqGuard]
  show IntKind.u32.wrap (((BitVec.ofNat 32 m &&& ~~~ BitVec.ofNat 32 16777215).toNat : Nat) : Int) = _
  rw [hb, hw]
  simp
end

/-- The bit of a number. -/
theorem bit_div (m k : Nat) : m / 2 ^ k % 2 = if m.testBit k = true then 1 else 0 := by
  rw [Nat.testBit_eq_decide_div_mod_eq]
  by_cases h : m / 2 ^ k % 2 = 1
  · simp [h]
  · have : m / 2 ^ k % 2 = 0 := by omega
    simp [this]

theorem bitOfS_any (k : Nat) (hk : k < 64) (w : World) : Calls Tryd.prog 151 #[.int .i64 (k : Int)] w fun e w' => e = .returned (.int .u64 ((2 ^ k : Nat) : Int)) ∧ w = w' := by
  go_enter Tryd.func151, Tryd.ntmps151
  go_wp2_with (refine wpList_shl1 (κ := .i64) (k := k) _ _ rfl rfl rfl rfl hk ?_)
  go_ret
  exact ⟨rfl, rfl⟩

set_option maxHeartbeats 1000000 in
theorem hasCellS_any (M c : Nat) (hM : M < 18446744073709551616) (hc : c < 64) (w : World) : Calls Tryd.prog 152 #[.int .u64 (M : Int), .int .i64 (c : Int)] w fun e w' => e = .returned (.bool (M.testBit c)) ∧ w = w' := by
  have hdl : M / 2 ^ c < 18446744073709551616 := Nat.lt_of_le_of_lt (Nat.div_le_self _ _) hM
  rcases hb : M.testBit c with _ | _
  · have hc2 : M / 2 ^ c % 2 = 0 := by rw [bit_div, hb]; rfl
    have Hc := Lib.hid hc2; clear hc2 hb
    go_enter Tryd.func152, Tryd.ntmps152
    go_wp2_with (first | (refine wpList_yield rfl (run_shr64 (κ := .i64) (m := M) (k := c) rfl rfl rfl hc) ?_) | (refine wpList_yield rfl (run_and1b (m := M / 2 ^ c) (c := 0) rfl rfl rfl hdl Hc.out) ?_))
    go_ret
    exact ⟨rfl, rfl⟩
  · have hc2 : M / 2 ^ c % 2 = 1 := by rw [bit_div, hb]; rfl
    have Hc := Lib.hid hc2; clear hc2 hb
    go_enter Tryd.func152, Tryd.ntmps152
    go_wp2_with (first | (refine wpList_yield rfl (run_shr64 (κ := .i64) (m := M) (k := c) rfl rfl rfl hc) ?_) | (refine wpList_yield rfl (run_and1b (m := M / 2 ^ c) (c := 1) rfl rfl rfl hdl Hc.out) ?_))
    go_ret
    exact ⟨rfl, rfl⟩

set_option maxHeartbeats 400000 in
theorem fieldHas_any (M k : Nat) (hM : M < 4294967296) (hk : k < 24) (w : World) : Calls Tryd.prog 136 #[.int .u32 (M : Int), .int .i64 (k : Int)] w fun e w' => e = .returned (.bool (M.testBit k)) ∧ w = w' := by
  have hh := fun W => hasCellS_any M k (by omega) (by omega) W
  have Hh := Lib.hid hh; clear hh
  go_enter Tryd.func136, Tryd.ntmps136
  go_wp2_with fail
  refine (Hh.out _).mono ?_; rintro e w1 ⟨rfl, rfl⟩
  go_wp2_with fail
  go_ret
  exact ⟨rfl, rfl⟩

/-- A bit as a number. -/
def bitS (M k : Nat) : Int := if M.testBit k = true then 1 else 0

set_option maxHeartbeats 400000 in
theorem fieldWeight_any (M k : Nat) (hM : M < 4294967296) (hk : k < 24) (w : World) : Calls Tryd.prog 164 #[.int .u32 (M : Int), .int .i64 (k : Int)] w fun e w' => e = .returned (.int .i64 (bitS M k)) ∧ w = w' := by
  have hh := fun W => fieldHas_any M k hM hk W
  unfold bitS
  rcases hb : M.testBit k with _ | _
  all_goals
    rw [hb] at hh
    have Hh := Lib.hid hh; clear hh hb
    go_enter Tryd.func164, Tryd.ntmps164
    go_wp2_with fail
    refine (Hh.out _).mono ?_; rintro e w1 ⟨rfl, rfl⟩
    go_wp2_with fail
    go_ret
    exact ⟨rfl, rfl⟩

theorem fieldOf_any (k : Nat) (hk : k < 24) (w : World) : Calls Tryd.prog 135 #[.int .i64 (k : Int)] w fun e w' => e = .returned (.int .u32 ((2 ^ k : Nat) : Int)) ∧ w = w' := by
  have hh := fun W => bitOfS_any k (by omega) W
  have h2 : 2 ^ k < 4294967296 := two_pow_lt32 (by omega)
  generalize 2 ^ k = B at *
  have Hh := Lib.hid hh; clear hh
  go_enter Tryd.func135, Tryd.ntmps135
  go_wp2_with fail
  refine (Hh.out _).mono ?_; rintro e w1 ⟨rfl, rfl⟩
  go_wp2_with fail
  go_ret
  exact ⟨rfl, rfl⟩

theorem isOfScene_any (M : Nat) (hM : M < 4294967296) (w : World) : Calls Tryd.prog 162 #[.int .u32 (M : Int)] w fun e w' => e = .returned (.bool (decide (M < 16777216))) ∧ w = w' := by
  have h1 : (((M / 16777216 * 16777216 : Nat) : Int) == 0) = decide (M < 16777216) := by
    by_cases h : M < 16777216
    · have : M / 16777216 * 16777216 = 0 := by omega
      simp [h, this]
    · have h2 : ((M / 16777216 * 16777216 : Nat) : Int) ≠ 0 := by omega
      simp only [h, decide_false]
      exact beq_eq_false_iff_ne.2 h2
  have H1 := Lib.hid h1; clear h1
  go_enter Tryd.func162, Tryd.ntmps162
  go_wp2_with (refine wpList_yield rfl (run_andNot24 (m := M) rfl rfl rfl hM) ?_)
  go_ret
  exact ⟨ret_bool (by first | exact H1.out | (rw [← H1.out]; simp)), rfl⟩
end Go.Proofs.YtmphmpddlgcofaaDoor

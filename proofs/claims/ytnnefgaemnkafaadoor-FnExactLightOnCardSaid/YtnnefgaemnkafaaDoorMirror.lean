/-
  Masks turned around: what both sides' functions return. Condition: masks of 64 bits.
-/
import Derived.Test.YtnnefgaemnkafaaDoorMirBits
namespace Go.Proofs.YtnnefgaemnkafaaDoor
open Go.RowKit

set_option maxHeartbeats 1000000 in
theorem ReverseBytes64_any (b : BitVec 64) (w : World) : Calls Tryd.prog 85 #[bvV b] w fun e w' => e = .returned (bvV (revBytes b)) ∧ w = w' := by
  go_enter Tryd.func85, Tryd.ntmps85
  go_wp2_with (first | (refine wpList_yield rfl (run_bvshr (κ := .u64) (s := 8) rfl rfl rfl (by decide)) ?_) | (refine wpList_yield rfl (run_bvshr (κ := .u64) (s := 16) rfl rfl rfl (by decide)) ?_) | (refine wpList_yield rfl (run_bvshr (κ := .u64) (s := 32) rfl rfl rfl (by decide)) ?_) | (refine wpList_yield rfl (run_bvand (M := m3) rfl rfl rfl) ?_) | (refine wpList_yield rfl (run_bvand (M := m4) rfl rfl rfl) ?_) | (refine wpList_yield rfl (run_bvshl (κ := .u64) (s := 8) rfl rfl rfl (by decide)) ?_) | (refine wpList_yield rfl (run_bvshl (κ := .u64) (s := 16) rfl rfl rfl (by decide)) ?_) | (refine wpList_yield rfl (run_bvshl (κ := .u64) (s := 32) rfl rfl rfl (by decide)) ?_) | (refine wpList_yield rfl (run_bvor rfl rfl rfl) ?_))
  go_ret
  exact ⟨rfl, rfl⟩

set_option maxHeartbeats 1000000 in
theorem Reverse64_any (b : BitVec 64) (w : World) : Calls Tryd.prog 86 #[bvV b] w fun e w' => e = .returned (bvV (rev64 b)) ∧ w = w' := by
  go_enter Tryd.func86, Tryd.ntmps86
  go_wp2_with (first | (go_at_call 85; refine (ReverseBytes64_any _ _).mono ?_; rintro e w' ⟨rfl, rfl⟩) | (first | (refine wpList_yield rfl (run_bvshr (κ := .u64) (s := 1) rfl rfl rfl (by decide)) ?_) | (refine wpList_yield rfl (run_bvshr (κ := .u64) (s := 2) rfl rfl rfl (by decide)) ?_) | (refine wpList_yield rfl (run_bvshr (κ := .u64) (s := 4) rfl rfl rfl (by decide)) ?_) | (refine wpList_yield rfl (run_bvand (M := m0) rfl rfl rfl) ?_) | (refine wpList_yield rfl (run_bvand (M := m1) rfl rfl rfl) ?_) | (refine wpList_yield rfl (run_bvand (M := m2) rfl rfl rfl) ?_) | (refine wpList_yield rfl (run_bvshl (κ := .u64) (s := 1) rfl rfl rfl (by decide)) ?_) | (refine wpList_yield rfl (run_bvshl (κ := .u64) (s := 2) rfl rfl rfl (by decide)) ?_) | (refine wpList_yield rfl (run_bvshl (κ := .u64) (s := 4) rfl rfl rfl (by decide)) ?_) | (refine wpList_yield rfl (run_bvor rfl rfl rfl) ?_)))
  go_ret
  exact ⟨rfl, rfl⟩

theorem mirrorMask_any (m : Nat) (hm : m < 18446744073709551616) (w : World) : Calls Tryd.prog 68 #[.int .u64 (m : Int)] w fun e w' => e = .returned (.int .u64 ((mirN m : Nat) : Int)) ∧ w = w' := by
  have e1 : (m : Int) = (((BitVec.ofNat 64 m).toNat : Nat) : Int) := by rw [BitVec.toNat_ofNat, Nat.mod_eq_of_lt hm]
  have e2 : mirN m = (revBytes (rev64 (BitVec.ofNat 64 m))).toNat := by rw [rev_mirN, BitVec.toNat_ofNat, Nat.mod_eq_of_lt hm]
  rw [e2, e1]
  generalize BitVec.ofNat 64 m = b
  clear e1 e2 hm
  go_enter Tryd.func68, Tryd.ntmps68
  go_wp2_with fail
  refine (Reverse64_any b _).mono ?_; rintro e w1 ⟨rfl, rfl⟩
  go_wp2_with fail
  refine (ReverseBytes64_any _ _).mono ?_; rintro e w1 ⟨rfl, rfl⟩
  go_wp2_with fail
  go_ret
  exact ⟨rfl, rfl⟩

theorem run_and1c {P : Program} {ρ : Operand → Value} {o : Oper} {w : World} {T T2 : TypeId} {x y : Operand} {m c : Nat} (ho : o.op = .binOp .and T x y T2) (hx : ρ x = .int .u64 (m : Int)) (hy : ρ y = .int .u64 1) (hm : m < 18446744073709551616) (hc : m % 2 = c) :
    (execOp ρ o).run P w = .ok (.value (.int .u64 (c : Int))) w := by
  have h := run_bvand (P := P) (ρ := ρ) (w := w) (b := BitVec.ofNat 64 m) (M := 1#64) ho (by rw [hx]; simp [Nat.mod_eq_of_lt hm]) (by rw [hy]; rfl)
  rw [h]
  have e : (BitVec.ofNat 64 m &&& 1#64).toNat = c := by
    rw [BitVec.toNat_and]
    have e : (1#64).toNat = 1 := by decide
    rw [e, BitVec.toNat_ofNat, Nat.mod_eq_of_lt hm, Nat.and_one_is_mod, hc]
  show Result.ok (Next.value (Value.int .u64 (((BitVec.ofNat 64 m &&& 1#64).toNat : Nat) : Int))) w = _
  rw [e]
theorem run_shrM {P : Program} {ρ : Operand → Value} {o : Oper} {w : World} {T T2 : TypeId} {x y : Operand} {κ : IntKind} {m k : Nat} (ho : o.op = .binOp .shr T x y T2) (hx : ρ x = .int .u64 (m : Int)) (hy : ρ y = .int κ (k : Int)) (hk : k < 64) :
    (execOp ρ o).run P w = .ok (.value (.int .u64 ((m / 2 ^ k : Nat) : Int))) w := by
  have h1 : ¬ (k : Int) < 0 := by omega
  have h2 : min k 64 = k := by omega
  unfold execOp
  simp [ho, hx, hy, binOp, Op.shift, h1, h2, IntKind.bits, eqGuard]

set_option maxHeartbeats 1000000 in
theorem l03Mirror_any (m : Nat) (hm : m < 18446744073709551616) (w : World) : Calls Tryd.prog 45 #[.int .u64 (m : Int)] w fun e w' => e = .returned (.int .u64 ((mirN m : Nat) : Int)) ∧ w = w' := by
  have hfin : ∀ M : Nat, (∀ j, M.testBit j = (decide (j < 64) && (decide (mirQ j < 64) && m.testBit (mirQ j)))) → M = mirN m := fun M h => maskN_of_bits fun j => by
    rw [h j]
    by_cases hj : j < 64
    · simp [mirQ_lt hj]
    · simp [hj]
  have Hfin := Lib.hid hfin; clear hfin
  have Hm := Lib.hid hm
  generalize mirN m = R at *
  go_enter Tryd.func45, Tryd.ntmps45
  go_wp2_with fail
  go_loop [3, 4] (fun o i => ∃ M k : Nat, k ≤ 64 ∧ i = .int .i64 (k : Int) ∧ o = .int .u64 (M : Int) ∧ M < 18446744073709551616 ∧ ∀ j, M.testBit j = (decide (j < 64) && (decide (mirQ j < k) && m.testBit (mirQ j)))) (fun _ i => 64 - (intOf i).toNat)
  case atStart => exact ⟨0, 0, by omega, rfl, rfl, by decide, fun j => by simp⟩
  case round =>
    obtain ⟨M, k, hk, rfl, rfl, hM, hj⟩ := hrel
    have HM := Lib.hid hM; clear hM
    have HJ := Lib.hid hj; clear hj
    by_cases hkn : k < 64
    · have hdl : m / 2 ^ k < 18446744073709551616 := Nat.lt_of_le_of_lt (Nat.div_le_self _ _) Hm.out
      have Hdl := Lib.hid hdl; clear hdl
      have hq : mirQ k < 64 := mirQ_lt hkn
      have h2 := Lib.hid (two_pow_lt64 hq)
      have e1 : (k : Int) / 8 * 8 + 7 - (k : Int) % 8 = ((mirQ k : Nat) : Int) := by unfold mirQ; omega
      have hmm : mirQ (mirQ k) = k := mirQ_mirQ
      have Hmm := Lib.hid hmm; clear hmm
      have hmk : ∀ j, mirQ j = k ↔ j = mirQ k := fun j => ⟨fun h => by rw [← h, mirQ_mirQ], fun h => by rw [h, mirQ_mirQ]⟩
      have Hmk := Lib.hid hmk; clear hmk
      have HS := Lib.hid (fun (j : Nat) => (Nat.lt_succ_iff_lt_or_eq : mirQ j < k + 1 ↔ mirQ j < k ∨ mirQ j = k))
      rcases hb : m.testBit k with _ | _
      · have hc : m / 2 ^ k % 2 = 0 := by
          rw [Nat.testBit_eq_decide_div_mod_eq] at hb
          have := of_decide_eq_false hb; omega
        have Hc := Lib.hid hc; clear hc
        have Hb := Lib.hid hb; clear hb e1
        generalize mirQ k = q at *
        go_wp2_with (first | (refine wpList_yield rfl (run_shrM (κ := .u64) (m := m) (k := k) rfl rfl rfl hkn) ?_) | (refine wpList_yield rfl (run_and1c (m := m / 2 ^ k) (c := 0) rfl rfl rfl Hdl.out Hc.out) ?_))
        go_round
        case rel => exact ⟨M, k + 1, by omega, by go_num, rfl, HM.out, fun j => by
          rw [HJ.out j]
          by_cases h : mirQ j = k
          · have h3 : ¬ mirQ j < k := by omega
            rw [h, Hb.out]; simp
          · have h3 : mirQ j < k + 1 ↔ mirQ j < k := by omega
            simp [h3]⟩
        case measure => simp [intOf]; omega
      · have hc : m / 2 ^ k % 2 = 1 := by
          rw [Nat.testBit_eq_decide_div_mod_eq] at hb
          exact of_decide_eq_true hb
        have Hc := Lib.hid hc; clear hc
        have Hb := Lib.hid hb; clear hb
        generalize mirQ k = q at *
        go_wp2_with (first | (refine wpList_yield rfl (run_shrM (κ := .u64) (m := m) (k := k) rfl rfl rfl hkn) ?_) | (refine wpList_yield rfl (run_and1c (m := m / 2 ^ k) (c := 1) rfl rfl rfl Hdl.out Hc.out) ?_) | (refine wpList_shl1 (κ := .u64) (k := q) _ _ rfl rfl rfl rfl hq ?_) | (refine wpList_or _ _ rfl rfl rfl rfl HM.out h2.out ?_))
        go_round
        case rel => exact ⟨M ||| 2 ^ q, k + 1, by omega, by go_num, rfl, Nat.or_lt_two_pow (n := 64) HM.out h2.out, fun j => by
          rw [Nat.testBit_or, HJ.out j, Nat.testBit_two_pow]
          by_cases h : mirQ j = k
          · have h4 : j = q := (Hmk.out j).1 h
            subst h4
            rw [h, Hb.out]; simp [hq]
          · have h3 : mirQ j < k + 1 ↔ mirQ j < k := by omega
            have h4 : ¬ q = j := fun h5 => h ((Hmk.out j).2 h5.symm)
            simp [h3, h4]⟩
        case measure => simp [intOf]; omega
    · obtain rfl : k = 64 := by omega
      obtain rfl := Hfin.out M HJ.out
      go_wp2_with fail
      go_ret
      exact ⟨rfl, rfl⟩
end Go.Proofs.YtnnefgaemnkafaaDoor

/-
  How many cells a mask has; whether a cell lies in it. Condition: the mask is one of 64 bits.
-/
import Derived.Test.YtfnefeaplghgcaaDoorMaskT
namespace Go.Proofs.YtfnefeaplghgcaaDoor
open Go.RowKit

/-- The bits among the first n. -/
def cntF : Nat → Nat → Nat
  | 0, _ => 0
  | n + 1, m => m % 2 + cntF n (m / 2)
theorem cntF_0 : ∀ n, cntF n 0 = 0
  | 0 => rfl
  | n + 1 => by rw [cntF, cntF_0 n]
theorem cntF_le : ∀ n m, cntF n m ≤ n
  | 0, _ => Nat.le_refl _
  | n + 1, m => by
    have := cntF_le n (m / 2)
    rw [cntF]; omega
section
variable {P : Program}
theorem run_and1 {ρ : Operand → Value} {o : Oper} {w : World} {T T2 : TypeId} {x y : Operand} {m : Nat} (ho : o.op = .binOp .and T x y T2) (hx : ρ x = .int .u64 (m : Int)) (hy : ρ y = .int .u64 1) (hm : m < 18446744073709551616) :
    (execOp ρ o).run P w = .ok (.value (.int .u64 ((m % 2 : Nat) : Int))) w := by
  have hb : (BitVec.ofNat 64 m &&& 1#64).toNat = m % 2 := by
    rw [BitVec.toNat_and]
    have e : (1#64).toNat = 1 := by decide
    rw [e, BitVec.toNat_ofNat, Nat.mod_eq_of_lt hm, Nat.and_one_is_mod]
  have hw : IntKind.u64.wrap ((m % 2 : Nat) : Int) = ((m % 2 : Nat) : Int) := by
    rw [IntKind.wrap_u64]; omega
  unfold execOp
  simp [ho, hx, hy, binOp, Op.intBits, IntKind.bits, eqGuard]
  show IntKind.u64.wrap (((BitVec.ofNat 64 m &&& 1#64).toNat : Nat) : Int) = _
  rw [hb]
  simpa using hw
theorem run_shrN {ρ : Operand → Value} {o : Oper} {w : World} {T T2 : TypeId} {x y : Operand} {κ : IntKind} {m k : Nat} (ho : o.op = .binOp .shr T x y T2) (hx : ρ x = .int .u64 (m : Int)) (hy : ρ y = .int κ (k : Int)) (hk : k < 64) :
    (execOp ρ o).run P w = .ok (.value (.int .u64 ((m / 2 ^ k : Nat) : Int))) w := by
  have h1 : ¬ (k : Int) < 0 := by omega
  have h2 : min k 64 = k := by omega
  unfold execOp
  simp [ho, hx, hy, binOp, Op.shift, h1, h2, IntKind.bits, eqGuard]
end

set_option maxHeartbeats 1000000 in
theorem l07Count_any (m : Nat) (hm : m < 18446744073709551616) (w : World) :
    Calls Tryd.prog 35 #[.int .u64 (m : Int)] w fun e w' => e = .returned (.int .i64 ((cntF 64 m : Nat) : Int)) ∧ w = w' := by
  have h64 : cntF 64 m ≤ 64 := cntF_le 64 m
  have HM := Lib.hid hm; clear hm
  obtain ⟨R, hR⟩ : ∃ R, R = cntF 64 m := ⟨_, rfl⟩
  rw [← hR] at h64 ⊢
  have HR := Lib.hid hR; clear hR
  go_enter Tryd.func35, Tryd.ntmps35
  go_wp2_with fail
  go_loop [0, 3] (fun t c => ∃ n k d : Nat, t = .int .u64 (k : Int) ∧ c = .int .i64 (d : Int) ∧ k < 2 ^ n ∧ n ≤ 64 ∧ d + cntF n k = R) (fun t _ => (intOf t).toNat)
  case atStart => exact ⟨64, m, 0, rfl, rfl, HM.out, by omega, by rw [HR.out]; omega⟩
  case round =>
    obtain ⟨n, k, d, rfl, rfl, hk, hn, hd⟩ := hrel
    by_cases h0 : k = 0
    · subst h0
      have hdR : d = R := by rw [← hd, cntF_0]; rfl
      subst hdR
      clear hk hd
      go_wp2_with fail
      go_ret
      exact ⟨rfl, rfl⟩
    · obtain ⟨n', rfl⟩ : ∃ n', n = n' + 1 := ⟨n - 1, by rcases n with _ | n <;> simp_all⟩
      have hk64 : k < 18446744073709551616 := Nat.lt_of_lt_of_le hk (Nat.le_trans (Nat.pow_le_pow_right (by omega) hn) (by decide))
      have hd2 : d + k % 2 + cntF n' (k / 2) = R := by rw [← hd, cntF]; omega
      have hk2 : k / 2 < 2 ^ n' := by rw [Nat.pow_succ] at hk; omega
      have hne : ((k : Int) != 0) = true := by simp; omega
      have hlt : k / 2 < k := by omega
      have HK := Lib.hid (And.intro hk64 (And.intro hd2 hk2))
      clear hk hd hk64 hd2 hk2
      have hdR : d ≤ 64 := by have := HK.out.2.1; omega
      go_wp2_with (first | (refine wpList_yield rfl (run_and1 (m := k) rfl rfl rfl HK.out.1) ?_) | (refine wpList_yield rfl (run_shrN (κ := .u64) (m := k) (k := 1) rfl rfl rfl (by decide)) ?_))
      go_round
      case rel => exact ⟨n', k / 2, d + k % 2, by simp, by go_num, HK.out.2.2, by omega, HK.out.2.1⟩
      case measure => simp [intOf]; omega

theorem CellsIn_any (m : Nat) (hm : m < 18446744073709551616) (w : World) :
    Calls Tryd.prog 17 #[.int .u64 (m : Int)] w fun e w' => e = .returned (.int .i64 ((cntF 64 m : Nat) : Int)) ∧ w = w' := by
  have hc := fun V => l07Count_any m hm V
  have Hc := Lib.hid hc; clear hc hm
  go_enter Tryd.func17, Tryd.ntmps17
  go_wp2_with fail
  refine (Hc.out _).mono ?_; rintro e w1 ⟨rfl, rfl⟩
  go_wp2_with fail
  go_ret
  exact ⟨rfl, rfl⟩
end Go.Proofs.YtfnefeaplghgcaaDoor

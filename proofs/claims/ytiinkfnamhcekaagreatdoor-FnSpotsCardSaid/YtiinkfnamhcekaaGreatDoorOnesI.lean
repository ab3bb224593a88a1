/-
  How many cells a mask has, by the library's OnesCount64: its contract. Of whatever mask; no condition.
-/
import Derived.Test.YtiinkfnamhcekaaGreatDoorOnes
namespace Go.Proofs.YtiinkfnamhcekaaGreatDoor
open Go.RowKit

theorem run_add_bv {P : Program} {ρ : Operand → Value} {o : Oper} {w : World} {T T2 : TypeId} {x y : Operand} {a b : BitVec 64} (ho : o.op = .binOp .add T x y T2) (hx : ρ x = .int .u64 (bvI a)) (hy : ρ y = .int .u64 (bvI b)) :
    (execOp ρ o).run P w = .ok (.value (.int .u64 (bvI (a + b)))) w := by
  have hw : IntKind.u64.wrap (bvI a + bvI b) = bvI (a + b) := by
    unfold bvI
    rw [IntKind.wrap_u64, BitVec.toNat_add]; omega
  unfold execOp
  simp only [ho, hx, hy]
  simp [binOp, Op.intArith, eqGuard, hw]
theorem run_and127 {P : Program} {ρ : Operand → Value} {o : Oper} {w : World} {T T2 : TypeId} {x y : Operand} {m c : Nat} (ho : o.op = .binOp .and T x y T2) (hx : ρ x = .int .i64 (m : Int)) (hy : ρ y = .int .i64 127) (hm : m < 9223372036854775808) (hc : m % 128 = c) :
    (execOp ρ o).run P w = .ok (.value (.int .i64 (c : Int))) w := by
  have hb : (BitVec.ofNat 64 m &&& BitVec.ofNat 64 127).toNat = c := by
    rw [BitVec.toNat_and, BitVec.toNat_ofNat, BitVec.toNat_ofNat, Nat.mod_eq_of_lt (by omega), ← hc]
    exact Nat.and_two_pow_sub_one_eq_mod m 7
  have hw : IntKind.i64.wrap ((c : Nat) : Int) = ((c : Nat) : Int) := IntWalk.i64_in _ (by omega)
  unfold execOp
  simp only [ho, hx, hy]
  simp [binOp, Op.intBits, IntKind.bits, eqGuard]
  show IntKind.i64.wrap (((BitVec.ofNat 64 m &&& BitVec.ofNat 64 127).toNat : Nat) : Int) = _
  rw [hb, hw]

set_option maxRecDepth 100000 in
set_option maxHeartbeats 2000000 in
theorem OnesCount64_any (a : BitVec 64) (w : World) :
    Calls Tryz.prog 47 #[.int .u64 (bvI a)] w fun e w' => e = .returned (.int .i64 ((cntB a 64 : Nat) : Int)) ∧ w = w' := by
  obtain ⟨h1, h2⟩ := ones_nat a
  have e1 : IntKind.i64.wrap (bvI (w6 (w5 (w4 (w3 (w2 (w1 a))))))) = (((onesB a).toNat : Nat) : Int) := by
    show IntKind.i64.wrap (((onesB a).toNat : Nat) : Int) = _
    exact IntWalk.i64_in _ (by omega)
  have H := Lib.hid (And.intro h1 h2); clear h1 h2
  have H1 := Lib.hid (show (a >>> 1 &&& 6148914691236517205#64) + (a &&& 6148914691236517205#64) = w1 a from rfl)
  have H2 := Lib.hid (fun X : BitVec 64 => show (X >>> 2 &&& 3689348814741910323#64) + (X &&& 3689348814741910323#64) = w2 X from rfl)
  have H3 := Lib.hid (fun X : BitVec 64 => show (X >>> 4 + X) &&& 1085102592571150095#64 = w3 X from rfl)
  have H4 := Lib.hid (fun X : BitVec 64 => show X + X >>> 8 = w4 X from rfl)
  have H5 := Lib.hid (fun X : BitVec 64 => show X + X >>> 16 = w5 X from rfl)
  have H6 := Lib.hid (fun X : BitVec 64 => show X + X >>> 32 = w6 X from rfl)
  go_enter Tryz.func47, Tryz.ntmps47
  go_wp2_with (first
    | (refine wpList_yield rfl (run_shr_bv (κ := .u64) (k := 1) rfl rfl rfl (by decide)) ?_)
    | (refine wpList_yield rfl (run_shr_bv (κ := .u64) (k := 2) rfl rfl rfl (by decide)) ?_)
    | (refine wpList_yield rfl (run_shr_bv (κ := .u64) (k := 4) rfl rfl rfl (by decide)) ?_)
    | (refine wpList_yield rfl (run_shr_bv (κ := .u64) (k := 8) rfl rfl rfl (by decide)) ?_)
    | (refine wpList_yield rfl (run_shr_bv (κ := .u64) (k := 16) rfl rfl rfl (by decide)) ?_)
    | (refine wpList_yield rfl (run_shr_bv (κ := .u64) (k := 32) rfl rfl rfl (by decide)) ?_)
    | (refine wpList_yield rfl (run_and_bv (b := 6148914691236517205#64) rfl rfl rfl) ?_)
    | (refine wpList_yield rfl (run_and_bv (b := 3689348814741910323#64) rfl rfl rfl) ?_)
    | (refine wpList_yield rfl (run_and_bv (b := 1085102592571150095#64) rfl rfl rfl) ?_; rw [H3.out])
    | (refine wpList_yield rfl (run_add_bv rfl rfl rfl) ?_; first | rw [H1.out] | rw [H2.out] | rw [H4.out] | rw [H5.out] | rw [H6.out] | skip)
    | (refine wpList_yield rfl (run_and127 (m := (onesB a).toNat) rfl rfl rfl H.out.1 H.out.2) ?_))
  go_ret
  exact ⟨rfl, rfl⟩

set_option maxHeartbeats 1000000 in
theorem count_any (a : BitVec 64) (w : World) :
    Calls Tryz.prog 82 #[.int .u64 (bvI a)] w fun e w' => e = .returned (.int .i64 ((cntB a 64 : Nat) : Int)) ∧ w = w' := by
  have H := Lib.hid (OnesCount64_any a w)
  have hb := cntB_le a 64
  generalize cntB a 64 = C at *
  go_enter Tryz.func82, Tryz.ntmps82
  go_wp2_with (go_at_call 47; refine H.out.mono ?_; rintro e w2 ⟨rfl, rfl⟩)
  go_ret
  exact ⟨rfl, rfl⟩
end Go.Proofs.YtiinkfnamhcekaaGreatDoor

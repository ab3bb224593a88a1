/-
  How many bits a number of 32 bits has: by the reference's loop and by the library's table. No condition of ours.
-/
import Derived.Test.YtaanboedhabheaaDoorCount
import Derived.Test.YtaanboedhabheaaDoorBit
import Derived.Test.YtaanboedhabheaaDoorQuietD
import Derived.Test.YtaanboedhabheaaDoorArrTools
import Derived.Lib.Tables
namespace Go.Proofs.YtaanboedhabheaaDoor
open Go.RowKit

theorem cntF_split : ∀ (a b m : Nat), cntF (a + b) m = cntF a (m % 2 ^ a) + cntF b (m / 2 ^ a)
  | 0, b, m => by simp [cntF]
  | a + 1, b, m => by
    rw [show a + 1 + b = (a + b) + 1 by omega]
    rw [cntF, cntF, cntF_split a b (m / 2)]
    have h1 : m % 2 ^ (a + 1) % 2 = m % 2 := by rw [Nat.pow_succ]; exact Nat.mod_mod_of_dvd m ⟨2 ^ a, by rw [Nat.mul_comm]⟩
    have h2 : m % 2 ^ (a + 1) / 2 = m / 2 % 2 ^ a := by
      rw [show 2 ^ (a + 1) = 2 * 2 ^ a by rw [Nat.pow_succ, Nat.mul_comm], Nat.mod_mul_right_div_self]
    have h3 : m / 2 ^ (a + 1) = m / 2 / 2 ^ a := by rw [show 2 ^ (a + 1) = 2 * 2 ^ a by rw [Nat.pow_succ, Nat.mul_comm], Nat.div_div_eq_div_mul]
    rw [h1, h2, h3]
    omega
theorem cntF_4 (m : Nat) (hm : m < 4294967296) : cntF 32 m = cntF 8 (m / 16777216) + cntF 8 (m / 65536 % 256) + cntF 8 (m / 256 % 256) + cntF 8 (m % 256) := by
  have h1 := cntF_split 8 24 m
  have h2 := cntF_split 8 16 (m / 256)
  have h3 := cntF_split 8 8 (m / 256 / 256)
  simp only [show (8 + 24 : Nat) = 32 from rfl, show (8 + 16 : Nat) = 24 from rfl, show (8 + 8 : Nat) = 16 from rfl, show (2 ^ 8 : Nat) = 256 from rfl] at h1 h2 h3
  have e1 : m / 256 / 256 = m / 65536 := by omega
  have e2 : m / 256 / 256 / 256 = m / 16777216 := by omega
  rw [e2] at h3
  rw [e1] at h2 h3
  omega
theorem pop8_cntF : ∀ n : Fin 256, Lib.pop8 (n.val : Int) = (cntF 8 n.val : Int) := by decide +kernel
theorem run_pop8 {P : Program} {ρ : Operand → Value} {o : Oper} {w : World} {T : TypeId} {x y : Operand} {s : ByteArray} {i : Nat} (hT : P.underlying T = some .string) (ho : o.op = .index T x y) (hx : ρ x = .string s) (hy : ρ y = .int .u32 (i : Int)) (hs : s = Lib.pop8tab) (hi : i < 256) :
    (execOp ρ o).run P w = .ok (.value (.int .u8 ((cntF 8 i : Nat) : Int))) w := by
  subst hs
  have h := Lib.run_index_pop8tab (P := P) w T .u32 (i : Int) hT (by omega) (by omega)
  have h2 := pop8_cntF ⟨i, hi⟩
  simp only at h2
  rw [h2] at h
  unfold execOp
  simp only [ho, hx, hy, Sem.run_bind, h, Result.andThen_ok, Sem.run_pure]
theorem run_and255 {P : Program} {ρ : Operand → Value} {o : Oper} {w : World} {T T2 : TypeId} {x y : Operand} {m c : Nat} (ho : o.op = .binOp .and T x y T2) (hx : ρ x = .int .u32 (m : Int)) (hy : ρ y = .int .u32 255) (hm : m < 4294967296) (hc : m % 256 = c) :
    (execOp ρ o).run P w = .ok (.value (.int .u32 (c : Int))) w := by
  have hb : (BitVec.ofNat 32 m &&& BitVec.ofNat 32 255).toNat = c := by
    rw [BitVec.toNat_and, BitVec.toNat_ofNat, BitVec.toNat_ofNat, Nat.mod_eq_of_lt hm, ← hc]
    exact Nat.and_two_pow_sub_one_eq_mod m 8
  have hw : IntKind.u32.wrap ((c : Nat) : Int) = ((c : Nat) : Int) := by
    rw [IntKind.wrap_u32]; omega
  unfold execOp
  simp only [ho, hx, hy]
  simp [binOp, Op.intBits, IntKind.bits, eqGuard]
  show IntKind.u32.wrap (((BitVec.ofNat 32 m &&& BitVec.ofNat 32 255).toNat : Nat) : Int) = _
  rw [hb, hw]
theorem run_add8 {P : Program} {ρ : Operand → Value} {o : Oper} {w : World} {T T2 : TypeId} {x y : Operand} {m n c : Nat} (ho : o.op = .binOp .add T x y T2) (hx : ρ x = .int .u8 (m : Int)) (hy : ρ y = .int .u8 (n : Int)) (hc : m + n = c) (hlt : c < 256) :
    (execOp ρ o).run P w = .ok (.value (.int .u8 (c : Int))) w := by
  have hw : IntKind.u8.wrap ((m : Int) + (n : Int)) = (c : Int) := by rw [IntKind.wrap_u8]; omega
  unfold execOp
  simp only [ho, hx, hy]
  simp [binOp, Op.intArith, eqGuard, hw]

set_option maxRecDepth 100000 in
set_option maxHeartbeats 2000000 in
theorem OnesCount32_any (m : Nat) (hm : m < 4294967296) (w : World) :
    Calls Tryd.prog 88 #[.int .u32 (m : Int)] w fun e w' => e = .returned (.int .i64 ((cntF 32 m : Nat) : Int)) ∧ Below w.heap.size w w' := by
  have hc := cntF_4 m hm
  have l1 := cntF_le 8 (m / 16777216)
  have l2 := cntF_le 8 (m / 65536 % 256)
  have l3 := cntF_le 8 (m / 256 % 256)
  have l4 := cntF_le 8 (m % 256)
  have hC := Lib.hid hc; clear hc
  have p1 := fun (P : Program) (ρ : Operand → Value) (o : Oper) (W : World) (T : TypeId) (x y : Operand) (s : ByteArray) hT ho hx hy hs => run_pop8 (P := P) (ρ := ρ) (o := o) (w := W) (T := T) (x := x) (y := y) (s := s) (i := m / 16777216) hT ho hx hy hs (by omega)
  have p2 := fun (P : Program) (ρ : Operand → Value) (o : Oper) (W : World) (T : TypeId) (x y : Operand) (s : ByteArray) hT ho hx hy hs => run_pop8 (P := P) (ρ := ρ) (o := o) (w := W) (T := T) (x := x) (y := y) (s := s) (i := m / 65536 % 256) hT ho hx hy hs (by omega)
  have p3 := fun (P : Program) (ρ : Operand → Value) (o : Oper) (W : World) (T : TypeId) (x y : Operand) (s : ByteArray) hT ho hx hy hs => run_pop8 (P := P) (ρ := ρ) (o := o) (w := W) (T := T) (x := x) (y := y) (s := s) (i := m / 256 % 256) hT ho hx hy hs (by omega)
  have p4 := fun (P : Program) (ρ : Operand → Value) (o : Oper) (W : World) (T : TypeId) (x y : Operand) (s : ByteArray) hT ho hx hy hs => run_pop8 (P := P) (ρ := ρ) (o := o) (w := W) (T := T) (x := x) (y := y) (s := s) (i := m % 256) hT ho hx hy hs (by omega)
  have P1 := Lib.hid p1; have P2 := Lib.hid p2; have P3 := Lib.hid p3; have P4 := Lib.hid p4
  clear p1 p2 p3 p4
  have hHM := Lib.hid hm
  generalize hn1 : cntF 8 (m / 16777216) = n1 at *
  generalize hn2 : cntF 8 (m / 65536 % 256) = n2 at *
  generalize hn3 : cntF 8 (m / 256 % 256) = n3 at *
  generalize hn4 : cntF 8 (m % 256) = n4 at *
  clear hn1 hn2 hn3 hn4
  go_enter Tryd.func88, Tryd.ntmps88
  go_wp2_with fail
  refine wp_region_quietD (Below w.heap.size w) (by kernel_rfl) (by kernel_rfl) (below_drew1 _) ?_
  have n0 := below_nonempty w
  quiet_step (fail)
  refine wpQuiet_yield (.int .u32 ((m / 16777216 : Nat) : Int)) rfl (fun W => run_shr32 (κ := .u64) (m := m) (k := 24) rfl rfl rfl (by decide)) ?_
  go_frame
  refine wpQuiet_yield (.int .u8 (n1 : Int)) rfl (fun W => P1.out _ _ _ _ _ _ _ _ Tryd.underlying9 rfl rfl rfl (by kernel_rfl)) ?_
  go_frame
  refine wpQuiet_yield (.int .u32 (m : Int)) rfl (fun W => rfl) ?_
  go_frame
  refine wpQuiet_yield (.int .u32 ((m / 65536 : Nat) : Int)) rfl (fun W => run_shr32 (κ := .u64) (m := m) (k := 16) rfl rfl rfl (by decide)) ?_
  go_frame
  refine wpQuiet_yield (.int .u32 ((m / 65536 % 256 : Nat) : Int)) rfl (fun W => run_and255 (m := m / 65536) rfl rfl rfl (by have := hHM.out; omega) rfl) ?_
  go_frame
  refine wpQuiet_yield (.int .u8 (n2 : Int)) rfl (fun W => P2.out _ _ _ _ _ _ _ _ Tryd.underlying9 rfl rfl rfl (by kernel_rfl)) ?_
  go_frame
  refine wpQuiet_yield (.int .u8 ((n1 + n2 : Nat) : Int)) rfl (fun W => run_add8 (m := n1) (n := n2) rfl rfl rfl rfl (by omega)) ?_
  go_frame
  refine wpQuiet_yield (.int .u32 (m : Int)) rfl (fun W => rfl) ?_
  go_frame
  refine wpQuiet_yield (.int .u32 ((m / 256 : Nat) : Int)) rfl (fun W => run_shr32 (κ := .u64) (m := m) (k := 8) rfl rfl rfl (by decide)) ?_
  go_frame
  refine wpQuiet_yield (.int .u32 ((m / 256 % 256 : Nat) : Int)) rfl (fun W => run_and255 (m := m / 256) rfl rfl rfl (by have := hHM.out; omega) rfl) ?_
  go_frame
  refine wpQuiet_yield (.int .u8 (n3 : Int)) rfl (fun W => P3.out _ _ _ _ _ _ _ _ Tryd.underlying9 rfl rfl rfl (by kernel_rfl)) ?_
  go_frame
  refine wpQuiet_yield (.int .u8 ((n1 + n2 + n3 : Nat) : Int)) rfl (fun W => run_add8 (m := n1 + n2) (n := n3) rfl rfl rfl rfl (by omega)) ?_
  go_frame
  refine wpQuiet_yield (.int .u32 (m : Int)) rfl (fun W => rfl) ?_
  go_frame
  refine wpQuiet_yield (.int .u32 ((m % 256 : Nat) : Int)) rfl (fun W => run_and255 (m := m) rfl rfl rfl hHM.out rfl) ?_
  go_frame
  refine wpQuiet_yield (.int .u8 (n4 : Int)) rfl (fun W => P4.out _ _ _ _ _ _ _ _ Tryd.underlying9 rfl rfl rfl (by kernel_rfl)) ?_
  go_frame
  refine wpQuiet_yield (.int .u8 ((n1 + n2 + n3 + n4 : Nat) : Int)) rfl (fun W => run_add8 (m := n1 + n2 + n3) (n := n4) rfl rfl rfl rfl (by omega)) ?_
  go_frame
  have hlt : n1 + n2 + n3 + n4 ≤ 32 := by omega
  generalize n1 + n2 + n3 + n4 = n at *
  have e1 : IntKind.i64.wrap (n : Int) = (n : Int) := IntWalk.i64_in _ (by omega)
  first | quiet_step (fail) | go_big_quiet_step (fail)
  first | quiet_step (fail) | go_big_quiet_step (fail)
  refine wpQuiet_nil ?_
  rintro _ ⟨⟨w2, hb2⟩, rfl⟩
  clear e1
  go_wp2
  go_ret
  exact ⟨ret_int (by rw [hC.out]), hb2⟩

theorem countF_any (m : Nat) (hm : m < 4294967296) (w : World) :
    Calls Tryd.prog 64 #[.int .u32 (m : Int)] w fun e w' => e = .returned (.int .i64 ((cntF 32 m : Nat) : Int)) ∧ Below w.heap.size w w' := by
  have ho := fun W => OnesCount32_any m hm W
  generalize cntF 32 m = n at *
  have Ho := Lib.hid ho; clear ho
  go_enter Tryd.func64, Tryd.ntmps64
  go_wp2_with fail
  refine (Ho.out _).mono ?_; rintro e w1 ⟨rfl, hb1⟩
  go_wp2_with fail
  go_ret
  exact ⟨rfl, hb1⟩

set_option maxHeartbeats 1000000 in
theorem l06Size_any (m : Nat) (hm : m < 4294967296) (w : World) :
    Calls Tryd.prog 62 #[.int .u32 (m : Int)] w fun e w' => e = .returned (.int .i64 ((cntF 32 m : Nat) : Int)) ∧ w = w' := by
  have h64 : cntF 32 m ≤ 32 := cntF_le 32 m
  have HM := Lib.hid hm; clear hm
  obtain ⟨R, hR⟩ : ∃ R, R = cntF 32 m := ⟨_, rfl⟩
  rw [← hR] at h64 ⊢
  have HR := Lib.hid hR; clear hR
  go_enter Tryd.func62, Tryd.ntmps62
  go_wp2_with fail
  go_loop [0, 3] (fun t c => ∃ n k d : Nat, t = .int .u32 (k : Int) ∧ c = .int .i64 (d : Int) ∧ k < 2 ^ n ∧ n ≤ 32 ∧ d + cntF n k = R) (fun t _ => (intOf t).toNat)
  case atStart => exact ⟨32, m, 0, rfl, rfl, HM.out, by omega, by rw [HR.out]; omega⟩
  case round =>
    obtain ⟨n, k, d, rfl, rfl, hk, hn, hd⟩ := hrel
    by_cases h0 : k = 0
    · subst h0
      have hdR : d = R := by rw [← hd, cntF_0]; rfl
      subst hdR
      clear hk hd
      go_wp2_with fail
      go_ret
      exact ⟨rfl, rfl⟩
    · obtain ⟨n', rfl⟩ : ∃ n', n = n' + 1 := ⟨n - 1, by rcases n with _ | n <;> simp_all⟩
      have hk32 : k < 4294967296 := Nat.lt_of_lt_of_le hk (Nat.le_trans (Nat.pow_le_pow_right (by omega) hn) (by decide))
      have hd2 : d + k % 2 + cntF n' (k / 2) = R := by rw [← hd, cntF]; omega
      have hk2 : k / 2 < 2 ^ n' := by rw [Nat.pow_succ] at hk; omega
      have hgt : 0 < k := by omega
      have hgi : (0 : Int) < (k : Int) := by omega
      have HK := Lib.hid (And.intro hd2 hk2)
      clear hk hd hd2 hk2
      have hdR : d ≤ 32 := by have := HK.out.1; omega
      go_wp2_with fail
      go_round
      case rel => exact ⟨n', k / 2, d + k % 2, by simp, by go_num, HK.out.2, by omega, HK.out.1⟩
      case measure => simp [intOf]; omega
end Go.Proofs.YtaanboedhabheaaDoor

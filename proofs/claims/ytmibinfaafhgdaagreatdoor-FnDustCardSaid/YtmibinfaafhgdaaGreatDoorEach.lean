/-
  The cells of a mask, one by one in their order: the lowest cell, the mask without it, the iterator. Condition of the iterator's: the library's table of de Bruijn holds what its text lays.
-/
import Derived.RangeFuncNested
import Derived.RangeFuncLeaves
import Derived.RangeFuncBox
import Derived.Shelf.Abstract
import Derived.Shelf.RegionOpen
import Derived.OwnWalkIn
import Derived.TacticsInMore
import Derived.LoopNIn
import Derived.LoopIn
import Derived.Laws.Bits64b
import Derived.Lib.TrailingZeros
import Derived.Test.YtmibinfaafhgdaaGreatDoorQX
import Derived.Test.YtmibinfaafhgdaaGreatDoorOneX
namespace Go.Proofs.YtmibinfaafhgdaaGreatDoor
open Go.RowKit Go.Shelf

/-! ### PLAIN -/
def lowB (a : BitVec 64) : Nat := Lib.ctz 64 a.toNat
theorem toNat_ne {a : BitVec 64} (h : a ≠ 0#64) : a.toNat ≠ 0 := fun e => h (BitVec.eq_of_toNat_eq (by rw [e]; rfl))
theorem low_form {a : BitVec 64} (h : a ≠ 0#64) : ∃ q, a.toNat = 2 ^ lowB a * (2 * q + 1) ∧ lowB a < 64 := by
  have hp := toNat_ne h
  have hl := a.isLt
  have e : lowB a = Lib.ctzFrom 64 a.toNat := by unfold lowB Lib.ctz; rw [if_neg hp]
  rw [e]
  exact Lib.ctzFrom_spec 64 a.toNat (by omega) hl
theorem low_facts {a : BitVec 64} (h : a ≠ 0#64) : lowB a < 64 ∧ a.getLsbD (lowB a) = true ∧ (∀ i, i < lowB a → a.getLsbD i = false) ∧ ∀ i, (a &&& (a - 1#64)).getLsbD i = (a.getLsbD i && !decide (i = lowB a)) := by
  obtain ⟨q, hx, ht⟩ := low_form h
  have hp := toNat_ne h
  have hl := a.isLt
  have hP := Nat.two_pow_pos (lowB a)
  have hsub : (a - 1#64).toNat = a.toNat - 1 := by
    rw [BitVec.toNat_sub]
    show (18446744073709551616 - 1 + a.toNat) % 18446744073709551616 = a.toNat - 1
    omega
  have d1 : ∀ j, a.getLsbD (lowB a + j) = (2 * q + 1).testBit j := by
    intro j
    show a.toNat.testBit _ = _
    rw [Nat.add_comm (lowB a) j, ← Nat.testBit_div_two_pow, hx, Nat.mul_div_cancel_left _ hP]
  have d2 : ∀ j, (a - 1#64).getLsbD (lowB a + j) = (2 * q).testBit j := by
    intro j
    show (a - 1#64).toNat.testBit _ = _
    rw [hsub, Nat.add_comm (lowB a) j, ← Nat.testBit_div_two_pow, hx]
    congr 1
    rw [show 2 ^ lowB a * (2 * q + 1) - 1 = (2 ^ lowB a - 1) + 2 ^ lowB a * (2 * q) by rw [Nat.mul_add]; omega, Nat.add_mul_div_left _ _ hP, Nat.div_eq_of_lt (by omega)]
    omega
  have d0 : ∀ i, i < lowB a → a.getLsbD i = false := by
    intro i hi
    show a.toNat.testBit i = false
    rw [hx, Nat.mul_comm, Nat.testBit_mul_two_pow]
    have : ¬ lowB a ≤ i := by omega
    simp [this]
  refine ⟨ht, ?_, d0, ?_⟩
  · have := d1 0
    rw [Nat.add_zero] at this
    rw [this]
    simp [Nat.testBit_zero]
  · intro i
    rw [BitVec.getLsbD_and]
    by_cases hi : i < lowB a
    · rw [d0 i hi]; simp
    · obtain ⟨j, rfl⟩ : ∃ j, i = lowB a + j := ⟨i - lowB a, by omega⟩
      rw [d1, d2]
      cases j with
      | zero => simp [Nat.testBit_zero]
      | succ j =>
        rw [Nat.testBit_succ, Nat.testBit_succ, show (2 * q + 1) / 2 = q by omega, show 2 * q / 2 = q by omega]
        simp

/-- The cells of a mask that lie below j. -/
def bitsL (m : BitVec 64) (j : Nat) : List Nat := (List.range j).filter fun k => m.getLsbD k
theorem bitsL_0 (m : BitVec 64) : bitsL m 0 = [] := rfl
theorem bitsL_yes {m : BitVec 64} {j : Nat} (h : m.getLsbD j = true) : bitsL m (j + 1) = bitsL m j ++ [j] := by
  simp [bitsL, List.range_succ, List.filter_append, h]
theorem bitsL_no {m : BitVec 64} {j : Nat} (h : m.getLsbD j = false) : bitsL m (j + 1) = bitsL m j := by
  simp [bitsL, List.range_succ, List.filter_append, h]
theorem bitsL_skip {m : BitVec 64} {j t : Nat} (hjt : j ≤ t) (h : ∀ k, j ≤ k → k < t → m.getLsbD k = false) : bitsL m t = bitsL m j := by
  induction t with
  | zero => obtain rfl : j = 0 := by omega
            rfl
  | succ t ih =>
    by_cases e : j = t + 1
    · rw [e]
    · rw [bitsL_no (h t (by omega) (by omega))]
      exact ih (by omega) fun k h1 h2 => h k h1 (by omega)
theorem bitsL_len (m : BitVec 64) (j : Nat) : (bitsL m j).length ≤ j := by
  have := List.length_filter_le (fun k => m.getLsbD k) (List.range j)
  simpa [bitsL] using this
theorem mem_bitsL {m : BitVec 64} {j k : Nat} : k ∈ bitsL m j ↔ k < j ∧ m.getLsbD k = true := by simp [bitsL]
/-- A mask's cells from j on. -/
def LeftB (m L : BitVec 64) (j : Nat) : Prop := ∀ k, k < 64 → L.getLsbD k = (m.getLsbD k && decide (j ≤ k))
theorem LeftB.start (m : BitVec 64) : LeftB m m 0 := fun k _ => by simp
theorem LeftB.done {m L : BitVec 64} {j : Nat} (h : LeftB m L j) (hj : j ≤ 64) (h0 : L = 0#64) : bitsL m 64 = bitsL m j := by
  subst h0
  refine bitsL_skip hj fun k h1 h2 => ?_
  have := h k h2
  rw [BitVec.getLsbD_zero] at this
  simpa [h1] using this.symm
theorem LeftB.step {m L : BitVec 64} {j : Nat} (h : LeftB m L j) (h0 : L ≠ 0#64) : (m.getLsbD (lowB L) = true ∧ j ≤ lowB L) ∧ bitsL m (lowB L + 1) = bitsL m j ++ [lowB L] ∧ LeftB m (L &&& (L - 1#64)) (lowB L + 1) := by
  obtain ⟨ht, h1, h2, h3⟩ := low_facts h0
  have hb := h _ ht
  rw [h1] at hb
  have hm : m.getLsbD (lowB L) = true ∧ j ≤ lowB L := by simpa using hb.symm
  refine ⟨hm, ?_, ?_⟩
  · rw [bitsL_yes hm.1, bitsL_skip hm.2]
    intro k hk1 hk2
    have := h k (by omega)
    rw [h2 k hk2] at this
    simpa [hk1] using this.symm
  · intro k hk
    rw [h3, h k hk]
    by_cases e : k = lowB L
    · subst e; simp
    · by_cases hlt : k < lowB L
      · have := h k hk
        rw [h2 k hlt] at this
        rw [← this]
        have hn : ¬ lowB L + 1 ≤ k := by omega
        simp [hn]
      · have e1 : decide (j ≤ k) = true := decide_eq_true (by omega)
        have e2 : decide (lowB L + 1 ≤ k) = true := decide_eq_true (by omega)
        simp [e, e1, e2]
theorem and_dec (L : BitVec 64) (h : L ≠ 0#64) : (L &&& (L - 1#64)).toNat < L.toNat := by
  have hp := toNat_ne h
  have hl := L.isLt
  have hsub : (L - 1#64).toNat = L.toNat - 1 := by
    rw [BitVec.toNat_sub]
    show (18446744073709551616 - 1 + L.toNat) % 18446744073709551616 = L.toNat - 1
    omega
  rw [BitVec.toNat_and, hsub]
  have := Nat.and_le_right (n := L.toNat) (m := L.toNat - 1)
  omega
/-- A cell of a mask. -/
def CellOf (m : BitVec 64) := { k : Nat // k < 64 ∧ m.getLsbD k = true }

/-! ### THE LIBRARY's TABLE -/
/-- The library's table of de Bruijn holds what its text lays. -/
def DbEnv (w : World) : Prop := ∀ j, j < 64 → w.cell? ⟨6, j, none⟩ = some (.int .u8 (Lib.deBruijn64tab.getD j 0))
theorem DbEnv.below {w w' : World} (h : DbEnv w) (hb : Below w.heap.size w w') : DbEnv w' := fun j hj => below_cellOf hb (h j hj) (Nat.le_refl _)
/-- The table lies as it lay. -/
def KeepsT (W W' : World) : Prop := W'.heap[6]? = W.heap[6]?
theorem keepsT_t {A B C : World} (h : KeepsT A B) (k : KeepsT B C) : KeepsT A C := k.trans h
theorem DbEnv.lt {w : World} (h : DbEnv w) : 6 < w.heap.size := by
  have := h 0 (by omega)
  unfold World.cell? at this
  cases hh : w.heap[6]? with
  | none => simp [hh] at this
  | some o => exact (Array.getElem?_eq_some_iff.1 hh).1
theorem DbEnv.keeps {W W' : World} (h : DbEnv W) (k : KeepsT W W') : DbEnv W' := fun j hj => by
  rw [World.cell?_of_block (a := ⟨6, j, none⟩) k]; exact h j hj
theorem keepsT_b {N : Nat} (hb : 6 < N) (W : World) (l : Nat) (o o' : Obj) (hl : N ≤ l) (_ : W.heap[l]? = some o) (_ : o.isCells = false) (_ : o.isWalk = false) : KeepsT W (W.putObj l o') :=
  World.putObj_heap_other (by omega)
theorem KeepsT.of_below {n : Nat} {W W' : World} (h : Below n W W') (hb : 6 < n) : KeepsT W W' := h.block _ hb

theorem tz_key (x a : Nat) (hx : x < 18446744073709551616) (hx0 : x ≠ 0) (hlow : x &&& (18446744073709551616 - x) = a) :
    IntKind.u64.wrap (bits BinOp.and IntKind.u64 (x : Int) (IntKind.u64.wrap (-(x : Int))) * 285870213051353865) / 288230376151711744 = ((a * 285870213051353865 % 18446744073709551616 / 288230376151711744 : Nat) : Int) := by
  have e1 : IntKind.u64.wrap (-(x : Int)) = ((18446744073709551616 - x : Nat) : Int) := by rw [IntKind.wrap_u64]; omega
  rw [e1, bits_and_u64_nat x _ hx (by omega), hlow, IntKind.wrap_u64]
  omega
set_option maxRecDepth 100000 in
set_option maxHeartbeats 1000000 in
theorem tz_core (x k idx : Nat) (w : World) (hx0 : ((x : Int) == 0) = false)
    (key : IntKind.u64.wrap (bits BinOp.and IntKind.u64 (x : Int) (IntKind.u64.wrap (-(x : Int))) * 285870213051353865) / 288230376151711744 = (idx : Int))
    (hi : idx < 64) (hk : k < 64) (hcell : w.cell? ⟨6, idx, none⟩ = some (.int .u8 k)) :
    Calls Tryz.prog 74 #[.int .u64 x] w fun e w' => e = .returned (.int .i64 k) ∧ w = w' := by
  go_enter Tryz.func74, Tryz.ntmps74
  go_wp2_with (simp only [key])
  go_ret
  exact ⟨rfl, rfl⟩
theorem tz_any (a : BitVec 64) (h : a ≠ 0#64) (w : World) (hT : DbEnv w) :
    Calls Tryz.prog 74 #[.int .u64 (bvI a)] w fun e w' => e = .returned (.int .i64 ((lowB a : Nat) : Int)) ∧ w = w' := by
  have hp := toNat_ne h
  obtain ⟨hlow, hk⟩ := Lib.lowest_bit 64 a.toNat hp a.isLt
  obtain ⟨hi, htab⟩ := Lib.deBruijn64_at _ hk
  have hcell := hT _ hi
  rw [htab] at hcell
  exact tz_core a.toNat _ _ w (by simp; exact hp) (tz_key a.toNat _ a.isLt hp hlow) hi hk hcell

theorem run_dec_bv {P : Program} {ρ : Operand → Value} {o : Oper} {w : World} {T T2 : TypeId} {x y : Operand} {a : BitVec 64} (ho : o.op = .binOp .sub T x y T2) (hx : ρ x = .int .u64 (bvI a)) (hy : ρ y = .int .u64 1) :
    (execOp ρ o).run P w = .ok (.value (.int .u64 (bvI (a - 1#64)))) w := by
  have hl := a.isLt
  have hw : IntKind.u64.wrap (bvI a - 1) = bvI (a - 1#64) := by
    unfold bvI
    rw [IntKind.wrap_u64, BitVec.toNat_sub, show (1#64 : BitVec 64).toNat = 1 from rfl]; omega
  unfold execOp
  simp only [ho, hx, hy]
  simp [binOp, Op.intArith, eqGuard, hw]
theorem bits_dec_bv (a : BitVec 64) : bits .and .u64 (bvI a) (IntKind.u64.wrap (bvI a - 1)) = bvI (a &&& (a - 1#64)) := by
  have hl := a.isLt
  have hw : IntKind.u64.wrap (bvI a - 1) = bvI (a - 1#64) := by
    unfold bvI
    rw [IntKind.wrap_u64, BitVec.toNat_sub, show (1#64 : BitVec 64).toNat = 1 from rfl]; omega
  rw [hw]
  show IntKind.u64.wrap ((BitVec.ofInt 64 (bvI a) &&& BitVec.ofInt 64 (bvI (a - 1#64))).toNat : Int) = _
  have h2 : ∀ b : BitVec 64, BitVec.ofInt 64 (bvI b) = b := fun b => by unfold bvI; rw [BitVec.ofInt_natCast]; simp
  rw [h2, h2]
  exact wrap_bv _
end Go.Proofs.YtmibinfaafhgdaaGreatDoor

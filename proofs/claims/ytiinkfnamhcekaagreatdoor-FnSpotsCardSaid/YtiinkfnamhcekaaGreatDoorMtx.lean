/-
  The text of a mask: what both sides' functions return. Of whatever mask; no condition.
-/
import Derived.Test.YtiinkfnamhcekaaGreatDoorBv
import Derived.Test.YtiinkfnamhcekaaGreatDoorOwn
import Derived.Maps.AppendAt
import Derived.Laws.Concat
import Derived.Laws.IdiomStrings
namespace Go.Proofs.YtiinkfnamhcekaaGreatDoor
open Go.RowKit

theorem bit1 (m : BitVec 64) (k : Nat) : (m >>> k &&& 1#64) = if m.getLsbD k = true then 1#64 else 0#64 := by
  rw [BitVec.and_one_eq_setWidth_ofBool_getLsbD]
  have e : (m >>> k).getLsbD 0 = m.getLsbD k := by simp
  rw [e]
  cases m.getLsbD k <;> rfl
section
variable {P : Program} {ρ : Operand → Value} {o : Oper} {w : World} {T T2 : TypeId} {x y : Operand} {m : BitVec 64} {k : Nat}
theorem run_bit_yes (hb : m.getLsbD k = true) (ho : o.op = .binOp .and T x y T2) (hx : ρ x = .int .u64 (bvI (m >>> k))) (hy : ρ y = .int .u64 1) :
    (execOp ρ o).run P w = .ok (.value (.int .u64 1)) w := by
  have h := run_and_bv (P := P) (w := w) (b := 1#64) ho hx hy
  rw [bit1, if_pos hb] at h
  exact h
theorem run_bit_no (hb : m.getLsbD k = false) (ho : o.op = .binOp .and T x y T2) (hx : ρ x = .int .u64 (bvI (m >>> k))) (hy : ρ y = .int .u64 1) :
    (execOp ρ o).run P w = .ok (.value (.int .u64 0)) w := by
  have h := run_and_bv (P := P) (w := w) (b := 1#64) ho hx hy
  rw [bit1, if_neg (by rw [hb]; decide)] at h
  exact h
end

set_option maxHeartbeats 1000000 in
theorem hasCellB_any (m : BitVec 64) (c : Nat) (hc : c < 64) (w : World) : Calls Tryz.prog 23 #[.int .u64 (bvI m), .int .i64 (c : Int)] w fun e w' => e = .returned (.bool (m.getLsbD c)) ∧ w = w' := by
  rcases hb : m.getLsbD c with _ | _
  all_goals
    go_enter Tryz.func23, Tryz.ntmps23
    go_wp2_with (first | (refine wpList_yield rfl (run_shr_bv (κ := .i64) (a := m) (k := c) rfl rfl rfl hc) ?_) | (refine wpList_yield rfl (run_bit_yes hb rfl rfl rfl) ?_) | (refine wpList_yield rfl (run_bit_no hb rfl rfl rfl) ?_))
    go_ret
    exact ⟨rfl, rfl⟩

/-- The text of the first k cells. -/
def mtx (m : BitVec 64) : Nat → List UInt8
  | 0 => []
  | k + 1 => mtx m k ++ ((if m.getLsbD k = true then 35 else 46) :: (if k % 8 = 7 then [10] else []))
theorem mtx_len (m : BitVec 64) : ∀ k, (mtx m k).length ≤ 2 * k
  | 0 => by simp [mtx]
  | k + 1 => by
    have := mtx_len m k
    rw [mtx]
    split <;> split <;> simp <;> omega
/-- A text as cells. -/
def u8V (l : List UInt8) : List Value := l.map fun b => .int .u8 (b.toNat : Int)
theorem u8V_len (l : List UInt8) : (u8V l).length = l.length := by simp [u8V]
theorem u8V_snoc (l : List UInt8) (b : UInt8) : u8V (l ++ [b]) = u8V l ++ [.int .u8 (b.toNat : Int)] := by simp [u8V]

theorem u8Info : (Tryz.prog.info? 5).map (fun i => (i.zero, i.size, i.bytes)) = some (some (.int .u8 0), 1, 1) := by kernel_rfl
section
variable {ops : Array Oper} {rest : List Oper} {o : Oper} {a : Act} {Q : Exit → Act → World → Prop} {w : World}
theorem grownBy_allocM {w w' : World} {o : Obj} {row : Option Nat} (h : (w.alloc o).grownBy w' row) : w.grownBy w' row :=
  ⟨h.os, h.tape, h.output, by have := h.size; simp at this; omega, fun k hk hne => (h.block k (by simp; omega) hne).trans (Below.heap_alloc w o k hk)⟩
/-- 'append(s, x)' of one byte. -/
theorem wpList_append_u8 (hgd : o.guard = none) (s x : Operand) (ho : o.op = .call { callee := .builtin .append, args := #[s, x], argTypes := #[22, 22] })
    {L n : Nat} {v : Value} {l : List UInt8} {b : UInt8} (hs : a.eval s = v) (hown : w.ownsRow L 5 1 v n (u8V l)) (hx : a.eval x = .slice (some ⟨w.heap.size, 0, none⟩) 1 1) (hn : n ≤ 1000000) (hL : L ≤ w.heap.size) {V : Int} (hV : V = (b.toNat : Int))
    (h : ∀ v' w', w'.ownsRow L 5 1 v' (n + 1) (u8V (l ++ [b])) → Below L w w' → wpList Tryz.prog ops Q rest (a.put o.dst v') w') :
    wpList Tryz.prog ops Q (o :: rest) a (w.alloc (.cells #[.int .u8 V] 5)) := by
  subst hV
  obtain ⟨i0, hi, hz0, hz1, hz2⟩ := info_parts u8Info
  refine wpList_append_own_at _ hgd s x 22 ho L 5 i0 (.int .u8 0) 1 1 Tryz.underlying22 hi hz0 hz1 hz2 rfl (by decide) v n (u8V l) hs (hown.alloc _) ⟨w.heap.size, 0, none⟩ 1 1 [.int .u8 (b.toNat : Int)] hx rfl (cell_one_new _ _ _) (by simp [Value.oneCell']) (by unfold maxLen; omega) (by omega) (by simp; omega) ?_
  intro v' w' h1 h2 _ _
  refine h v' w' ?_ ?_
  · rw [u8V_snoc]; exact h1
  · exact Below.grown (Below.refl _ _) (grownBy_allocM h2) hL (fun k hk => (hown.lt k hk).1)
end

/-- An own list of bytes as a text. -/
theorem own_conv {w : World} {L : Nat} {v : Value} {l : List UInt8} (h : w.ownsRow L 5 1 v l.length (u8V l)) (hl : 0 < l.length) :
    (convert 22 9 v).run Tryz.prog w = .ok (.string ⟨l.toArray⟩) w := by
  obtain ⟨_, h⟩ := h
  rcases h with ⟨_, h0⟩ | ⟨g, cap, cur, rfl, hb, hh, hn, hm, hs, ht⟩
  · omega
  · refine run_convert_bytes_back (P := Tryz.prog) w 22 9 5 ⟨g, 0, none⟩ cap l Tryz.underlying22 Tryz.underlying5 Tryz.underlying9 ?_
    intro j hj
    have e : (⟨g, 0, none⟩ : Addr).add j = ⟨g, j, none⟩ := by simp [Addr.add]; omega
    rw [e, cell_of_row w g j cur 5 (0, 0) hh]
    have h1 : (u8V l)[j]? = some (.int .u8 (l[j].toNat : Int)) := by simp [u8V, hj]
    rw [← ht, Nat.mul_one, List.getElem?_take, if_pos hj] at h1
    simpa using h1

set_option maxRecDepth 100000 in
set_option maxHeartbeats 2000000 in
theorem MaskText_any (m : BitVec 64) (w : World) :
    Calls Tryz.prog 7 #[.int .u64 (bvI m)] w fun e w' => e = .returned (.string ⟨(mtx m 64).toArray⟩) ∧ w = w' := by
  go_enter Tryz.func7, Tryz.ntmps7
  go_wp2_with fail
  go_loop [3, 5] (fun tv iv => ∃ k : Nat, k ≤ 64 ∧ iv = .int .i64 (k : Int) ∧ tv = .string ⟨(mtx m k).toArray⟩) (fun _ iv => 64 - (intOf iv).toNat)
  case atStart => exact ⟨0, by omega, rfl, rfl⟩
  case round =>
    obtain ⟨k, hk, rfl, rfl⟩ := hrel
    have hl := mtx_len m k
    by_cases hkn : k < 64
    rotate_left
    · obtain rfl : k = 64 := by omega
      go_wp2_with fail
      go_ret
      exact ⟨rfl, rfl⟩
    have hm : Int.tmod (k : Int) 8 = ((k % 8 : Nat) : Int) := by rw [Int.tmod_eq_emod_of_nonneg (by omega)]; omega
    have hh := hasCellB_any m k hkn
    rcases hb : m.getLsbD k with _ | _
    · by_cases h8 : k % 8 = 7
      · have hst : mtx m (k + 1) = mtx m k ++ [46, 10] := by
          rw [mtx, hb]; simp [h8]
        have Hst := Lib.hid hst; clear hst
        rw [hb] at hh
        have Hh := Lib.hid hh; clear hh hb
        rw [show ((k % 8 : Nat) : Int) = 7 by omega] at hm
        clear h8
        generalize mtx m k = l at *
        have a1 := fun W => run_string_add_lists (P := Tryz.prog) W l [46] (by omega) (by simp)
        have a2 := fun W => run_string_add_lists (P := Tryz.prog) W (l ++ [46]) [10] (by simp; omega) (by simp)
        go_wp2_with (go_at_call 23; refine (Hh.out _).mono ?_; rintro e w' ⟨rfl, rfl⟩)
        go_round
        case rel => exact ⟨k + 1, by omega, by go_num, by rw [Hst.out]⟩
        case measure => simp [intOf]; omega
      · have hst : mtx m (k + 1) = mtx m k ++ [46] := by
          rw [mtx, hb]; simp [h8]
        have Hst := Lib.hid hst; clear hst
        rw [hb] at hh
        have Hh := Lib.hid hh; clear hh hb
        obtain ⟨r8, hr8, hne⟩ : ∃ r8 : Int, ((k % 8 : Nat) : Int) = r8 ∧ ¬ r8 = 7 := ⟨_, rfl, by omega⟩
        rw [hr8] at hm
        clear hr8 h8
        generalize mtx m k = l at *
        have a1 := fun W => run_string_add_lists (P := Tryz.prog) W l [46] (by omega) (by simp)
        go_wp2_with (go_at_call 23; refine (Hh.out _).mono ?_; rintro e w' ⟨rfl, rfl⟩)
        go_round
        case rel => exact ⟨k + 1, by omega, by go_num, by rw [Hst.out]⟩
        case measure => simp [intOf]; omega
    · by_cases h8 : k % 8 = 7
      · have hst : mtx m (k + 1) = mtx m k ++ [35, 10] := by
          rw [mtx, hb]; simp [h8]
        have Hst := Lib.hid hst; clear hst
        rw [hb] at hh
        have Hh := Lib.hid hh; clear hh hb
        rw [show ((k % 8 : Nat) : Int) = 7 by omega] at hm
        clear h8
        generalize mtx m k = l at *
        have a1 := fun W => run_string_add_lists (P := Tryz.prog) W l [35] (by omega) (by simp)
        have a2 := fun W => run_string_add_lists (P := Tryz.prog) W (l ++ [35]) [10] (by simp; omega) (by simp)
        go_wp2_with (go_at_call 23; refine (Hh.out _).mono ?_; rintro e w' ⟨rfl, rfl⟩)
        go_round
        case rel => exact ⟨k + 1, by omega, by go_num, by rw [Hst.out]⟩
        case measure => simp [intOf]; omega
      · have hst : mtx m (k + 1) = mtx m k ++ [35] := by
          rw [mtx, hb]; simp [h8]
        have Hst := Lib.hid hst; clear hst
        rw [hb] at hh
        have Hh := Lib.hid hh; clear hh hb
        obtain ⟨r8, hr8, hne⟩ : ∃ r8 : Int, ((k % 8 : Nat) : Int) = r8 ∧ ¬ r8 = 7 := ⟨_, rfl, by omega⟩
        rw [hr8] at hm
        clear hr8 h8
        generalize mtx m k = l at *
        have a1 := fun W => run_string_add_lists (P := Tryz.prog) W l [35] (by omega) (by simp)
        go_wp2_with (go_at_call 23; refine (Hh.out _).mono ?_; rintro e w' ⟨rfl, rfl⟩)
        go_round
        case rel => exact ⟨k + 1, by omega, by go_num, by rw [Hst.out]⟩
        case measure => simp [intOf]; omega
end Go.Proofs.YtiinkfnamhcekaaGreatDoor

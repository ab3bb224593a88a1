/-
  The spots of a mask: what the reference's function returns. Of whatever mask; no condition.
-/
import Derived.Test.YtiinkfnamhcekaaGreatDoorSpotM
import Derived.Test.YtiinkfnamhcekaaGreatDoorOwn
import Derived.Maps.AppendAt
namespace Go.Proofs.YtiinkfnamhcekaaGreatDoor
open Go.RowKit

/-- Masks as cells. -/
def u64L (l : List (BitVec 64)) : List Value := l.map fun m => .int .u64 (bvI m)
theorem u64L_len (l : List (BitVec 64)) : (u64L l).length = l.length := by simp [u64L]
theorem u64L_snoc (l : List (BitVec 64)) (b : BitVec 64) : u64L (l ++ [b]) = u64L l ++ [.int .u64 (bvI b)] := by simp [u64L]
theorem u64Info : (Tryz.prog.info? 24).map (fun i => (i.zero, i.size, i.bytes)) = some (some (.int .u64 0), 1, 8) := by kernel_rfl
section
variable {ops : Array Oper} {rest : List Oper} {o : Oper} {a : Act} {Q : Exit → Act → World → Prop} {w : World}
theorem grownBy_allocS {w w' : World} {o : Obj} {row : Option Nat} (h : (w.alloc o).grownBy w' row) : w.grownBy w' row :=
  ⟨h.os, h.tape, h.output, by have := h.size; simp at this; omega, fun k hk hne => (h.block k (by simp; omega) hne).trans (Below.heap_alloc w o k hk)⟩
/-- 'append(s, x)' of one mask. -/
theorem wpList_append_u64 (hgd : o.guard = none) (s x : Operand) (ho : o.op = .call { callee := .builtin .append, args := #[s, x], argTypes := #[29, 29] })
    {L n : Nat} {v : Value} {l : List (BitVec 64)} {b : BitVec 64} (hs : a.eval s = v) (hown : w.ownsRow L 24 1 v n (u64L l)) (hx : a.eval x = .slice (some ⟨w.heap.size, 0, none⟩) 1 1) (hn : n ≤ 1000000) (hL : L ≤ w.heap.size)
    (h : ∀ v' w', w'.ownsRow L 24 1 v' (n + 1) (u64L (l ++ [b])) → Below L w w' → wpList Tryz.prog ops Q rest (a.put o.dst v') w') :
    wpList Tryz.prog ops Q (o :: rest) a (w.alloc (.cells #[.int .u64 (bvI b)] 24)) := by
  obtain ⟨i0, hi, hz0, hz1, hz2⟩ := info_parts u64Info
  refine wpList_append_own_at _ hgd s x 29 ho L 24 i0 (.int .u64 0) 1 8 Tryz.underlying29 hi hz0 hz1 hz2 rfl (by decide) v n (u64L l) hs (hown.alloc _) ⟨w.heap.size, 0, none⟩ 1 1 [.int .u64 (bvI b)] hx rfl (cell_one_new _ _ _) (by simp [Value.oneCell']) (by unfold maxLen; omega) (by omega) (by simp; omega) ?_
  intro v' w' h1 h2 _ _
  refine h v' w' ?_ ?_
  · rw [u64L_snoc]; exact h1
  · exact Below.grown (Below.refl _ _) (grownBy_allocS h2) hL (fun k hk => (hown.lt k hk).1)
theorem own_belowS {w w' : World} {base size n : Nat} {e : TypeId} {v : Value} {l : List Value} (h : w.ownsRow base e size v n l) (hb : Below w.heap.size w w') : w'.ownsRow base e size v n l :=
  h.kept (row := none) ⟨hb.os, hb.tape, hb.output, hb.size, fun i hi _ => hb.block i hi⟩ (by cases v.ownBlock <;> simp)
theorem mine_u64 {w : World} {L n : Nat} {v : Value} {l : List (BitVec 64)} (h : w.ownsRow L 24 1 v n (u64L l)) : Mine w L w.heap.size 24 1 v n (fun j => .int .u64 (bvI (l.getD j 0#64))) := by
  have hl := h.1
  rw [u64L_len, Nat.mul_one] at hl
  exact (Mine.of_own h).congr fun j hj => by
    have hj' : j < l.length := by omega
    simp [u64L, hj']
end

/-- What is left of a mask behind the spots of its first k cells. -/
def Rest (M N : BitVec 64) (k : Nat) : Prop := ∀ c, N.getLsbD c = true ↔ M.getLsbD c = true ∧ ¬ ∃ j, j < k ∧ M.getLsbD j = true ∧ Reach (RM M) j c
theorem rest_zero (M : BitVec 64) : Rest M M 0 := fun c => by simp
theorem rest_no {M N : BitVec 64} {k : Nat} (h : Rest M N k) (h0 : M.getLsbD k = false) : Rest M N (k + 1) := fun c => by
  rw [h c]
  refine and_congr_right fun _ => not_congr ⟨fun ⟨j, hj, h1⟩ => ⟨j, by omega, h1⟩, fun ⟨j, hj, h1, h2⟩ => ⟨j, ?_, h1, h2⟩⟩
  have : j ≠ k := fun e => by subst e; rw [h0] at h1; cases h1
  omega
theorem rest_old {M N : BitVec 64} {k : Nat} (h : Rest M N k) (h0 : ∃ j, j < k ∧ M.getLsbD j = true ∧ Reach (RM M) j k) : Rest M N (k + 1) := fun c => by
  rw [h c]
  refine and_congr_right fun _ => not_congr ⟨fun ⟨j, hj, h1⟩ => ⟨j, by omega, h1⟩, fun ⟨j, hj, h1, h2⟩ => ?_⟩
  by_cases e : j = k
  · subst e
    obtain ⟨j0, h3, h4, h5⟩ := h0
    exact ⟨j0, h3, h4, h5.trans h2⟩
  · exact ⟨j, by omega, h1, h2⟩
theorem rest_new {M N : BitVec 64} {k : Nat} (h : Rest M N k) (h0 : M.getLsbD k = true) : Rest M (N &&& ~~~compB M k) (k + 1) := fun c => by
  by_cases hc : c < 64
  · rw [BitVec.getLsbD_and, BitVec.getLsbD_not, Bool.and_eq_true, h c]
    have e : (decide (c < 64) && !(compB M k).getLsbD c) = true ↔ ¬ Reach (RM M) k c := by
      rw [← compB_bit h0]; simp [hc]
    rw [e, and_assoc]
    refine and_congr_right fun _ => ?_
    constructor
    · rintro ⟨h1, h2⟩ ⟨j, hj, h3, h4⟩
      by_cases e : j = k
      · subst e; exact h2 h4
      · exact h1 ⟨j, by omega, h3, h4⟩
    · intro h1
      exact ⟨fun ⟨j, hj, h3, h4⟩ => h1 ⟨j, by omega, h3, h4⟩, fun h2 => h1 ⟨k, by omega, h0, h2⟩⟩
  · constructor
    · intro h1; exact absurd (bit_lt h1) hc
    · rintro ⟨h1, _⟩; exact absurd (bit_lt h1) hc
theorem bit_of (k c : Nat) (hk : k < 64) : (1#64 <<< k).getLsbD c = decide (c = k) := by
  rw [BitVec.getLsbD_shiftLeft, BitVec.getLsbD_one]
  by_cases e : c = k
  · subst e; simp [hk]
  · by_cases h : c < k
    · simp [e, h]
    · have : ¬ c - k = 0 := by omega
      simp [e, this]
theorem and_bit {N : BitVec 64} {k : Nat} (hk : k < 64) (h : N.getLsbD k = true) : N &&& 1#64 <<< k = 1#64 <<< k := BitVec.eq_of_getLsbD_eq fun i _ => by
  rw [BitVec.getLsbD_and, bit_of k i hk]
  by_cases e : i = k
  · subst e; simp [h]
  · simp [e]
theorem and_bit_no {N : BitVec 64} {k : Nat} (hk : k < 64) (h : N.getLsbD k = false) : N &&& 1#64 <<< k = 0#64 := BitVec.eq_of_getLsbD_eq fun i _ => by
  rw [BitVec.getLsbD_and, bit_of k i hk]
  by_cases e : i = k
  · subst e; simp [h]
  · simp [e]
theorem bit_ne {k : Nat} (hk : k < 64) : 1#64 <<< k ≠ 0#64 := fun e => by
  have := bit_of k k hk
  rw [e] at this
  simp at this

set_option maxRecDepth 100000 in
set_option maxHeartbeats 4000000 in
theorem l07Spots_any (M : BitVec 64) (w : World) :
    Calls Tryz.prog 25 #[.int .u64 (bvI M)] w fun e w' => ∃ v, e = .returned v ∧ w'.ownsRow w.heap.size 24 1 v (spL M 64).length (u64L (spL M 64)) ∧ Below w.heap.size w w' := by
  have o1 := World.ownsRow_lit (base := w.heap.size) (e := 24) (size := 1) w #[] 0 (Nat.le_refl _) (Nat.zero_le _) rfl
  have k0 := (Below.refl w.heap.size w).alloc (Nat.le_refl _) (.cells #[] 24)
  go_enter Tryz.func25, Tryz.ntmps25
  go_wp2_with fail
  go_loopw [0, 3, 4] (fun mv ov iv wr => ∃ (k : Nat) (N : BitVec 64), k ≤ 64 ∧ iv = .int .i64 (k : Int) ∧ mv = .int .u64 (bvI N) ∧ Rest M N k ∧ wr.ownsRow w.heap.size 24 1 ov (spL M k).length (u64L (spL M k)) ∧ Below w.heap.size w wr) (fun _ _ iv _ => 64 - (intOf iv).toNat)
  case atStart => exact ⟨0, M, by omega, rfl, rfl, rest_zero M, o1, k0⟩
  case round =>
    clear o1 k0
    obtain ⟨k, N, hk, rfl, rfl, hR, hown, hB⟩ := hrel
    have hl := spL_len (M := M) k
    by_cases hkn : k < 64
    rotate_left
    · obtain rfl : k = 64 := by omega
      go_wp2_with fail
      go_ret
      exact ⟨_, rfl, hown, hB⟩
    have hw : IntKind.u64.wrap (k : Int) = (k : Int) := by rw [IntKind.wrap_u64]; omega
    have hz := hB.size
    have HR := Lib.hid hR
    rcases hb : N.getLsbD k with _ | _
    · have hno : spL M (k + 1) = spL M k ∧ Rest M N (k + 1) := by
        rcases h0 : M.getLsbD k with _ | _
        · exact ⟨spL_no h0, rest_no hR h0⟩
        · have h1 : ∃ j, j < k ∧ M.getLsbD j = true ∧ Reach (RM M) j k := by
            have := not_congr (hR k)
            rw [hb] at this
            simpa [h0] using this
          exact ⟨spL_old h1, rest_old hR h1⟩
      have HN := Lib.hid hno
      have hand := and_bit_no hkn hb
      have h00 : bvI 0#64 = 0 := rfl
      clear hno hR hb
      generalize spL M k = l at *
      go_wp2_with (first
        | (refine wpList_yield rfl (run_shl_bv (κ := .u64) (a := 1#64) (k := k) rfl rfl rfl hkn) ?_)
        | (refine wpList_yield rfl (run_and_bv (a := N) (b := 1#64 <<< k) rfl rfl rfl) ?_; rw [hand]))
      go_roundw
      case rel => exact ⟨k + 1, N, by omega, by go_num, rfl, HN.out.2, by rw [HN.out.1]; exact hown, hB⟩
      case measure => simp [intOf]; omega
    · have hMk := ((hR k).1 hb).1
      have hnew : ¬ ∃ j, j < k ∧ M.getLsbD j = true ∧ Reach (RM M) j k := ((hR k).1 hb).2
      have hNM : ∀ c, N.getLsbD c = true → M.getLsbD c = true := fun c h => ((hR c).1 h).1
      have hNr : ∀ c, Reach (RM M) k c → N.getLsbD c = true := fun c h => (hR c).2 ⟨reach_in hMk h, fun ⟨j, hj, h1, h2⟩ => hnew ⟨j, hj, h1, h2.trans (h.symm (RM_symm M))⟩⟩
      have HN := Lib.hid (And.intro (spL_new hMk hnew) (rest_new hR hMk))
      have Hfix := Lib.hid (fun X h1 h2 h3 => spot_fix (M := M) (N := N) (X := X) hMk h1 hNr h2 h3)
      have Hst := Lib.hid (fun X h1 h2 => spot_step (M := M) (N := N) (X := X) (k := k) hNM h1 h2)
      have hand := and_bit hkn hb
      have hne : (bvI (1#64 <<< k) == 0) = false := beq_eq_false_iff_ne.2 (fun e => bit_ne hkn (bvI_inj.1 (e.trans rfl)))
      have Hb0 := Lib.hid (fun c => bit_of k c hkn)
      have Hb := Lib.hid hb
      clear hnew hNM hNr hR hb hMk
      generalize spL M k = l at *
      go_wp2_with (first
        | (refine wpList_yield rfl (run_shl_bv (κ := .u64) (a := 1#64) (k := k) rfl rfl rfl hkn) ?_)
        | (refine wpList_yield rfl (run_and_bv (a := N) (b := 1#64 <<< k) rfl rfl rfl) ?_; rw [hand]))
      obtain ⟨wo, rfl⟩ : ∃ wo : World, wo = wr := ⟨_, rfl⟩
      go_loop [5] (fun xv => ∃ X : BitVec 64, xv = .int .u64 (bvI X) ∧ X.getLsbD k = true ∧ (∀ c, X.getLsbD c = true → N.getLsbD c = true) ∧ ∀ c, X.getLsbD c = true → Reach (RM M) k c) (fun xv => 18446744073709551616 - (intOf xv).toNat)
      case atStart =>
        refine ⟨1#64 <<< k, rfl, by rw [Hb0.out]; simp, fun c h => ?_, fun c h => ?_⟩
        · rw [Hb0.out] at h
          obtain rfl : c = k := by simpa using h
          exact Hb.out
        · rw [Hb0.out] at h
          obtain rfl : c = k := by simpa using h
          exact .start
      case round =>
        obtain ⟨X, rfl, hXk, hXN, hXr⟩ := hrel
        have hg := l07Grow_any X
        have Hg := Lib.hid hg; clear hg
        have hs := Hst.out X hXN hXr
        have HS := Lib.hid (And.intro hXk (And.intro hXr hs))
        by_cases hfx : growB X &&& N = X
        · obtain rfl := Hfix.out X hXk hfx hXr
          have hz2 : w.heap.size ≤ wo.heap.size := hz
          clear hs hXk hXN hXr
          go_wp2_with (first
            | (go_at_call 28; refine (Hg.out _).mono ?_; rintro e w' ⟨rfl, rfl⟩)
            | (refine wpList_yield rfl (run_and_bv (a := growB (compB M k)) (b := N) rfl rfl rfl) ?_; rw [hfx])
            | (at_builtin; refine wpList_append_u64 (b := compB M k) rfl _ _ rfl rfl hown rfl (by omega) hz2 ?_))
          intro v2 w2 o2 hb2
          have hB2 := hB.trans hb2
          clear hown hb2 hB hz hz2 hfx
          go_wp2_with (refine wpList_yield rfl (run_andNot_bv (a := N) (b := compB M k) rfl rfl rfl) ?_)
          go_roundw
          case rel => exact ⟨k + 1, N &&& ~~~compB M k, by omega, by go_num, rfl, HN.out.2, by rw [HN.out.1, List.length_append]; exact o2, hB2⟩
          case measure => simp [intOf]; omega
        · have hne2 : ¬ bvI (growB X &&& N) = bvI X := fun e => hfx (bvI_inj.1 e)
          have hlt := sub_lt hs.2.1 (fun e => hfx e.symm)
          have hlt2 := (growB X &&& N).isLt
          have HL := Lib.hid (And.intro hlt hlt2)
          clear hs hXk hXN hXr hfx hlt hlt2
          go_wp2_with (first
            | (go_at_call 28; refine (Hg.out _).mono ?_; rintro e w' ⟨rfl, rfl⟩)
            | (refine wpList_yield rfl (run_and_bv (a := growB X) (b := N) rfl rfl rfl) ?_))
          go_round
          case rel => exact ⟨growB X &&& N, rfl, HS.out.2.2.2.1 _ HS.out.1, HS.out.2.2.2.2, HS.out.2.2.1⟩
          case measure =>
            have h1 := HL.out.1
            have h2 := HL.out.2
            simp [intOf, bvI, -BitVec.toNat_and]; omega

theorem specSpotsOf_any (M : BitVec 64) (w : World) :
    Calls Tryz.prog 9 #[.int .u64 (bvI M)] w fun e w' => ∃ v, e = .returned v ∧ w'.ownsRow w.heap.size 24 1 v (spL M 64).length (u64L (spL M 64)) ∧ Below w.heap.size w w' := by
  have hs := Lib.hid (l07Spots_any M w)
  go_enter Tryz.func9, Tryz.ntmps9
  go_wp2_with fail
  refine hs.out.mono ?_; rintro e w1 ⟨v, rfl, o1, k1⟩
  go_wp2_with fail
  go_ret
  exact ⟨_, rfl, o1, k1⟩
end Go.Proofs.YtiinkfnamhcekaaGreatDoor

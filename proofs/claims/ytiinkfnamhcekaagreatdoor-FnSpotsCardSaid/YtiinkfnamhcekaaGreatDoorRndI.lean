/-
  The number of rounds of a repair: what both sides' functions return. Condition of the program's: its variables hold their own errors.
-/
import Derived.Test.YtiinkfnamhcekaaGreatDoorRndT
namespace Go.Proofs.YtiinkfnamhcekaaGreatDoor
open Go.RowKit

/-! ### THE REFERENCE -/
theorem dns0 : dnsB (fun _ => 0) = true := by decide +kernel
set_option maxRecDepth 100000 in
set_option maxHeartbeats 2000000 in
theorem specRepairCells_all (f : Nat → Int) (hf : S16 f) (hd : dnsB f = true) (w : World) :
    Calls Tryz.prog 17 #[.agg (arrV .i16 64 f), .int .u64 (bvI 18446744073709551615#64)] w fun e w' => e = .returned (.tuple #[.agg (arrV .i16 64 fun _ => 0), .int .i64 0, .int .i64 6]) ∧ Below w.heap.size w w' := by
  have a1 := (HasArr.new w 37 .i16 64 f).alloc (.cells #[.int .i16 0, .int .i16 0, .int .i16 0, .int .i16 0, .int .i16 0, .int .i16 0, .int .i16 0, .int .i16 0, .int .i16 0, .int .i16 0, .int .i16 0, .int .i16 0, .int .i16 0, .int .i16 0, .int .i16 0, .int .i16 0, .int .i16 0, .int .i16 0, .int .i16 0, .int .i16 0, .int .i16 0, .int .i16 0, .int .i16 0, .int .i16 0, .int .i16 0, .int .i16 0, .int .i16 0, .int .i16 0, .int .i16 0, .int .i16 0, .int .i16 0, .int .i16 0, .int .i16 0, .int .i16 0, .int .i16 0, .int .i16 0, .int .i16 0, .int .i16 0, .int .i16 0, .int .i16 0, .int .i16 0, .int .i16 0, .int .i16 0, .int .i16 0, .int .i16 0, .int .i16 0, .int .i16 0, .int .i16 0, .int .i16 0, .int .i16 0, .int .i16 0, .int .i16 0, .int .i16 0, .int .i16 0, .int .i16 0, .int .i16 0, .int .i16 0, .int .i16 0, .int .i16 0, .int .i16 0, .int .i16 0, .int .i16 0, .int .i16 0, .int .i16 0] 37)
  have a2 := HasArr.zero (w.alloc (.cells (arrV .i16 64 f) 37)) 37 (b := w.heap.size + 1) (by simp)
  have k0 := ((Below.refl w.heap.size w).alloc (Nat.le_refl _) (.cells (arrV .i16 64 f) 37)).alloc (by simp) (.cells #[.int .i16 0, .int .i16 0, .int .i16 0, .int .i16 0, .int .i16 0, .int .i16 0, .int .i16 0, .int .i16 0, .int .i16 0, .int .i16 0, .int .i16 0, .int .i16 0, .int .i16 0, .int .i16 0, .int .i16 0, .int .i16 0, .int .i16 0, .int .i16 0, .int .i16 0, .int .i16 0, .int .i16 0, .int .i16 0, .int .i16 0, .int .i16 0, .int .i16 0, .int .i16 0, .int .i16 0, .int .i16 0, .int .i16 0, .int .i16 0, .int .i16 0, .int .i16 0, .int .i16 0, .int .i16 0, .int .i16 0, .int .i16 0, .int .i16 0, .int .i16 0, .int .i16 0, .int .i16 0, .int .i16 0, .int .i16 0, .int .i16 0, .int .i16 0, .int .i16 0, .int .i16 0, .int .i16 0, .int .i16 0, .int .i16 0, .int .i16 0, .int .i16 0, .int .i16 0, .int .i16 0, .int .i16 0, .int .i16 0, .int .i16 0, .int .i16 0, .int .i16 0, .int .i16 0, .int .i16 0, .int .i16 0, .int .i16 0, .int .i16 0, .int .i16 0] 37)
  have hp := fun W (h : HasArr W w.heap.size 37 .i16 64 f) => l03PrintAt_any w.heap.size 0 f hf W (PartA.of_arr h)
  rw [hd] at hp
  have hall : ~~~18446744073709551615#64 = 0#64 := by decide
  have h00 := zero_bv
  have Hp := Lib.hid hp; clear hp hd hf
  go_enter Tryz.func17, Tryz.ntmps17
  go_wp2_with fail
  refine (Hp.out _ a1).mono ?_; rintro e w2 ⟨rfl, hb2⟩
  have k2 := k0.trans (hb2.mono k0.size)
  have q2 := a2.below hb2 a2.lt
  clear a1 a2 hb2 k0
  go_wp2_with (first | (refine wpList_yield rfl (run_not_bv (a := 18446744073709551615#64) rfl rfl) ?_; rw [hall]) | (refine wpList_store_arr (g := fun _ => 0) q2 _ _ _ rfl rfl rfl (by rw [zeroArr16]; rfl) sizePrint ?_))
  refine bodyPost_ret (v := .tuple #[.agg (arrV .i16 64 fun _ => 0), .int .i64 0, .int .i64 6]) ?_ rfl ⟨rfl, below_setRow k2 (by omega) _⟩
  exact resultsRowTmp2 rfl _ _ _ _ _ _ _ rfl (q2.setRow .i16 fun _ => 0) Tryz.underlying37 rfl (by rw [arrV_size]; exact sizePrint) _ _ rfl rfl

/-! ### THE PROGRAM -/
set_option maxHeartbeats 1000000 in
theorem rim_any (m : BitVec 64) (w : World) :
    Calls Tryz.prog 65 #[.int .u64 (bvI m)] w fun e w' => e = .returned (.int .u64 (bvI (rimB m))) ∧ Below w.heap.size w w' := by
  have hg := Lib.hid (grown_any (~~~m) w)
  go_enter Tryz.func65, Tryz.ntmps65
  go_wp2_with (refine wpList_yield rfl (run_not_bv (a := m) rfl rfl) ?_)
  refine hg.out.mono ?_; rintro e w2 ⟨rfl, hb2⟩
  go_wp2_with (refine wpList_yield rfl (run_and_bv (a := m) (b := growB (~~~m)) rfl rfl rfl) ?_)
  go_ret
  exact ⟨rfl, hb2⟩

/-- Masks as cells. -/
def csL (l : List (BitVec 64)) : List Value := l.map fun m => .int .u64 (bvI m)
theorem csL_len (l : List (BitVec 64)) : (csL l).length = l.length := by simp [csL]
theorem csL_snoc (l : List (BitVec 64)) (b : BitVec 64) : csL (l ++ [b]) = csL l ++ [.int .u64 (bvI b)] := by simp [csL]
theorem csInfo : (Tryz.prog.info? 55).map (fun i => (i.zero, i.size, i.bytes)) = some (some (.int .u64 0), 1, 8) := by kernel_rfl
section
variable {ops : Array Oper} {rest : List Oper} {o : Oper} {a : Act} {Q : Exit → Act → World → Prop} {w : World}
theorem grownBy_allocR {w w' : World} {o : Obj} {row : Option Nat} (h : (w.alloc o).grownBy w' row) : w.grownBy w' row :=
  ⟨h.os, h.tape, h.output, by have := h.size; simp at this; omega, fun k hk hne => (h.block k (by simp; omega) hne).trans (Below.heap_alloc w o k hk)⟩
/-- 'append(s, x)' of one mask. -/
theorem wpList_append_cs (hgd : o.guard = none) (s x : Operand) (ho : o.op = .call { callee := .builtin .append, args := #[s, x], argTypes := #[86, 86] })
    {L n : Nat} {v : Value} {l : List (BitVec 64)} {b : BitVec 64} (hs : a.eval s = v) (hown : w.ownsRow L 55 1 v n (csL l)) (hx : a.eval x = .slice (some ⟨w.heap.size, 0, none⟩) 1 1) (hn : n ≤ 1000000) (hL : L ≤ w.heap.size)
    (h : ∀ v' w', w'.ownsRow L 55 1 v' (n + 1) (csL (l ++ [b])) → Below L w w' → wpList Tryz.prog ops Q rest (a.put o.dst v') w') :
    wpList Tryz.prog ops Q (o :: rest) a (w.alloc (.cells #[.int .u64 (bvI b)] 55)) := by
  obtain ⟨i0, hi, hz0, hz1, hz2⟩ := info_parts csInfo
  refine wpList_append_own_at _ hgd s x 86 ho L 55 i0 (.int .u64 0) 1 8 Tryz.underlying86 hi hz0 hz1 hz2 rfl (by decide) v n (csL l) hs (hown.alloc _) ⟨w.heap.size, 0, none⟩ 1 1 [.int .u64 (bvI b)] hx rfl (cell_one_new _ _ _) (by simp [Value.oneCell']) (by unfold maxLen; omega) (by omega) (by simp; omega) ?_
  intro v' w' h1 h2 _ _
  refine h v' w' ?_ ?_
  · rw [csL_snoc]; exact h1
  · exact Below.grown (Below.refl _ _) (grownBy_allocR h2) hL (fun k hk => (hown.lt k hk).1)
theorem own_belowR {w w' : World} {base size n : Nat} {e : TypeId} {v : Value} {l : List Value} (h : w.ownsRow base e size v n l) (hb : Below w.heap.size w w') : w'.ownsRow base e size v n l :=
  h.kept (row := none) ⟨hb.os, hb.tape, hb.output, hb.size, fun i hi _ => hb.block i hi⟩ (by cases v.ownBlock <;> simp)
theorem own_isSlice {w : World} {base size n : Nat} {e : TypeId} {v : Value} {l : List Value} (h : w.ownsRow base e size v n l) : ∃ A cap, v = .slice A n cap := by
  rcases h.2 with ⟨h1, h2⟩ | ⟨g, cap, cur, h1, _⟩
  · subst h2; exact ⟨_, _, h1⟩
  · exact ⟨_, _, h1⟩
end
/-- The rims of the rounds. -/
def rimL (m : BitVec 64) (n : Nat) : List (BitVec 64) := (List.range n).map fun i => rimB (itR m i)
theorem rimL_succ (m : BitVec 64) (n : Nat) : rimL m (n + 1) = rimL m n ++ [rimB (itR m n)] := by simp [rimL, List.range_succ]

set_option maxRecDepth 100000 in
set_option maxHeartbeats 4000000 in
theorem rimsOf_ok (m : BitVec 64) (N : Nat) (hN : N ≤ 64) (h0 : itR m N = 0#64) (hi : ∀ i, i < N → itR m i ≠ 0#64) (hm : m ≠ 18446744073709551615#64) (w : World) :
    Calls Tryz.prog 51 #[.int .u64 (bvI m)] w fun e w' => ∃ v, e = .returned (.tuple #[v, .nilIface]) ∧ w'.ownsRow w.heap.size 55 1 v N (csL (rimL m N)) ∧ Below w.heap.size w w' := by
  have hne : (bvI m == 18446744073709551615) = false := beq_eq_false_iff_ne.2 (fun e => hm (bvI_inj.1 (e.trans rfl)))
  have HI := Lib.hid hi; clear hi hm
  have o1 := World.ownsRow_lit (base := w.heap.size) (e := 55) (size := 1) w #[] 0 (Nat.le_refl _) (Nat.zero_le _) rfl
  have k0 := (Below.refl w.heap.size w).alloc (Nat.le_refl _) (.cells #[] 55)
  have Hr := Lib.hid (fun X W => rim_any X W)
  have hmm : Hid (bvI (itR m 0) = bvI m) := Lib.hid rfl
  go_enter Tryz.func51, Tryz.ntmps51
  go_wp2_with fail
  go_loopw [4, 5] (fun sv lv wr => ∃ n : Nat, n ≤ N ∧ lv = .int .u64 (bvI (itR m n)) ∧ wr.ownsRow w.heap.size 55 1 sv n (csL (rimL m n)) ∧ Below w.heap.size w wr) (fun sv _ _ => match sv with | .slice _ n _ => N - n | _ => 0)
  case atStart => exact ⟨0, by omega, rfl, o1, k0⟩
  case round =>
    clear o1 k0
    obtain ⟨n, hnN, rfl, hown, hB⟩ := hrel
    obtain ⟨A, cap, rfl⟩ := own_isSlice hown
    have h00 := zero_bv
    by_cases hlt : n < N
    · have hz : (bvI (itR m n) == 0) = false := beq_eq_false_iff_ne.2 (fun e => HI.out n hlt (bvI_inj.1 (e.trans zero_bv.symm)))
      have hz2 : ¬ bvI (itR m n) = 0 := beq_eq_false_iff_ne.1 hz
      have hn2 : Hid (itR m n &&& ~~~rimB (itR m n) = itR m (n + 1)) := Lib.hid rfl
      have hn3 : Hid (rimL m n ++ [rimB (itR m n)] = rimL m (n + 1)) := Lib.hid (rimL_succ m n).symm
      have HB := Lib.hid hB; clear hB
      generalize itR m n = X at *
      generalize hG : rimL m n = G at *
      have HR := Lib.hid (Hr.out X wr)
      go_wp2_with fail
      refine HR.out.mono ?_; rintro e w4 ⟨rfl, hb4⟩
      have hown4 := own_belowR hown hb4
      have hB4 := HB.out.trans (hb4.mono HB.out.size)
      have hz4 : w.heap.size ≤ w4.heap.size := hB4.size
      clear hown hb4
      go_wp2_with (at_builtin; refine wpList_append_cs (b := rimB X) rfl _ _ rfl rfl hown4 rfl (by omega) hz4 ?_)
      intro v2 w5 o5 hb5
      have hB5 := hB4.trans hb5
      obtain ⟨A2, cap2, rfl⟩ := own_isSlice o5
      clear hown4 hb5 hB4 hz4
      go_wp2_with (refine wpList_yield rfl (run_andNot_bv (a := X) (b := rimB X) rfl rfl rfl) ?_)
      go_roundw
      case rel => exact ⟨n + 1, by omega, by rw [hn2.out], by rw [← hn3.out]; exact o5, hB5⟩
      case measure => simp; omega
    · obtain rfl : n = N := by omega
      rw [h0]
      go_wp2_with fail
      go_ret2
      exact ⟨_, rfl, hown, hB⟩

set_option maxRecDepth 100000 in
set_option maxHeartbeats 1000000 in
theorem roundsFor_ok (m : BitVec 64) (N : Nat) (hN : N ≤ 64) (h0 : itR m N = 0#64) (hi : ∀ i, i < N → itR m i ≠ 0#64) (hm : m ≠ 18446744073709551615#64) (w : World) :
    Calls Tryz.prog 37 #[.int .u64 (bvI m)] w fun e w' => e = .returned (.tuple #[.int .i64 (N : Int), .nilIface]) ∧ Below w.heap.size w w' := by
  have H := Lib.hid (rimsOf_ok m N hN h0 hi hm w)
  clear h0 hi hm
  go_enter Tryz.func37, Tryz.ntmps37
  go_wp2_with fail
  refine H.out.mono ?_; rintro e w2 ⟨v, rfl, o2, hb2⟩
  obtain ⟨A, cap, rfl⟩ := own_isSlice o2
  clear o2
  go_wp2_with fail
  go_ret2
  exact ⟨rfl, hb2⟩

set_option maxRecDepth 100000 in
set_option maxHeartbeats 1000000 in
theorem rimsOf_all (s : Ers) (w : World) (hE : ErrEnv s w) :
    Calls Tryz.prog 51 #[.int .u64 (bvI 18446744073709551615#64)] w fun e w' => e = .returned (.tuple #[.slice none 0 0, errV s.enotfound]) ∧ Below w.heap.size w w' := by
  have h1 : bvI 18446744073709551615#64 = 18446744073709551615 := rfl
  have ce := hE.c_enotfound
  rw [h1]
  go_enter Tryz.func51, Tryz.ntmps51
  go_wp2_with fail
  go_quiet (fail)
  go_wp2
  go_ret2
  exact ⟨rfl, below_drewA (Below.refl _ _) nq⟩

set_option maxRecDepth 100000 in
set_option maxHeartbeats 1000000 in
theorem roundsFor_all (s : Ers) (w : World) (hE : ErrEnv s w) :
    Calls Tryz.prog 37 #[.int .u64 (bvI 18446744073709551615#64)] w fun e w' => e = .returned (.tuple #[.int .i64 0, errV s.enotfound]) ∧ Below w.heap.size w w' := by
  have H := Lib.hid (rimsOf_all s w hE)
  go_enter Tryz.func37, Tryz.ntmps37
  go_wp2_with fail
  refine H.out.mono ?_; rintro e w2 ⟨rfl, hb2⟩
  go_wp2_with fail
  go_ret2
  exact ⟨rfl, hb2⟩

/-! ### BOTH -/
set_option maxRecDepth 100000 in
set_option maxHeartbeats 1000000 in
theorem RoundsFor_ex (s : Ers) (m : BitVec 64) (R c : Int) (v : Value) (hv : IsCode s v c) (w : World) (h : Calls Tryz.prog 37 #[.int .u64 (bvI m)] w fun e w' => e = .returned (.tuple #[.int .i64 R, v]) ∧ Below w.heap.size w w') (hE : ErrEnv s w) :
    Calls Tryz.prog 18 #[.int .u64 (bvI m)] w fun e w' => e = .returned (.tuple #[.int .i64 R, .int .i64 c]) ∧ Below w.heap.size w w' := by
  have H := Lib.hid h; clear h
  have HE := Lib.hid hE; clear hE
  go_enter Tryz.func18, Tryz.ntmps18
  go_wp2_with fail
  refine H.out.mono ?_; rintro e w2 ⟨rfl, hb2⟩
  have HE2 := Lib.hid (HE.out.below hb2 (Nat.le_refl _))
  clear HE
  go_wp2_with (go_at_call 36; refine (codedInt_any hv R _ HE2.out).mono ?_; rintro e w3 ⟨rfl, rfl⟩)
  go_ret2
  exact ⟨rfl, hb2⟩

end Go.Proofs.YtiinkfnamhcekaaGreatDoor

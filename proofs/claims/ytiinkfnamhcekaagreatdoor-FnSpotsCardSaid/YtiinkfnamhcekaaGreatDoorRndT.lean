/-
  The number of rounds of a repair: what both sides' functions return. Condition of the program's: its variables hold their own errors.
-/
import Derived.Test.YtiinkfnamhcekaaGreatDoorRndS
import Derived.Test.YtiinkfnamhcekaaGreatDoorErrs
import Derived.Test.YtiinkfnamhcekaaGreatDoorGrow
import Derived.Test.YtiinkfnamhcekaaGreatDoorOwn
import Derived.Maps.AppendAt
namespace Go.Proofs.YtiinkfnamhcekaaGreatDoor
open Go.RowKit

/-! ### THE REFERENCE -/
/-- Cells after some rounds. -/
def clF (f : Nat → Int) (m : BitVec 64) : Nat → Nat → Int
  | 0 => f
  | i + 1 => nwF (clF f m i) (itR m i) 64
theorem clF_s {f : Nat → Int} (hf : S16 f) (m : BitVec 64) : ∀ i, S16 (clF f m i)
  | 0 => hf
  | i + 1 => nwF_s (clF_s hf m i) _ _
theorem notB (m : BitVec 64) : bvI (~~~m) = 18446744073709551615 - bvI m := by
  have := m.isLt
  unfold bvI
  rw [BitVec.toNat_not]; omega

theorem resultsRowTmp2 {P : Program} {fn : Func} {p q q2 : Tmp} {ty : TypeId} (h : fn.results = #[.cell p ty, .tmp q, .tmp q2]) (tmps : Array Value) (w : World) (g : Nat) (t : TypeId) (cs : Array Value) (fr : Nat × Nat) (d : TypeDesc)
    (hp : tmps.getD p undef = .pointer (some ⟨g, 0, none⟩)) (hg : w.heap[g]? = some (.cells cs t fr))
    (hu : P.underlying ty = some d) (hd : (match d with | .struct _ | .array _ _ => true | _ => false) = true) (hi : (P.info? ty).map (·.size) = some cs.size) (v v2 : Value) (hq : tmps.getD q undef = v) (hq2 : tmps.getD q2 undef = v2) :
    (results fn tmps).run P w = .ok (.tuple #[.agg cs, v, v2]) w := by
  have hp' : tmps[p]?.getD undef = .pointer (some ⟨g, 0, none⟩) := by simpa using hp
  have hq' : tmps[q]?.getD undef = v := by simpa using hq
  have hq2' : tmps[q2]?.getD undef = v2 := by simpa using hq2
  simp [results, h, hp', hq', hq2', asAddr, run_loadVar_row w g t ty cs fr d hg hu hd hi]
theorem notU_bv (a : BitVec 64) : bits .xor .u64 IntKind.u64.max (bvI a) = bvI (~~~a) := by
  have h1 : BitVec.ofInt 64 IntKind.u64.max = BitVec.allOnes 64 := by decide
  have h2 : BitVec.ofInt 64 (bvI a) = a := by unfold bvI; rw [BitVec.ofInt_natCast]; simp
  have h3 : BitVec.allOnes 64 ^^^ a = ~~~a := BitVec.eq_of_getLsbD_eq fun i hi => by rw [BitVec.getLsbD_xor, BitVec.getLsbD_not, BitVec.getLsbD_allOnes]; simp [hi]
  show IntKind.u64.wrap ((BitVec.ofInt 64 IntKind.u64.max ^^^ BitVec.ofInt 64 (bvI a)).toNat : Int) = _
  rw [h1, h2, h3]
  exact wrap_bv (~~~a)
theorem run_not_bv {P : Program} {ρ : Operand → Value} {o : Oper} {w : World} {T : TypeId} {x : Operand} {a : BitVec 64} (ho : o.op = .unOp .xor T x) (hx : ρ x = .int .u64 (bvI a)) :
    (execOp ρ o).run P w = .ok (.value (.int .u64 (bvI (~~~a)))) w := by
  have hw := notU_bv a
  unfold execOp
  simp [ho, hx, go_sem, eqGuard]
  exact hw

set_option maxRecDepth 100000 in
set_option maxHeartbeats 4000000 in
theorem specRepairCells_ok (f : Nat → Int) (hf : S16 f) (hd : dnsB f = true) (m : BitVec 64) (N : Nat) (hN : N ≤ 64) (h0 : itR m N = 0#64) (hi : ∀ i, i < N → itR m i ≠ 0#64) (hm : m ≠ 18446744073709551615#64) (w : World) :
    Calls Tryz.prog 17 #[.agg (arrV .i16 64 f), .int .u64 (bvI m)] w fun e w' => e = .returned (.tuple #[.agg (arrV .i16 64 (clF f m N)), .int .i64 (N : Int), .int .i64 0]) ∧ Below w.heap.size w w' := by
  have a1 := (HasArr.new w 37 .i16 64 f).alloc (.cells #[.int .i16 0, .int .i16 0, .int .i16 0, .int .i16 0, .int .i16 0, .int .i16 0, .int .i16 0, .int .i16 0, .int .i16 0, .int .i16 0, .int .i16 0, .int .i16 0, .int .i16 0, .int .i16 0, .int .i16 0, .int .i16 0, .int .i16 0, .int .i16 0, .int .i16 0, .int .i16 0, .int .i16 0, .int .i16 0, .int .i16 0, .int .i16 0, .int .i16 0, .int .i16 0, .int .i16 0, .int .i16 0, .int .i16 0, .int .i16 0, .int .i16 0, .int .i16 0, .int .i16 0, .int .i16 0, .int .i16 0, .int .i16 0, .int .i16 0, .int .i16 0, .int .i16 0, .int .i16 0, .int .i16 0, .int .i16 0, .int .i16 0, .int .i16 0, .int .i16 0, .int .i16 0, .int .i16 0, .int .i16 0, .int .i16 0, .int .i16 0, .int .i16 0, .int .i16 0, .int .i16 0, .int .i16 0, .int .i16 0, .int .i16 0, .int .i16 0, .int .i16 0, .int .i16 0, .int .i16 0, .int .i16 0, .int .i16 0, .int .i16 0, .int .i16 0] 37)
  have a2 := HasArr.zero (w.alloc (.cells (arrV .i16 64 f) 37)) 37 (b := w.heap.size + 1) (by simp)
  have k0 := ((Below.refl w.heap.size w).alloc (Nat.le_refl _) (.cells (arrV .i16 64 f) 37)).alloc (by simp) (.cells #[.int .i16 0, .int .i16 0, .int .i16 0, .int .i16 0, .int .i16 0, .int .i16 0, .int .i16 0, .int .i16 0, .int .i16 0, .int .i16 0, .int .i16 0, .int .i16 0, .int .i16 0, .int .i16 0, .int .i16 0, .int .i16 0, .int .i16 0, .int .i16 0, .int .i16 0, .int .i16 0, .int .i16 0, .int .i16 0, .int .i16 0, .int .i16 0, .int .i16 0, .int .i16 0, .int .i16 0, .int .i16 0, .int .i16 0, .int .i16 0, .int .i16 0, .int .i16 0, .int .i16 0, .int .i16 0, .int .i16 0, .int .i16 0, .int .i16 0, .int .i16 0, .int .i16 0, .int .i16 0, .int .i16 0, .int .i16 0, .int .i16 0, .int .i16 0, .int .i16 0, .int .i16 0, .int .i16 0, .int .i16 0, .int .i16 0, .int .i16 0, .int .i16 0, .int .i16 0, .int .i16 0, .int .i16 0, .int .i16 0, .int .i16 0, .int .i16 0, .int .i16 0, .int .i16 0, .int .i16 0, .int .i16 0, .int .i16 0, .int .i16 0, .int .i16 0] 37)
  have hp := fun W (h : HasArr W w.heap.size 37 .i16 64 f) => l03PrintAt_any w.heap.size 0 f hf W (PartA.of_arr h)
  rw [hd] at hp
  have hne : ¬ bvI m = 18446744073709551615 := fun e => hm (bvI_inj.1 (e.trans rfl))
  have hb := bvI_bd m
  have hx := notB m
  have hmne : (bvI (~~~m) == 0) = false := beq_eq_false_iff_ne.2 (by omega)
  have Hp := Lib.hid hp; clear hp
  have HI := Lib.hid hi; clear hi
  have HF := Lib.hid (fun i => clF_s hf m i)
  have Hr := Lib.hid (fun i W h => l07Round_any w.heap.size 37 (clF f m i) (itR m i) (clF_s hf m i) W h)
  clear hd hf hm hx hne hb
  go_enter Tryz.func17, Tryz.ntmps17
  go_wp2_with fail
  refine (Hp.out _ a1).mono ?_; rintro e w2 ⟨rfl, hb2⟩
  have k2 := k0.trans (hb2.mono k0.size)
  have p2 := a1.below hb2 a1.lt
  have q2 := a2.below hb2 a2.lt
  clear a1 a2 hb2 k0
  have P2 := Lib.hid p2; have Q2 := Lib.hid q2; have K2 := Lib.hid k2; clear p2 q2 k2
  have hmm : bvI (itR m 0) = bvI m := rfl
  go_wp2_with (refine wpList_yield rfl (run_not_bv (a := m) rfl rfl) ?_)
  go_loopw [1, 7] (fun mv nv wr => ∃ i : Nat, i ≤ N ∧ mv = .int .u64 (bvI (itR m i)) ∧ nv = .int .i64 (i : Int) ∧ HasArr wr w.heap.size 37 .i16 64 (clF f m i) ∧ HasArr wr (w.heap.size + 1) 37 .i16 64 (fun _ => 0) ∧ Below w.heap.size w wr) (fun _ nv _ => N - (intOf nv).toNat)
  case atStart => exact ⟨0, by omega, rfl, rfl, P2.out, Q2.out, K2.out⟩
  case round =>
    obtain ⟨i, hin, rfl, rfl, hp, hq, hB⟩ := hrel
    have h00 := zero_bv
    by_cases hiN : i < N
    · have hz : (bvI (itR m i) == 0) = false := beq_eq_false_iff_ne.2 (fun e => HI.out i hiN (bvI_inj.1 (e.trans zero_bv.symm)))
      have hz2 : ¬ bvI (itR m i) = 0 := beq_eq_false_iff_ne.1 hz
      have hR := Lib.hid (Hr.out i wr hp)
      have HQ := Lib.hid hq; have HB := Lib.hid hB; clear hp hq hB
      have hn2 : Hid (rnd (itR m i) = itR m (i + 1)) := Lib.hid rfl
      have hn3 : Hid (nwF (clF f m i) (itR m i) 64 = clF f m (i + 1)) := Lib.hid rfl
      generalize itR m i = X at *
      generalize clF f m i = G at *
      go_wp2_with fail
      refine hR.out.mono ?_; rintro e w4 ⟨rfl, h4, hb4, h5⟩
      have hq4 : Hid (HasArr w4 (w.heap.size + 1) 37 .i16 64 (fun _ => 0)) := Lib.hid ((h5 _ (by omega) HQ.out.lt).trans HQ.out)
      have hB4 := HB.out.trans hb4
      clear hb4 h5
      go_wp2_with fail
      go_roundw
      case rel => exact ⟨i + 1, by omega, by rw [← hn2.out], by go_num, by rw [← hn3.out]; exact h4, hq4.out, hB4⟩
      case measure => simp [intOf]; omega
    · obtain rfl : i = N := by omega
      rw [h0]
      have KB := Lib.hid hB; clear hB
      go_wp2_with (first | (refine wpList_load_arr hp _ _ rfl rfl rfl Tryz.underlying37 sizePrint ?_) | (refine wpList_store_arr hq _ _ _ rfl rfl rfl rfl sizePrint ?_))
      refine bodyPost_ret (v := .tuple #[.agg (arrV .i16 64 (clF f m i)), .int .i64 (i : Int), .int .i64 0]) ?_ rfl ⟨rfl, below_setRow KB.out (by omega) _⟩
      exact resultsRowTmp2 rfl _ _ _ _ _ _ _ rfl (hq.setRow .i16 (clF f m i)) Tryz.underlying37 rfl (by rw [arrV_size]; exact sizePrint) _ _ rfl rfl
end Go.Proofs.YtiinkfnamhcekaaGreatDoor

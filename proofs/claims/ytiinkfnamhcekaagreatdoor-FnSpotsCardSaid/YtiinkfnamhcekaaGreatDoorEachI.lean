/-
  The iterator over the cells of a mask, for every loop body that leaves the library's table alone. Condition: that table holds what its text lays.
-/
import Derived.Test.YtiinkfnamhcekaaGreatDoorEach
import Derived.Test.YtiinkfnamhcekaaGreatDoorRndI
import Derived.Test.YtiinkfnamhcekaaGreatDoorQuietR
namespace Go.Proofs.YtiinkfnamhcekaaGreatDoor
open Go.RowKit Go.Shelf

attribute [local go_sem] Oper.semAt_some

/-- A cell as it is yielded. -/
def cellE (m : BitVec 64) (x : CellOf m) : Array Value := #[.int .i64 ((x.1 : Nat) : Int)]
theorem cs_len {m : BitVec 64} {pre : List (CellOf m)} {j : Nat} (h : pre.map (·.1) = bitsL m j) : pre.length ≤ j := by
  have := congrArg List.length h
  rw [List.length_map] at this
  have := bitsL_len m j
  omega

set_option maxRecDepth 100000 in
set_option maxHeartbeats 2000000 in
theorem each1_in (m : BitVec 64) (n : Nat) (hn : 1 ≤ n) (l Bs : Nat) (J Jx : List (CellOf m) → World → Prop)
    (hY : ∀ pre (x : CellOf m) W, J pre W → pre.length < 64 → YieldAt Fence.wide (n - 1) Tryz.prog l #[.int .i64 ((x.1 : Nat) : Int)] W fun e W' =>
      (e = .returned (.bool true) ∧ J (pre ++ [x]) W' ∧ KeepsT W W') ∨ (e = .returned (.bool false) ∧ Jx (pre ++ [x]) W'))
    (W : World) (hBs : W.cell? ⟨Bs, 0, none⟩ = some (.int .u64 (bvI m))) (hT : DbEnv W) (h0 : J [] W) :
    CallsIn Fence.wide n Tryz.prog 79 #[.func (.yield l) #[] #[], .pointer (some ⟨Bs, 0, none⟩)] W fun e W' => (∃ v, e = .returned v) ∧
      ((∃ ys : List (CellOf m), ys.map (·.1) = bitsL m 64 ∧ J ys W') ∨ (∃ pre, True ∧ Jx pre W')) := by
  have HT := Lib.hid hT; clear hT
  have HY := Lib.hid hY; clear hY
  refine callsIn_of_wp Tryz.func79 rfl trivial ?_ rfl
  simp only [Tryz.ntmps79, List.size_toArray, List.length_cons, List.length_nil, Nat.reduceAdd, Nat.reduceSub, Array.replicate_succ, Array.replicate_zero, List.push_toArray, List.append_toArray, List.nil_append, List.cons_append]
  gi_wp2
  gi_loopw [3] (fun lv wr => ∃ (L : BitVec 64) (pre : List (CellOf m)) (j : Nat), j ≤ 64 ∧ lv = .int .u64 (bvI L) ∧ LeftB m L j ∧ pre.map (·.1) = bitsL m j ∧ J pre wr ∧ KeepsT W wr) (fun lv _ => (intOf lv).toNat)
  case atStart => exact ⟨m, [], 0, by omega, rfl, LeftB.start m, rfl, h0, rfl⟩
  case round =>
    obtain ⟨L, pre, j, hj, rfl, hL, hp, hJ, hK⟩ := hrel
    have h00 := zero_bv
    by_cases hz : L = 0#64
    · have hd := LeftB.done hL hj hz
      subst hz
      rw [h00]
      gi_wp2
      go_end0
      exact ⟨⟨_, rfl⟩, .inl ⟨pre, by rw [hp, hd], hJ⟩⟩
    · have hne : (bvI L == 0) = false := beq_eq_false_iff_ne.2 (fun e => hz (bvI_inj.1 (e.trans zero_bv.symm)))
      have hne2 : ¬ bvI L = 0 := beq_eq_false_iff_ne.1 hne
      obtain ⟨hm, hb, hL2⟩ := LeftB.step hL hz
      have ht := (low_facts hz).1
      have hdec := and_dec L hz
      have hy := HY.out pre ⟨lowB L, ht, hm.1⟩ wr hJ (by have := cs_len hp; omega)
      have htz := tz_any L hz wr (HT.out.keeps hK)
      have HDec := Lib.hid hdec; have HB := Lib.hid hb; have HL2 := Lib.hid hL2; have HHy := Lib.hid hy; have HTz := Lib.hid htz
      clear hdec hb hL2 hy htz hL hj hz
      gi_wp2
      refine ⟨trivial, ?_⟩
      refine (callsIn_wide.2 HTz.out).mono ?_; rintro e w1 ⟨rfl, rfl⟩
      obtain ⟨fn, tmps, assign, body, hy, hR3⟩ := HHy.out
      gi_wp2
      refine hR3.mono ?_
      rintro e W3 (⟨rfl, hJ3, hk3⟩ | ⟨rfl, hJx3⟩)
      · have hbd := bits_dec_bv L
        gi_wp2
        go_roundw
        case rel => exact ⟨L &&& (L - 1#64), pre ++ [⟨lowB L, ht, hm.1⟩], lowB L + 1, by omega, rfl, HL2.out, by rw [List.map_append, hp, HB.out]; rfl, hJ3, keepsT_t hK hk3⟩
        case measure => simp only [intOf]; unfold bvI; have := HDec.out; omega
      · gi_wp2
        refine bodyPost_ret (results_none rfl _ _ _) rfl ?_
        exact ⟨⟨_, rfl⟩, .inr ⟨_, trivial, hJx3⟩⟩

set_option maxHeartbeats 1000000 in
theorem each_in (n : Nat) (m : BitVec 64) (w : World) :
    CallsIn Fence.wide n Tryz.prog 66 #[.int .u64 (bvI m)] w fun e w' => e = .returned (.func (.func 79) #[] #[.pointer (some ⟨w.heap.size, 0, none⟩)]) ∧ w' = w.alloc (.cells #[.int .u64 (bvI m)] 55) := by
  refine callsIn_of_wp Tryz.func66 rfl trivial ?_ rfl
  simp only [Tryz.ntmps66, List.size_toArray, List.length_cons, List.length_nil, Nat.reduceAdd, Nat.reduceSub, Array.replicate_succ, Array.replicate_zero, List.push_toArray, List.append_toArray, List.nil_append, List.cons_append]
  gi_wp2
  go_ret
  exact ⟨rfl, rfl⟩

theorem each_stops (m : BitVec 64) (n : Nat) (hn : 1 ≤ n) (Bs : Nat) (w : World) (hBs : Boxed w Bs 55 (.int .u64 (bvI m))) (hT : DbEnv w) :
    SeqStopsK Fence.wide n Tryz.prog 79 #[.pointer (some ⟨Bs, 0, none⟩)] (cellE m) KeepsT (fun l => l.map (·.1) = bitsL m 64) (fun _ => True) 64 w :=
  fun l J Jx W hW _ _ hY h0 => each1_in m n hn l Bs J Jx hY W
    (by rw [hW.cell (p := ⟨Bs, 0, none⟩) hBs.lt]; exact hBs.cell) (hT.below hW) h0
end Go.Proofs.YtiinkfnamhcekaaGreatDoor

/-
  The library's iterator over pieces of a list, at six of twenty-four values: each piece, for every loop body that leaves the iterator's variables alone. No condition.
-/
import Derived.RangeFuncNested
import Derived.RangeFuncLeaves
import Derived.RangeFuncBox
import Derived.Shelf.Abstract
import Derived.Shelf.RegionOpen
import Derived.OwnWalkIn
import Derived.TacticsInMore
import Derived.LoopNIn
import Derived.LoopIn
import Derived.Test.YtmphmpddlgcofaaDoorQuietTail
import Derived.Test.YtmphmpddlgcofaaDoorScT
namespace Go.Proofs.YtmphmpddlgcofaaDoor
open Go.RowKit Go.Shelf

attribute [local go_sem] Oper.semAt_some

/-- Two blocks lie as they lay. -/
def Keeps2 (b c : Nat) (W W' : World) : Prop := W'.heap[b]? = W.heap[b]? ∧ W'.heap[c]? = W.heap[c]?
theorem keeps2_t {b c : Nat} {A B C : World} (h : Keeps2 b c A B) (k : Keeps2 b c B C) : Keeps2 b c A C := ⟨k.1.trans h.1, k.2.trans h.2⟩
theorem keeps2_b {b c N : Nat} (hb : b < N) (hc : c < N) (W : World) (l : Nat) (o o' : Obj) (hl : N ≤ l) (_ : W.heap[l]? = some o) (_ : o.isCells = false) (_ : o.isWalk = false) : Keeps2 b c W (W.putObj l o') :=
  ⟨World.putObj_heap_other (by omega), World.putObj_heap_other (by omega)⟩
theorem Keeps2.of_below {b c : Nat} {W W' : World} (h : Below W.heap.size W W') (hb : b < W.heap.size) (hc : c < W.heap.size) : Keeps2 b c W W' := ⟨h.block b hb, h.block c hc⟩
/-- The first k of m numbers. -/
def fins (m k : Nat) : List (Fin m) := (List.finRange m).take k
theorem fins_zero (m : Nat) : fins m 0 = [] := by simp [fins]
theorem fins_succ {m k : Nat} (h : k < m) : fins m (k + 1) = fins m k ++ [⟨k, h⟩] := by
  unfold fins
  rw [List.take_succ_eq_append_getElem (by simpa using h)]
  simp
theorem fins_length {m k : Nat} (h : k ≤ m) : (fins m k).length = k := by simp [fins, h]
theorem fins_all (m : Nat) : fins m m = List.finRange m := by unfold fins; rw [List.take_of_length_le (by simp)]
theorem drewN_grown (W : World) (q : Nat) : W.grownBy (W.drewN q) none := ⟨rfl, rfl, rfl, Nat.le_refl _, fun _ _ _ => rfl⟩

theorem min624 : min (6 : Int) 24 = 6 := rfl
theorem min618 : min (6 : Int) 18 = 6 := rfl
theorem min612 : min (6 : Int) 12 = 6 := rfl
attribute [local go_sem] min624 min618 min612

/-- A piece as it is yielded. -/
def piE (b : Nat) (x : Fin 4) : Array Value := #[.slice (some ⟨b, 6 * x.1, none⟩) 6 6]

set_option maxRecDepth 100000 in
set_option maxHeartbeats 2000000 in
theorem chunk1_in (F : Fence) (m : Nat) (hf : F.fn 104) (hro : F.round = none) (hm : 1 ≤ m) (l Bs Bn b : Nat) (J Jx : List (Fin 4) → World → Prop)
    (hJd : ∀ pre W q, J pre W → J pre (World.drewN W q)) (hY : ∀ pre (x : Fin 4) W, J pre W → pre.length < 4 → YieldAt F (m - 1) Tryd.prog l (piE b x) W fun e W' =>
      (e = .returned (.bool true) ∧ J (pre ++ [x]) W' ∧ Keeps2 Bs Bn W W') ∨ (e = .returned (.bool false) ∧ Jx (pre ++ [x]) W'))
    (W : World) (hBs : W.cell? ⟨Bs, 0, none⟩ = some (.slice (some ⟨b, 0, none⟩) 24 24)) (hBn : W.cell? ⟨Bn, 0, none⟩ = some (.int .i64 6)) (h0 : J [] W) :
    CallsIn F m Tryd.prog 104 #[.func (.yield l) #[] #[], .pointer (some ⟨Bs, 0, none⟩), .pointer (some ⟨Bn, 0, none⟩)] W fun e W' => (∃ v, e = .returned v) ∧
      ((∃ ys, ys = List.finRange 4 ∧ J ys W') ∨ (∃ pre, (∃ k, k ≤ 4 ∧ pre = fins 4 k) ∧ Jx pre W')) := by
  refine callsIn_of_wp Tryd.func104 rfl hf ?_ hro
  simp only [Tryd.ntmps104, List.size_toArray, List.length_cons, List.length_nil, Nat.reduceAdd, Nat.reduceSub, Array.replicate_succ, Array.replicate_zero, List.push_toArray, List.append_toArray, List.nil_append, List.cons_append]
  gi_wp2
  gi_loopw [4] (fun i wr => ∃ k : Nat, k ≤ 4 ∧ ((k = 0 ∧ i = .int .i64 0) ∨ (k = 1 ∧ i = .int .i64 6) ∨ (k = 2 ∧ i = .int .i64 12) ∨ (k = 3 ∧ i = .int .i64 18) ∨ (k = 4 ∧ i = .int .i64 24)) ∧ J (fins 4 k) wr ∧ Keeps2 Bs Bn W wr) (fun i _ => 25 - (intOf i).toNat)
  case atStart => exact ⟨0, Nat.zero_le _, by simp, by rw [fins_zero]; exact h0, rfl, rfl⟩
  case round =>
    obtain ⟨k, hk, hk4, hJs, hnx⟩ := hrel
    have hbs : wr.cell? ⟨Bs, 0, none⟩ = some (.slice (some ⟨b, 0, none⟩) 24 24) := by rw [World.cell?_of_block (a := ⟨Bs, 0, none⟩) hnx.1]; exact hBs
    have hbn : wr.cell? ⟨Bn, 0, none⟩ = some (.int .i64 6) := by rw [World.cell?_of_block (a := ⟨Bn, 0, none⟩) hnx.2]; exact hBn
    clear hBs hBn
    rcases hk4 with ⟨rfl, rfl⟩ | ⟨rfl, rfl⟩ | ⟨rfl, rfl⟩ | ⟨rfl, rfl⟩ | ⟨rfl, rfl⟩
    rotate_right
    · gi_wp2
      go_end0
      exact ⟨⟨_, rfl⟩, .inl ⟨_, rfl, by rw [← fins_all]; exact hJs⟩⟩
    · gi_wp2
      refine wpIn_region_quiet_tail 5 (fun w' => ∃ q, w' = wr.drewN q) hro (by kernel_rfl) (by kernel_rfl) ⟨1, rfl⟩ ?_
      simp only [List.take_succ_cons, List.take_zero, List.drop_succ_cons, List.drop_zero]
      repeat (gi_big_quiet_step (fail))
      refine wpQuietIn_nil ?_
      rintro _ ⟨q, rfl⟩
      obtain ⟨fn, tmps, assign, body, hy, hR3⟩ := hY _ ⟨0, by omega⟩ (wr.drewN q) (hJd _ _ q hJs) (by rw [fins_length hk]; omega)
      unfold piE at hy
      dsimp only at hy
      clear hY
      gi_wp2
      refine hR3.mono ?_
      rintro e W3 (⟨rfl, hJ3, hk3⟩ | ⟨rfl, hJx3⟩)
      · have hbn3 : W3.cell? ⟨Bn, 0, none⟩ = some (.int .i64 6) := by rw [World.cell?_of_block (a := ⟨Bn, 0, none⟩) hk3.2]; exact hbn
        gi_wp2
        go_roundw
        case rel => exact ⟨0 + 1, by omega, by simp, by rw [fins_succ (by omega)]; exact hJ3, keeps2_t hnx hk3⟩
        case measure => simp [intOf]
      · gi_wp2
        refine bodyPost_ret (results_none rfl _ _ _) rfl ?_
        exact ⟨⟨_, rfl⟩, .inr ⟨_, ⟨0 + 1, by omega, (fins_succ (by omega)).symm⟩, hJx3⟩⟩
    · gi_wp2
      refine wpIn_region_quiet_tail 5 (fun w' => ∃ q, w' = wr.drewN q) hro (by kernel_rfl) (by kernel_rfl) ⟨1, rfl⟩ ?_
      simp only [List.take_succ_cons, List.take_zero, List.drop_succ_cons, List.drop_zero]
      repeat (gi_big_quiet_step (fail))
      refine wpQuietIn_nil ?_
      rintro _ ⟨q, rfl⟩
      obtain ⟨fn, tmps, assign, body, hy, hR3⟩ := hY _ ⟨1, by omega⟩ (wr.drewN q) (hJd _ _ q hJs) (by rw [fins_length hk]; omega)
      unfold piE at hy
      dsimp only at hy
      clear hY
      gi_wp2
      refine hR3.mono ?_
      rintro e W3 (⟨rfl, hJ3, hk3⟩ | ⟨rfl, hJx3⟩)
      · have hbn3 : W3.cell? ⟨Bn, 0, none⟩ = some (.int .i64 6) := by rw [World.cell?_of_block (a := ⟨Bn, 0, none⟩) hk3.2]; exact hbn
        gi_wp2
        go_roundw
        case rel => exact ⟨1 + 1, by omega, by simp, by rw [fins_succ (by omega)]; exact hJ3, keeps2_t hnx hk3⟩
        case measure => simp [intOf]
      · gi_wp2
        refine bodyPost_ret (results_none rfl _ _ _) rfl ?_
        exact ⟨⟨_, rfl⟩, .inr ⟨_, ⟨1 + 1, by omega, (fins_succ (by omega)).symm⟩, hJx3⟩⟩
    · gi_wp2
      refine wpIn_region_quiet_tail 5 (fun w' => ∃ q, w' = wr.drewN q) hro (by kernel_rfl) (by kernel_rfl) ⟨1, rfl⟩ ?_
      simp only [List.take_succ_cons, List.take_zero, List.drop_succ_cons, List.drop_zero]
      repeat (gi_big_quiet_step (fail))
      refine wpQuietIn_nil ?_
      rintro _ ⟨q, rfl⟩
      obtain ⟨fn, tmps, assign, body, hy, hR3⟩ := hY _ ⟨2, by omega⟩ (wr.drewN q) (hJd _ _ q hJs) (by rw [fins_length hk]; omega)
      unfold piE at hy
      dsimp only at hy
      clear hY
      gi_wp2
      refine hR3.mono ?_
      rintro e W3 (⟨rfl, hJ3, hk3⟩ | ⟨rfl, hJx3⟩)
      · have hbn3 : W3.cell? ⟨Bn, 0, none⟩ = some (.int .i64 6) := by rw [World.cell?_of_block (a := ⟨Bn, 0, none⟩) hk3.2]; exact hbn
        gi_wp2
        go_roundw
        case rel => exact ⟨2 + 1, by omega, by simp, by rw [fins_succ (by omega)]; exact hJ3, keeps2_t hnx hk3⟩
        case measure => simp [intOf]
      · gi_wp2
        refine bodyPost_ret (results_none rfl _ _ _) rfl ?_
        exact ⟨⟨_, rfl⟩, .inr ⟨_, ⟨2 + 1, by omega, (fins_succ (by omega)).symm⟩, hJx3⟩⟩
    · gi_wp2
      refine wpIn_region_quiet_tail 5 (fun w' => ∃ q, w' = wr.drewN q) hro (by kernel_rfl) (by kernel_rfl) ⟨1, rfl⟩ ?_
      simp only [List.take_succ_cons, List.take_zero, List.drop_succ_cons, List.drop_zero]
      repeat (gi_big_quiet_step (fail))
      refine wpQuietIn_nil ?_
      rintro _ ⟨q, rfl⟩
      obtain ⟨fn, tmps, assign, body, hy, hR3⟩ := hY _ ⟨3, by omega⟩ (wr.drewN q) (hJd _ _ q hJs) (by rw [fins_length hk]; omega)
      unfold piE at hy
      dsimp only at hy
      clear hY
      gi_wp2
      refine hR3.mono ?_
      rintro e W3 (⟨rfl, hJ3, hk3⟩ | ⟨rfl, hJx3⟩)
      · have hbn3 : W3.cell? ⟨Bn, 0, none⟩ = some (.int .i64 6) := by rw [World.cell?_of_block (a := ⟨Bn, 0, none⟩) hk3.2]; exact hbn
        gi_wp2
        go_roundw
        case rel => exact ⟨3 + 1, by omega, by simp, by rw [fins_succ (by omega)]; exact hJ3, keeps2_t hnx hk3⟩
        case measure => simp [intOf]
      · gi_wp2
        refine bodyPost_ret (results_none rfl _ _ _) rfl ?_
        exact ⟨⟨_, rfl⟩, .inr ⟨_, ⟨3 + 1, by omega, (fins_succ (by omega)).symm⟩, hJx3⟩⟩

set_option maxHeartbeats 1000000 in
theorem chunk_in (F : Fence) (m : Nat) (hf : F.fn 60) (hro : F.round = none) (A : Option Addr) (n cap : Nat) (w : World) :
    CallsIn F m Tryd.prog 60 #[.slice A n cap, .int .i64 6] w fun e w' => e = .returned (.func (.func 104) #[] #[.pointer (some ⟨w.heap.size, 0, none⟩), .pointer (some ⟨w.heap.size + 1, 0, none⟩)]) ∧ w' = (w.alloc (.cells #[.slice A n cap] 99)).alloc (.cells #[.int .i64 6] 3) := by
  refine callsIn_of_wp Tryd.func60 rfl hf ?_ hro
  simp only [Tryd.ntmps60, List.size_toArray, List.length_cons, List.length_nil, Nat.reduceAdd, Nat.reduceSub, Array.replicate_succ, Array.replicate_zero, List.push_toArray, List.append_toArray, List.nil_append, List.cons_append]
  gi_wp2
  go_ret
  exact ⟨rfl, rfl⟩

theorem chunk_stops (F : Fence) (m : Nat) (hf : F.fn 104) (hro : F.round = none) (hm : 1 ≤ m) (Bs Bn b : Nat) (w : World) (hlt : Bs < w.heap.size) (hlt' : Bn < w.heap.size)
    (hBs : w.cell? ⟨Bs, 0, none⟩ = some (.slice (some ⟨b, 0, none⟩) 24 24)) (hBn : w.cell? ⟨Bn, 0, none⟩ = some (.int .i64 6)) :
    SeqStopsK F m Tryd.prog 104 #[.pointer (some ⟨Bs, 0, none⟩), .pointer (some ⟨Bn, 0, none⟩)] (piE b) (Keeps2 Bs Bn) (fun l => l = List.finRange 4) (fun pre => ∃ k, k ≤ 4 ∧ pre = fins 4 k) 4 w :=
  fun l J Jx W hW hJ _ hY h0 => chunk1_in F m hf hro hm l Bs Bn b J Jx (fun pre W q h => hJ pre W _ none h (drewN_grown W q) (fun r e => by cases e)) hY W
    (by rw [hW.cell (p := ⟨Bs, 0, none⟩) hlt]; exact hBs) (by rw [hW.cell (p := ⟨Bn, 0, none⟩) hlt']; exact hBn) h0
end Go.Proofs.YtmphmpddlgcofaaDoor

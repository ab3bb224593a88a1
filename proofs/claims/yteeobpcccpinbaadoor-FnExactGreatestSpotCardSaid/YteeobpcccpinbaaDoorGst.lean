/-
  The greatest spot: what both sides' functions return. Condition of the program's: its variables hold their own errors.
-/
import Derived.Test.YteeobpcccpinbaaDoorSpotI
import Derived.Test.YteeobpcccpinbaaDoorOnesI
import Derived.Test.YteeobpcccpinbaaDoorRndI
namespace Go.Proofs.YteeobpcccpinbaaDoor
open Go.RowKit

/-- The first one of those with the most cells. -/
def gB (f : Nat → BitVec 64) : Nat → BitVec 64
  | 0 => f 0
  | i + 1 => if cntB (gB f i) 64 < cntB (f (i + 1)) 64 then f (i + 1) else gB f i
theorem spL_zero : ∀ i, spL 0#64 i = []
  | 0 => rfl
  | i + 1 => by rw [spL_no (by simp), spL_zero i]
theorem spL_pos {M : BitVec 64} (h : M ≠ 0#64) : 1 ≤ (spL M 64).length := by
  obtain ⟨x, hx, hb⟩ := bv_ne.1 h
  obtain ⟨C, hC, _⟩ := (spL_mem 64 x).2 ⟨x, hx, hb, .start⟩
  exact List.length_pos_of_mem hC
noncomputable def spF (M : BitVec 64) (j : Nat) : BitVec 64 := (spL M 64).getD j 0#64
noncomputable def gstT (M : BitVec 64) : Array Value := if M = 0#64 then #[.int .u64 0, .int .i64 6] else #[.int .u64 (bvI (gB (spF M) ((spL M 64).length - 1))), .int .i64 0]

set_option maxRecDepth 100000 in
set_option maxHeartbeats 2000000 in
theorem specGreatestSpot_any (M : BitVec 64) (w : World) :
    Calls Tryd.prog 22 #[.int .u64 (bvI M)] w fun e w' => e = .returned (.tuple (gstT M)) ∧ Below w.heap.size w w' := by
  have HS := Lib.hid (l07Spots_any M w)
  unfold gstT
  by_cases hM : M = 0#64
  · rw [if_pos hM]
    subst hM
    rw [spL_zero] at HS
    go_enter Tryd.func22, Tryd.ntmps22
    go_wp2_with fail
    refine HS.out.mono ?_; rintro e w2 ⟨v, rfl, o2, k2⟩
    obtain ⟨A, cap, rfl⟩ := own_isSlice o2
    simp only [List.length_nil]
    go_wp2_with fail
    go_ret2
    exact ⟨rfl, k2⟩
  rw [if_neg hM]
  have hp := spL_pos hM
  have hl := spL_len (M := M) 64
  have Hc := Lib.hid (fun X W => l07Count_any X W)
  go_enter Tryd.func22, Tryd.ntmps22
  go_wp2_with fail
  refine HS.out.mono ?_; rintro e w2 ⟨v, rfl, o2, k2⟩
  obtain ⟨A, cap, rfl, hcs⟩ := u64_cells o2 rfl
  have hcs' : (spL M 64).length = 0 ∨ ∃ g, A = some ⟨g, 0, none⟩ ∧ g < w2.heap.size ∧ ∀ j, j < (spL M 64).length → w2.cell? ⟨g, j, none⟩ = some (.int .u64 (bvI (spF M j))) := hcs
  clear hcs o2 HS
  generalize hn : (spL M 64).length = n at *
  generalize hF : spF M = F at *
  have Hn := Lib.hid (And.intro hn hF); clear hn hF
  rcases hcs' with h | ⟨g, rfl, hg, hc⟩
  · exfalso; omega
  have c0 := hc 0 (by omega)
  have HC := Lib.hid hc; clear hc
  have hn0 : ((n : Int) == 0) = false := beq_eq_false_iff_ne.2 (by omega)
  have hn1 : (n == 0) = false := beq_eq_false_iff_ne.2 (by omega)
  have hn2 : ¬ n = 0 := by omega
  go_wp2_with fail
  go_loopw [5, 6] (fun bv iv wr => ∃ k : Nat, k + 1 ≤ n ∧ iv = .int .i64 ((k + 1 : Nat) : Int) ∧ bv = .int .u64 (bvI (gB F k)) ∧ wr = w2) (fun _ iv _ => n - (intOf iv).toNat)
  case atStart => exact ⟨0, by omega, rfl, rfl, rfl⟩
  case round =>
    obtain ⟨k, hk, rfl, rfl, rfl⟩ := hrel
    by_cases hkn : k + 1 < n
    · have c1 := HC.out (k + 1) hkn
      have hG : Hid (gB F (k + 1) = if cntB (gB F k) 64 < cntB (F (k + 1)) 64 then F (k + 1) else gB F k) := Lib.hid rfl
      have q1 := Lib.hid (Hc.out (F (k + 1)) wr)
      have q2 := Lib.hid (Hc.out (gB F k) wr)
      generalize F (k + 1) = X at *
      generalize gB F k = Y at *
      generalize cntB X 64 = x at *
      generalize cntB Y 64 = y at *
      by_cases hlt : y < x
      · rw [if_pos hlt] at hG
        go_wp2_with fail
        refine q1.out.mono ?_; rintro e w3 ⟨rfl, rfl⟩
        go_wp2_with fail
        refine q2.out.mono ?_; rintro e w3 ⟨rfl, rfl⟩
        go_wp2_with fail
        go_roundw
        case rel => exact ⟨k + 1, by omega, by go_num, by rw [hG.out], trivial⟩
        case measure => simp [intOf]; omega
      · rw [if_neg hlt] at hG
        go_wp2_with fail
        refine q1.out.mono ?_; rintro e w3 ⟨rfl, rfl⟩
        go_wp2_with fail
        refine q2.out.mono ?_; rintro e w3 ⟨rfl, rfl⟩
        go_wp2_with fail
        go_roundw
        case rel => exact ⟨k + 1, by omega, by go_num, by rw [hG.out], trivial⟩
        case measure => simp [intOf]; omega
    · obtain rfl : n = k + 1 := by omega
      go_wp2_with fail
      go_ret2
      exact ⟨by rw [Hn.out.1, Hn.out.2]; rfl, k2⟩
end Go.Proofs.YteeobpcccpinbaaDoor

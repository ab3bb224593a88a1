/-
  The laws' own comparing, marking and asking of lists of numbers that a call handed back. Condition: at most 1048576 numbers.
-/
import Derived.Test.YtmibinfaafhgdaaDoorOwn
import Derived.Test.YtmibinfaafhgdaaDoorInts
namespace Go.Proofs.YtmibinfaafhgdaaDoor
open Go.RowKit

set_option maxHeartbeats 1000000 in
theorem eqInt64S_mine (L U L' U' n : Nat) (v u : Value) (xs : Nat → Int) (hn : n ≤ 1048576) (w : World) (h1 : Mine w L U 2 1 v n (fun j => .int .i64 (xs j))) (h2 : Mine w L' U' 2 1 u n (fun j => .int .i64 (xs j))) :
    Calls Tryd.prog 8 #[v, u] w fun e w' => e = .returned (.bool true) ∧ Below w.heap.size w w' := by
  obtain ⟨A, cap, rfl, h1⟩ := h1
  obtain ⟨A', cap', rfl, h2⟩ := h2
  by_cases hz : n = 0
  · subst hz
    go_enter Tryd.func8, Tryd.ntmps8
    go_wp2
    refine wp_loop_rounds 1 ?_
    rw [rounds_succ]
    go_wp2
    go_ret
    exact ⟨rfl, Below.refl _ _⟩
  · rcases h1 with h0 | ⟨b, m, h, rfl, _, _, hm, hr, he⟩
    · exact absurd h0 hz
    rcases h2 with h0 | ⟨b', m', h', rfl, _, _, hm', hr', he'⟩
    · exact absurd h0 hz
    go_enter Tryd.func8, Tryd.ntmps8
    go_wp2
    go_loopw [5] (fun i wr => ∃ k : Nat, k ≤ n ∧ i = .int .i64 k ∧ ∃ m, wr = w.drewN m) (fun i _ => n - (intOf i).toNat)
    case atStart => exact ⟨0, Nat.zero_le _, rfl, 0, rfl⟩
    case round =>
      obtain ⟨k, hk, rfl, m, rfl⟩ := hrel
      by_cases hkn : k < n
      · have c1 : w.cell? ⟨b, k, none⟩ = some (.int .i64 (xs k)) := by rw [hr.cell (by omega), he k (by omega)]
        have c2 : w.cell? ⟨b', k, none⟩ = some (.int .i64 (xs k)) := by rw [hr'.cell (by omega), he' k (by omega)]
        go_wp2_with fail
        go_quiet (fail)
        go_wp2
        go_roundw
        case rel => exact ⟨k + 1, by omega, by go_num, _, rfl⟩
        case measure => simp [intOf]; omega
      · go_wp2
        go_ret
        exact ⟨rfl, below_drewI (Below.refl _ _) _⟩

set_option maxHeartbeats 1000000 in
theorem markInt64S_mine (L U n : Nat) (v : Value) (f : Nat → Value) (k0 : Int) (hk0 : 0 ≤ k0) (hk1 : k0 ≤ 100000000) (hn : n ≤ 1048576) (w : World) (h1 : Mine w L U 2 1 v n f) :
    Calls Tryd.prog 11 #[v, .int .i64 k0] w fun e w' => e = .returned (.int .i64 (k0 + n)) ∧ Mine w' L U 2 1 v n (fun j => .int .i64 (k0 + j)) ∧ Only L U w w' := by
  obtain ⟨A, cap, rfl, h1⟩ := h1
  by_cases hz : n = 0
  · subst hz
    go_enter Tryd.func11, Tryd.ntmps11
    go_wp2
    refine wp_loop_rounds 1 ?_
    rw [rounds_succ]
    go_wp2
    go_ret
    exact ⟨ret_int (by simp), .nil _ _ _ _ _ _ _ _, .refl _ _ _⟩
  · rcases h1 with h0 | ⟨b, m, h, rfl, hL, hU, hm, hr, he⟩
    · exact absurd h0 hz
    go_enter Tryd.func11, Tryd.ntmps11
    go_wp2
    go_loopw [1, 5] (fun q i wr => ∃ k : Nat, k ≤ n ∧ i = .int .i64 k ∧ q = .int .i64 (k0 + k) ∧ wr.rowIs b 2 m (fun j => if j < k then .int .i64 (k0 + j) else h j) ∧ Only L U w wr) (fun _ i _ => n - (intOf i).toNat)
    case atStart => exact ⟨0, Nat.zero_le _, rfl, by simp, hr.congr (fun j _ => by simp), .refl _ _ _⟩
    case round =>
      obtain ⟨k, hk, rfl, rfl, hR, hO⟩ := hrel
      by_cases hkn : k < n
      · have c2 := hR.cell (i := k) (by omega)
        have f2 := hR.frozen k
        rw [if_neg (Nat.lt_irrefl k)] at c2
        have hst := row_step hR
        go_wp2
        go_roundw
        case rel => exact ⟨k + 1, by omega, by go_num, by go_num, hst, hO.setCell hL hU _⟩
        case measure => simp [intOf]; omega
      · go_wp2
        go_ret
        have e : k = n := by omega
        subst e
        exact ⟨rfl, ⟨_, cap, rfl, .inr ⟨b, m, _, rfl, hL, hU, hm, hR, fun j hj => if_pos (by omega)⟩⟩, hO⟩

set_option maxHeartbeats 1000000 in
theorem heldInt64S_mine (L U n : Nat) (v : Value) (k0 : Int) (hk0 : 0 ≤ k0) (hk1 : k0 ≤ 100000000) (hn : n ≤ 1048576) (w : World) (h1 : Mine w L U 2 1 v n (fun j => .int .i64 (k0 + j))) :
    Calls Tryd.prog 12 #[v, .int .i64 k0] w fun e w' => e = .returned (.int .i64 (k0 + n)) ∧ w = w' := by
  obtain ⟨A, cap, rfl, h1⟩ := h1
  by_cases hz : n = 0
  · subst hz
    go_enter Tryd.func12, Tryd.ntmps12
    go_wp2
    refine wp_loop_rounds 1 ?_
    rw [rounds_succ]
    go_wp2
    go_ret
    exact ⟨ret_int (by simp), rfl⟩
  · rcases h1 with h0 | ⟨b, m, h, rfl, hL, hU, hm, hr, he⟩
    · exact absurd h0 hz
    go_enter Tryd.func12, Tryd.ntmps12
    go_wp2
    go_loop [1, 5] (fun q i => ∃ k : Nat, k ≤ n ∧ i = .int .i64 k ∧ q = .int .i64 (k0 + k)) (fun _ i => n - (intOf i).toNat)
    case atStart => exact ⟨0, Nat.zero_le _, rfl, by simp⟩
    case round =>
      obtain ⟨k, hk, rfl, rfl⟩ := hrel
      by_cases hkn : k < n
      · have c1 : w.cell? ⟨b, k, none⟩ = some (.int .i64 (k0 + k)) := by rw [hr.cell (by omega), he k (by omega)]
        go_wp2
        go_round
        case rel => exact ⟨k + 1, by omega, by go_num, by go_num⟩
        case measure => simp [intOf]; omega
      · go_wp2
        go_ret
        have e : k = n := by omega
        subst e
        exact ⟨rfl, rfl⟩
end Go.Proofs.YtmibinfaafhgdaaDoor

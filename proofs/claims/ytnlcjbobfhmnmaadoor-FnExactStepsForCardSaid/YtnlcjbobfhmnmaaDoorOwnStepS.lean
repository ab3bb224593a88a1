/-
  The laws' own comparing, marking and asking of lists of structs (Step) that a call handed back. Condition: at most 1048576 of them.
-/
import Derived.Test.YtnlcjbobfhmnmaaDoorOwn
import Derived.Deep.RegionWith
namespace Go.Proofs.YtnlcjbobfhmnmaaDoor
open Go.RowKit

/-- The cells of a list of these. -/
def cellStepS (F0 F1 : Nat → Int) (j : Nat) : Value := if j % 2 = 0 then .int .u64 (F0 (j / 2)) else .int .i8 (F1 (j / 2))
/-- The cells behind the marking. -/
def markStepSF (k0 : Int) (j : Nat) : Value := if j % 2 = 0 then .int .u64 (k0 + (j : Int)) else .int .i8 (IntKind.i8.wrap (k0 + (j : Int)))
theorem cellStepS_0 (F0 F1 : Nat → Int) (k : Nat) : cellStepS F0 F1 (k * 2) = .int .u64 (F0 k) := by
  unfold cellStepS
  rw [if_pos (by omega), show (k * 2) / 2 = k by omega]
theorem cellStepS_1 (F0 F1 : Nat → Int) (k : Nat) : cellStepS F0 F1 (k * 2 + 1) = .int .i8 (F1 k) := by
  unfold cellStepS
  rw [if_neg (by omega), show (k * 2 + 1) / 2 = k by omega]
theorem markStepSF_0 (k0 : Int) (k : Nat) : markStepSF k0 (k * 2) = .int .u64 (k0 + 2 * k) := by
  unfold markStepSF
  rw [if_pos (by omega), show k0 + ((k * 2 : Nat) : Int) = k0 + 2 * k by omega]
theorem markStepSF_1 (k0 : Int) (k : Nat) : markStepSF k0 (k * 2 + 1) = .int .i8 (IntKind.i8.wrap (k0 + 2 * k + 1)) := by
  unfold markStepSF
  rw [if_neg (by omega), show k0 + ((k * 2 + 1 : Nat) : Int) = k0 + 2 * k + 1 by omega]
theorem row_stepStepS {w : World} {b : Nat} {t : TypeId} {n k : Nat} {f g : Nat → Value} (h : w.rowIs b t n (fun j => if j < k then f j else g j)) :
    (w.setCell ⟨b, k, none⟩ (f k)).rowIs b t n (fun j => if j < k + 1 then f j else g j) :=
  (h.set k (f k)).congr (fun j _ => by
    by_cases h1 : j = k
    · subst h1; simp
    · by_cases h2 : j < k
      · have h3 : j < k + 1 := by omega
        simp [h1, h2, h3]
      · have h3 : ¬ j < k + 1 := by omega
        simp [h1, h2, h3])

theorem below_drewOStepS {B : Nat} {a w : World} (h : Below B a w) (n : Nat) : Below B a (w.drewN n) := ⟨h.os, h.tape, h.output, h.size, h.block⟩
set_option maxHeartbeats 1000000 in
theorem eqStep_refl (x0 x1 : Int) (w : World) :
    Calls Tryd.prog 30 #[.agg #[.int .u64 (x0), .int .i8 (x1)], .agg #[.int .u64 (x0), .int .i8 (x1)]] w fun e w' => e = .returned (.bool true) ∧ Below w.heap.size w w' := by
  go_enter Tryd.func30, Tryd.ntmps30
  go_wp2
  go_ret
  refine ⟨rfl, ?_⟩
  repeat (first | exact Below.refl _ _ | assumption | apply Below.drew | apply below_drewOStepS | (refine Below.alloc ?_ (by first | omega | (simp; done) | (simp; omega)) _) | (refine Below.setCell ?_ (by first | omega | (simp; done) | (simp; omega)) _))

set_option maxHeartbeats 1000000 in
theorem eqStepS_mine (L U L' U' n : Nat) (v u : Value) (F0 F1 : Nat → Int) (hn : n ≤ 1048576) (w : World) (h1 : Mine w L U 60 2 v n (cellStepS F0 F1)) (h2 : Mine w L' U' 60 2 u n (cellStepS F0 F1)) :
    Calls Tryd.prog 14 #[v, u] w fun e w' => e = .returned (.bool true) ∧ Below w.heap.size w w' := by
  obtain ⟨A, cap, rfl, h1⟩ := h1
  obtain ⟨A', cap', rfl, h2⟩ := h2
  by_cases hz : n = 0
  · subst hz
    go_enter Tryd.func14, Tryd.ntmps14
    go_wp2
    refine wp_loop_rounds 1 ?_
    rw [rounds_succ]
    go_wp2
    go_ret
    exact ⟨rfl, Below.refl _ _⟩
  · rcases h1 with h0 | ⟨b, m, h, rfl, _, _, hm, hr, he⟩
    · exact absurd h0 hz
    rcases h2 with h0 | ⟨b', m', h', rfl, _, _, hm', hr', he'⟩
    · exact absurd h0 hz
    have hl := hr.lt
    have hl' := hr'.lt
    go_enter Tryd.func14, Tryd.ntmps14
    go_wp2
    go_loopw [5] (fun i wr => ∃ k : Nat, k ≤ n ∧ i = .int .i64 k ∧ Below w.heap.size w wr) (fun i _ => n - (intOf i).toNat)
    case atStart => exact ⟨0, Nat.zero_le _, rfl, Below.refl _ _⟩
    case round =>
      obtain ⟨k, hk, rfl, hB⟩ := hrel
      by_cases hkn : k < n
      · have c0 : wr.cell? ⟨b, k * 2, none⟩ = some (.int .u64 (F0 k)) := by rw [hB.cell (p := ⟨b, k * 2, none⟩) (by show b < w.heap.size; omega), hr.cell (by omega), he (k * 2) (by omega), cellStepS_0]
        have c1 : wr.cell? ⟨b, k * 2 + 1, none⟩ = some (.int .i8 (F1 k)) := by rw [hB.cell (p := ⟨b, k * 2 + 1, none⟩) (by show b < w.heap.size; omega), hr.cell (by omega), he (k * 2 + 1) (by omega), cellStepS_1]
        have d0 : wr.cell? ⟨b', k * 2, none⟩ = some (.int .u64 (F0 k)) := by rw [hB.cell (p := ⟨b', k * 2, none⟩) (by show b' < w.heap.size; omega), hr'.cell (by omega), he' (k * 2) (by omega), cellStepS_0]
        have d1 : wr.cell? ⟨b', k * 2 + 1, none⟩ = some (.int .i8 (F1 k)) := by rw [hB.cell (p := ⟨b', k * 2 + 1, none⟩) (by show b' < w.heap.size; omega), hr'.cell (by omega), he' (k * 2 + 1) (by omega), cellStepS_1]
        go_wp2_with fail
        go_region_with (go_at_call 30; refine (eqStep_refl _ _ _).mono ?_; rintro e w2 ⟨rfl, hb2⟩)
        all_goals
          go_wp2
          go_roundw
          case rel => exact ⟨k + 1, by omega, by go_num, hB.trans (Below.trans ((Below.refl _ _).drew) (Below.mono (by assumption) hB.size))⟩
          case measure => simp [intOf]; omega
      · go_wp2
        go_ret
        exact ⟨rfl, hB⟩

set_option maxHeartbeats 1000000 in
theorem markStepS_mine (L U n : Nat) (v : Value) (f : Nat → Value) (k0 : Int) (hk0 : 0 ≤ k0) (hk1 : k0 ≤ 4000000) (hn : n ≤ 1048576) (w : World) (h1 : Mine w L U 60 2 v n f) :
    Calls Tryd.prog 19 #[v, .int .i64 k0] w fun e w' => e = .returned (.int .i64 (k0 + 2 * n)) ∧ Mine w' L U 60 2 v n (markStepSF k0) ∧ Only L U w w' := by
  obtain ⟨A, cap, rfl, h1⟩ := h1
  by_cases hz : n = 0
  · subst hz
    go_enter Tryd.func19, Tryd.ntmps19
    go_wp2
    refine wp_loop_rounds 1 ?_
    rw [rounds_succ]
    go_wp2
    go_ret
    exact ⟨congrArg (fun x => Ending.returned (.int .i64 x)) (by omega), .nil _ _ _ _ _ _ _ _, .refl _ _ _⟩
  · rcases h1 with h0 | ⟨b, m, h, rfl, hL, hU, hm, hr, he⟩
    · exact absurd h0 hz
    go_enter Tryd.func19, Tryd.ntmps19
    go_wp2
    go_loopw [1, 5] (fun q i wr => ∃ k : Nat, k ≤ n ∧ i = .int .i64 k ∧ q = .int .i64 (k0 + 2 * k) ∧ wr.rowIs b 60 m (fun j => if j < k * 2 then markStepSF k0 j else h j) ∧ Only L U w wr) (fun _ i _ => n - (intOf i).toNat)
    case atStart => exact ⟨0, Nat.zero_le _, rfl, by simp, hr.congr (fun j _ => by simp), .refl _ _ _⟩
    case round =>
      obtain ⟨k, hk, rfl, rfl, hR, hO⟩ := hrel
      by_cases hkn : k < n
      · have c0 := hR.cell (i := k * 2) (by omega)
        have f0 := hR.frozen (k * 2)
        rw [if_neg (by omega)] at c0
        have c1 := hR.cell (i := k * 2 + 1) (by omega)
        have f1 := hR.frozen (k * 2 + 1)
        rw [if_neg (by omega)] at c1
        have hst0 := row_stepStepS hR
        rw [markStepSF_0] at hst0
        have hst1 := row_stepStepS (k := k * 2 + 1) hst0
        rw [markStepSF_1] at hst1
        have hst := hst1
        rw [show k * 2 + 1 + 1 = (k + 1) * 2 by omega] at hst
        clear hst0 hst1
        have Hst := Lib.hid hst; clear hst
        go_wp2
        go_roundw
        case rel => exact ⟨k + 1, by omega, by go_num, congrArg (Value.int .i64) (by omega), Hst.out, ((hO.setCell hL hU _).setCell hL hU _)⟩
        case measure => simp [intOf]; omega
      · go_wp2
        go_ret
        have e : k = n := by omega
        subst e
        exact ⟨rfl, ⟨_, cap, rfl, .inr ⟨b, m, _, rfl, hL, hU, hm, hR, fun j hj => if_pos (by omega)⟩⟩, hO⟩

set_option maxHeartbeats 1000000 in
theorem heldStepS_mine (L U n : Nat) (v : Value) (k0 : Int) (hk0 : 0 ≤ k0) (hk1 : k0 ≤ 4000000) (hn : n ≤ 1048576) (w : World) (h1 : Mine w L U 60 2 v n (markStepSF k0)) :
    Calls Tryd.prog 20 #[v, .int .i64 k0] w fun e w' => e = .returned (.int .i64 (k0 + 2 * n)) ∧ w = w' := by
  obtain ⟨A, cap, rfl, h1⟩ := h1
  by_cases hz : n = 0
  · subst hz
    go_enter Tryd.func20, Tryd.ntmps20
    go_wp2
    refine wp_loop_rounds 1 ?_
    rw [rounds_succ]
    go_wp2
    go_ret
    exact ⟨congrArg (fun x => Ending.returned (.int .i64 x)) (by omega), rfl⟩
  · rcases h1 with h0 | ⟨b, m, h, rfl, hL, hU, hm, hr, he⟩
    · exact absurd h0 hz
    go_enter Tryd.func20, Tryd.ntmps20
    go_wp2
    go_loop [1, 5] (fun q i => ∃ k : Nat, k ≤ n ∧ i = .int .i64 k ∧ q = .int .i64 (k0 + 2 * k)) (fun _ i => n - (intOf i).toNat)
    case atStart => exact ⟨0, Nat.zero_le _, rfl, by simp⟩
    case round =>
      obtain ⟨k, hk, rfl, rfl⟩ := hrel
      by_cases hkn : k < n
      · have c0 : w.cell? ⟨b, k * 2, none⟩ = some (.int .u64 (k0 + 2 * k)) := by rw [hr.cell (by omega), he (k * 2) (by omega), markStepSF_0]
        have c1 : w.cell? ⟨b, k * 2 + 1, none⟩ = some (.int .i8 (IntKind.i8.wrap (k0 + 2 * k + 1))) := by rw [hr.cell (by omega), he (k * 2 + 1) (by omega), markStepSF_1]
        go_wp2
        go_round
        case rel => exact ⟨k + 1, by omega, by go_num, congrArg (Value.int .i64) (by omega)⟩
        case measure => simp [intOf]; omega
      · go_wp2
        go_ret
        have e : k = n := by omega
        subst e
        exact ⟨rfl, rfl⟩

/-- The cells, one behind the other. -/
def listStepS (F0 F1 : Nat → Int) : Nat → List Value
  | 0 => []
  | k + 1 => listStepS F0 F1 k ++ [.int .u64 (F0 k), .int .i8 (F1 k)]
theorem listStepS_len (F0 F1 : Nat → Int) : ∀ k, (listStepS F0 F1 k).length = k * 2
  | 0 => rfl
  | k + 1 => by simp only [listStepS, List.length_append, listStepS_len F0 F1 k]; simp; omega
theorem listStepS_get (F0 F1 : Nat → Int) : ∀ (k j : Nat), j < k * 2 → (listStepS F0 F1 k)[j]?.getD undef = cellStepS F0 F1 j
  | 0, j, h => by omega
  | k + 1, j, h => by
    have hl := listStepS_len F0 F1 k
    by_cases hj : j < k * 2
    · rw [listStepS, List.getElem?_append_left (by omega)]
      exact listStepS_get F0 F1 k j hj
    · rw [listStepS, List.getElem?_append_right (by omega), hl]
      have : j = k * 2 ∨ j = k * 2 + 1 := by omega
      rcases this with rfl | rfl
      · rw [cellStepS_0, show k * 2 - k * 2 = 0 by omega]; rfl
      · rw [cellStepS_1, show k * 2 + 1 - k * 2 = 1 by omega]; rfl
theorem Mine.of_listStepS {F0 F1 : Nat → Int} {w : World} {L n : Nat} {v : Value} (h : w.ownsRow L 60 2 v n (listStepS F0 F1 n)) : Mine w L w.heap.size 60 2 v n (cellStepS F0 F1) :=
  (Mine.of_own h).congr fun j hj => listStepS_get F0 F1 n j hj
theorem infoStepS : (Tryd.prog.info? 60).map (fun i => (i.zero, i.size, i.bytes)) = some (some (.agg #[.int .u64 0, .int .i8 0]), 2, 16) := by kernel_rfl
end Go.Proofs.YtnlcjbobfhmnmaaDoor

/-
  The laws' own comparing, marking and asking of lists of structs (Setting) that a call handed back. Condition: at most 1048576 of them.
-/
import Derived.Test.YtmjoccgdpchjbaaDoorOwn
import Derived.Deep.RegionWith
namespace Go.Proofs.YtmjoccgdpchjbaaDoor
open Go.RowKit

/-- The cells of a list of these. -/
def cellSettingS (F0 F1 F2 : Nat → Int) (j : Nat) : Value := if j % 3 = 0 then .int .i8 (F0 (j / 3)) else if j % 3 = 1 then .int .i8 (F1 (j / 3)) else .int .i8 (F2 (j / 3))
/-- The cells behind the marking. -/
def markSettingSF (k0 : Int) (j : Nat) : Value := if j % 3 = 0 then .int .i8 (IntKind.i8.wrap (k0 + (j : Int))) else if j % 3 = 1 then .int .i8 (IntKind.i8.wrap (k0 + (j : Int))) else .int .i8 (IntKind.i8.wrap (k0 + (j : Int)))
theorem cellSettingS_0 (F0 F1 F2 : Nat → Int) (k : Nat) : cellSettingS F0 F1 F2 (k * 3) = .int .i8 (F0 k) := by
  unfold cellSettingS
  rw [if_pos (by omega), show (k * 3) / 3 = k by omega]
theorem cellSettingS_1 (F0 F1 F2 : Nat → Int) (k : Nat) : cellSettingS F0 F1 F2 (k * 3 + 1) = .int .i8 (F1 k) := by
  unfold cellSettingS
  rw [if_neg (by omega), if_pos (by omega), show (k * 3 + 1) / 3 = k by omega]
theorem cellSettingS_2 (F0 F1 F2 : Nat → Int) (k : Nat) : cellSettingS F0 F1 F2 (k * 3 + 2) = .int .i8 (F2 k) := by
  unfold cellSettingS
  rw [if_neg (by omega), if_neg (by omega), show (k * 3 + 2) / 3 = k by omega]
theorem markSettingSF_0 (k0 : Int) (k : Nat) : markSettingSF k0 (k * 3) = .int .i8 (IntKind.i8.wrap (k0 + 3 * k)) := by
  unfold markSettingSF
  rw [if_pos (by omega), show k0 + ((k * 3 : Nat) : Int) = k0 + 3 * k by omega]
theorem markSettingSF_1 (k0 : Int) (k : Nat) : markSettingSF k0 (k * 3 + 1) = .int .i8 (IntKind.i8.wrap (k0 + 3 * k + 1)) := by
  unfold markSettingSF
  rw [if_neg (by omega), if_pos (by omega), show k0 + ((k * 3 + 1 : Nat) : Int) = k0 + 3 * k + 1 by omega]
theorem markSettingSF_2 (k0 : Int) (k : Nat) : markSettingSF k0 (k * 3 + 2) = .int .i8 (IntKind.i8.wrap (k0 + 3 * k + 1 + 1)) := by
  unfold markSettingSF
  rw [if_neg (by omega), if_neg (by omega), show k0 + ((k * 3 + 2 : Nat) : Int) = k0 + 3 * k + 1 + 1 by omega]
theorem row_stepSettingS {w : World} {b : Nat} {t : TypeId} {n k : Nat} {f g : Nat → Value} (h : w.rowIs b t n (fun j => if j < k then f j else g j)) :
    (w.setCell ⟨b, k, none⟩ (f k)).rowIs b t n (fun j => if j < k + 1 then f j else g j) :=
  (h.set k (f k)).congr (fun j _ => by
    by_cases h1 : j = k
    · subst h1; simp
    · by_cases h2 : j < k
      · have h3 : j < k + 1 := by omega
        simp [h1, h2, h3]
      · have h3 : ¬ j < k + 1 := by omega
        simp [h1, h2, h3])

theorem below_drewOSettingS {B : Nat} {a w : World} (h : Below B a w) (n : Nat) : Below B a (w.drewN n) := ⟨h.os, h.tape, h.output, h.size, h.block⟩
set_option maxHeartbeats 1000000 in
theorem eqSetting_refl (x0 x1 x2 : Int) (w : World) :
    Calls Tryd.prog 24 #[.agg #[.int .i8 (x0), .int .i8 (x1), .int .i8 (x2)], .agg #[.int .i8 (x0), .int .i8 (x1), .int .i8 (x2)]] w fun e w' => e = .returned (.bool true) ∧ Below w.heap.size w w' := by
  go_enter Tryd.func24, Tryd.ntmps24
  go_wp2
  go_ret
  refine ⟨rfl, ?_⟩
  repeat (first | exact Below.refl _ _ | assumption | apply Below.drew | apply below_drewOSettingS | (refine Below.alloc ?_ (by first | omega | (simp; done) | (simp; omega)) _) | (refine Below.setCell ?_ (by first | omega | (simp; done) | (simp; omega)) _))

set_option maxHeartbeats 1000000 in
theorem eqSettingS_mine (L U L' U' n : Nat) (v u : Value) (F0 F1 F2 : Nat → Int) (hn : n ≤ 1048576) (w : World) (h1 : Mine w L U 29 3 v n (cellSettingS F0 F1 F2)) (h2 : Mine w L' U' 29 3 u n (cellSettingS F0 F1 F2)) :
    Calls Tryd.prog 27 #[v, u] w fun e w' => e = .returned (.bool true) ∧ Below w.heap.size w w' := by
  obtain ⟨A, cap, rfl, h1⟩ := h1
  obtain ⟨A', cap', rfl, h2⟩ := h2
  by_cases hz : n = 0
  · subst hz
    go_enter Tryd.func27, Tryd.ntmps27
    go_wp2
    refine wp_loop_rounds 1 ?_
    rw [rounds_succ]
    go_wp2
    go_ret
    exact ⟨rfl, Below.refl _ _⟩
  · rcases h1 with h0 | ⟨b, m, h, rfl, _, _, hm, hr, he⟩
    · exact absurd h0 hz
    rcases h2 with h0 | ⟨b', m', h', rfl, _, _, hm', hr', he'⟩
    · exact absurd h0 hz
    have hl := hr.lt
    have hl' := hr'.lt
    go_enter Tryd.func27, Tryd.ntmps27
    go_wp2
    go_loopw [5] (fun i wr => ∃ k : Nat, k ≤ n ∧ i = .int .i64 k ∧ Below w.heap.size w wr) (fun i _ => n - (intOf i).toNat)
    case atStart => exact ⟨0, Nat.zero_le _, rfl, Below.refl _ _⟩
    case round =>
      obtain ⟨k, hk, rfl, hB⟩ := hrel
      by_cases hkn : k < n
      · have c0 : wr.cell? ⟨b, k * 3, none⟩ = some (.int .i8 (F0 k)) := by rw [hB.cell (p := ⟨b, k * 3, none⟩) (by show b < w.heap.size; omega), hr.cell (by omega), he (k * 3) (by omega), cellSettingS_0]
        have c1 : wr.cell? ⟨b, k * 3 + 1, none⟩ = some (.int .i8 (F1 k)) := by rw [hB.cell (p := ⟨b, k * 3 + 1, none⟩) (by show b < w.heap.size; omega), hr.cell (by omega), he (k * 3 + 1) (by omega), cellSettingS_1]
        have c2 : wr.cell? ⟨b, k * 3 + 2, none⟩ = some (.int .i8 (F2 k)) := by rw [hB.cell (p := ⟨b, k * 3 + 2, none⟩) (by show b < w.heap.size; omega), hr.cell (by omega), he (k * 3 + 2) (by omega), cellSettingS_2]
        have d0 : wr.cell? ⟨b', k * 3, none⟩ = some (.int .i8 (F0 k)) := by rw [hB.cell (p := ⟨b', k * 3, none⟩) (by show b' < w.heap.size; omega), hr'.cell (by omega), he' (k * 3) (by omega), cellSettingS_0]
        have d1 : wr.cell? ⟨b', k * 3 + 1, none⟩ = some (.int .i8 (F1 k)) := by rw [hB.cell (p := ⟨b', k * 3 + 1, none⟩) (by show b' < w.heap.size; omega), hr'.cell (by omega), he' (k * 3 + 1) (by omega), cellSettingS_1]
        have d2 : wr.cell? ⟨b', k * 3 + 2, none⟩ = some (.int .i8 (F2 k)) := by rw [hB.cell (p := ⟨b', k * 3 + 2, none⟩) (by show b' < w.heap.size; omega), hr'.cell (by omega), he' (k * 3 + 2) (by omega), cellSettingS_2]
        go_wp2_with fail
        go_region_with (go_at_call 24; refine (eqSetting_refl _ _ _ _).mono ?_; rintro e w2 ⟨rfl, hb2⟩)
        all_goals
          go_wp2
          go_roundw
          case rel => exact ⟨k + 1, by omega, by go_num, hB.trans (Below.trans ((Below.refl _ _).drew) (Below.mono (by assumption) hB.size))⟩
          case measure => simp [intOf]; omega
      · go_wp2
        go_ret
        exact ⟨rfl, hB⟩

set_option maxHeartbeats 1000000 in
theorem markSettingS_mine (L U n : Nat) (v : Value) (f : Nat → Value) (k0 : Int) (hk0 : 0 ≤ k0) (hk1 : k0 ≤ 4000000) (hn : n ≤ 1048576) (w : World) (h1 : Mine w L U 29 3 v n f) :
    Calls Tryd.prog 28 #[v, .int .i64 k0] w fun e w' => e = .returned (.int .i64 (k0 + 3 * n)) ∧ Mine w' L U 29 3 v n (markSettingSF k0) ∧ Only L U w w' := by
  obtain ⟨A, cap, rfl, h1⟩ := h1
  by_cases hz : n = 0
  · subst hz
    go_enter Tryd.func28, Tryd.ntmps28
    go_wp2
    refine wp_loop_rounds 1 ?_
    rw [rounds_succ]
    go_wp2
    go_ret
    exact ⟨congrArg (fun x => Ending.returned (.int .i64 x)) (by omega), .nil _ _ _ _ _ _ _ _, .refl _ _ _⟩
  · rcases h1 with h0 | ⟨b, m, h, rfl, hL, hU, hm, hr, he⟩
    · exact absurd h0 hz
    go_enter Tryd.func28, Tryd.ntmps28
    go_wp2
    go_loopw [1, 5] (fun q i wr => ∃ k : Nat, k ≤ n ∧ i = .int .i64 k ∧ q = .int .i64 (k0 + 3 * k) ∧ wr.rowIs b 29 m (fun j => if j < k * 3 then markSettingSF k0 j else h j) ∧ Only L U w wr) (fun _ i _ => n - (intOf i).toNat)
    case atStart => exact ⟨0, Nat.zero_le _, rfl, by simp, hr.congr (fun j _ => by simp), .refl _ _ _⟩
    case round =>
      obtain ⟨k, hk, rfl, rfl, hR, hO⟩ := hrel
      by_cases hkn : k < n
      · have c0 := hR.cell (i := k * 3) (by omega)
        have f0 := hR.frozen (k * 3)
        rw [if_neg (by omega)] at c0
        have c1 := hR.cell (i := k * 3 + 1) (by omega)
        have f1 := hR.frozen (k * 3 + 1)
        rw [if_neg (by omega)] at c1
        have c2 := hR.cell (i := k * 3 + 2) (by omega)
        have f2 := hR.frozen (k * 3 + 2)
        rw [if_neg (by omega)] at c2
        have hst0 := row_stepSettingS hR
        rw [markSettingSF_0] at hst0
        have hst1 := row_stepSettingS (k := k * 3 + 1) hst0
        rw [markSettingSF_1] at hst1
        have hst2 := row_stepSettingS (k := k * 3 + 2) hst1
        rw [markSettingSF_2] at hst2
        have hst := hst2
        rw [show k * 3 + 2 + 1 = (k + 1) * 3 by omega] at hst
        clear hst0 hst1 hst2
        have Hst := Lib.hid hst; clear hst
        go_wp2
        go_roundw
        case rel => exact ⟨k + 1, by omega, by go_num, congrArg (Value.int .i64) (by omega), Hst.out, (((hO.setCell hL hU _).setCell hL hU _).setCell hL hU _)⟩
        case measure => simp [intOf]; omega
      · go_wp2
        go_ret
        have e : k = n := by omega
        subst e
        exact ⟨rfl, ⟨_, cap, rfl, .inr ⟨b, m, _, rfl, hL, hU, hm, hR, fun j hj => if_pos (by omega)⟩⟩, hO⟩

set_option maxHeartbeats 1000000 in
theorem heldSettingS_mine (L U n : Nat) (v : Value) (k0 : Int) (hk0 : 0 ≤ k0) (hk1 : k0 ≤ 4000000) (hn : n ≤ 1048576) (w : World) (h1 : Mine w L U 29 3 v n (markSettingSF k0)) :
    Calls Tryd.prog 29 #[v, .int .i64 k0] w fun e w' => e = .returned (.int .i64 (k0 + 3 * n)) ∧ w = w' := by
  obtain ⟨A, cap, rfl, h1⟩ := h1
  by_cases hz : n = 0
  · subst hz
    go_enter Tryd.func29, Tryd.ntmps29
    go_wp2
    refine wp_loop_rounds 1 ?_
    rw [rounds_succ]
    go_wp2
    go_ret
    exact ⟨congrArg (fun x => Ending.returned (.int .i64 x)) (by omega), rfl⟩
  · rcases h1 with h0 | ⟨b, m, h, rfl, hL, hU, hm, hr, he⟩
    · exact absurd h0 hz
    go_enter Tryd.func29, Tryd.ntmps29
    go_wp2
    go_loop [1, 5] (fun q i => ∃ k : Nat, k ≤ n ∧ i = .int .i64 k ∧ q = .int .i64 (k0 + 3 * k)) (fun _ i => n - (intOf i).toNat)
    case atStart => exact ⟨0, Nat.zero_le _, rfl, by simp⟩
    case round =>
      obtain ⟨k, hk, rfl, rfl⟩ := hrel
      by_cases hkn : k < n
      · have c0 : w.cell? ⟨b, k * 3, none⟩ = some (.int .i8 (IntKind.i8.wrap (k0 + 3 * k))) := by rw [hr.cell (by omega), he (k * 3) (by omega), markSettingSF_0]
        have c1 : w.cell? ⟨b, k * 3 + 1, none⟩ = some (.int .i8 (IntKind.i8.wrap (k0 + 3 * k + 1))) := by rw [hr.cell (by omega), he (k * 3 + 1) (by omega), markSettingSF_1]
        have c2 : w.cell? ⟨b, k * 3 + 2, none⟩ = some (.int .i8 (IntKind.i8.wrap (k0 + 3 * k + 1 + 1))) := by rw [hr.cell (by omega), he (k * 3 + 2) (by omega), markSettingSF_2]
        go_wp2
        go_round
        case rel => exact ⟨k + 1, by omega, by go_num, congrArg (Value.int .i64) (by omega)⟩
        case measure => simp [intOf]; omega
      · go_wp2
        go_ret
        have e : k = n := by omega
        subst e
        exact ⟨rfl, rfl⟩

/-- The cells, one behind the other. -/
def listSettingS (F0 F1 F2 : Nat → Int) : Nat → List Value
  | 0 => []
  | k + 1 => listSettingS F0 F1 F2 k ++ [.int .i8 (F0 k), .int .i8 (F1 k), .int .i8 (F2 k)]
theorem listSettingS_len (F0 F1 F2 : Nat → Int) : ∀ k, (listSettingS F0 F1 F2 k).length = k * 3
  | 0 => rfl
  | k + 1 => by simp only [listSettingS, List.length_append, listSettingS_len F0 F1 F2 k]; simp; omega
theorem listSettingS_get (F0 F1 F2 : Nat → Int) : ∀ (k j : Nat), j < k * 3 → (listSettingS F0 F1 F2 k)[j]?.getD undef = cellSettingS F0 F1 F2 j
  | 0, j, h => by omega
  | k + 1, j, h => by
    have hl := listSettingS_len F0 F1 F2 k
    by_cases hj : j < k * 3
    · rw [listSettingS, List.getElem?_append_left (by omega)]
      exact listSettingS_get F0 F1 F2 k j hj
    · rw [listSettingS, List.getElem?_append_right (by omega), hl]
      have : j = k * 3 ∨ j = k * 3 + 1 ∨ j = k * 3 + 2 := by omega
      rcases this with rfl | rfl | rfl
      · rw [cellSettingS_0, show k * 3 - k * 3 = 0 by omega]; rfl
      · rw [cellSettingS_1, show k * 3 + 1 - k * 3 = 1 by omega]; rfl
      · rw [cellSettingS_2, show k * 3 + 2 - k * 3 = 2 by omega]; rfl
theorem Mine.of_listSettingS {F0 F1 F2 : Nat → Int} {w : World} {L n : Nat} {v : Value} (h : w.ownsRow L 29 3 v n (listSettingS F0 F1 F2 n)) : Mine w L w.heap.size 29 3 v n (cellSettingS F0 F1 F2) :=
  (Mine.of_own h).congr fun j hj => listSettingS_get F0 F1 F2 n j hj
theorem infoSettingS : (Tryd.prog.info? 29).map (fun i => (i.zero, i.size, i.bytes)) = some (some (.agg #[.int .i8 0, .int .i8 0, .int .i8 0]), 3, 3) := by kernel_rfl
end Go.Proofs.YtmjoccgdpchjbaaDoor

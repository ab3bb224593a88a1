/-
  The laws' own marking and asking of lists of prints and of sheets that a call handed back. Condition: at most 1048576 prints.
-/
import Derived.Test.YtkmpfbjenddhjaaDoorPrL
namespace Go.Proofs.YtkmpfbjenddhjaaDoor
open Go.RowKit

/-- The cells behind the marking. -/
def markPrF (k0 : Int) (j : Nat) : Value := .int .i16 (IntKind.i16.wrap (k0 + (j : Int)))
theorem markPrF_at (k0 : Int) (k l : Nat) : markPrF k0 (k * 64 + l) = .int .i16 (IntKind.i16.wrap (k0 + 64 * k + l)) := by
  unfold markPrF
  rw [show k0 + ((k * 64 + l : Nat) : Int) = k0 + 64 * k + l by omega]
theorem row_stepMk {w : World} {b : Nat} {t : TypeId} {n k : Nat} {f g : Nat → Value} (h : w.rowIs b t n (fun j => if j < k then f j else g j)) :
    (w.setCell ⟨b, k, none⟩ (f k)).rowIs b t n (fun j => if j < k + 1 then f j else g j) :=
  (h.set k (f k)).congr (fun j _ => by
    by_cases h1 : j = k
    · subst h1; simp
    · by_cases h2 : j < k
      · have h3 : j < k + 1 := by omega
        simp [h1, h2, h3]
      · have h3 : ¬ j < k + 1 := by omega
        simp [h1, h2, h3])
theorem Only.transM {L U : Nat} {a b c : World} (h : Only L U a b) (h' : Only L U b c) : Only L U a c :=
  ⟨h'.os.trans h.os, h'.tape.trans h.tape, h'.output.trans h.output, Nat.le_trans h.size h'.size, fun k hk hkk => (h'.block k (Nat.lt_of_lt_of_le hk h.size) hkk).trans (h.block k hk hkk)⟩
theorem Only.allocM (L U : Nat) (w : World) (c : Obj) : Only L U w (w.alloc c) := by
  have h := (Below.refl w.heap.size w).alloc (Nat.le_refl _) c
  exact ⟨h.os, h.tape, h.output, h.size, fun b hb _ => h.block b hb⟩
theorem Only.cellOf {L U : Nat} {w w' : World} (h : Only L U w w') {p : Addr} {v : Value} (hc : w.cell? p = some v) (hb : p.block < L ∨ U ≤ p.block) : w'.cell? p = some v := by
  have := World.block_lt_of_cell? w _ hc
  rw [World.cell?_of_block (w := w) (h.block p.block this hb), hc]
theorem PrRow.only {L U : Nat} {w w' : World} {b n : Nat} {g : Nat → Nat → Int} (h : PrRow w b n g) (ho : Only L U w w') (hb : b < L ∨ U ≤ b) : PrRow w' b n g := by
  obtain ⟨m, f, hm, hr, he⟩ := h
  exact ⟨m, f, hm, hr.of_block (ho.block b hr.lt hb), he⟩

set_option maxRecDepth 100000 in
set_option maxHeartbeats 2000000 in
theorem markPrintS_mine (L U n : Nat) (v : Value) (f : Nat → Value) (k0 : Int) (hk0 : 0 ≤ k0) (hk1 : k0 ≤ 100000000) (hn : n ≤ 1048576) (w : World) (h1 : Mine w L U 58 64 v n f) :
    Calls Tryd.prog 34 #[v, .int .i64 k0] w fun e w' => e = .returned (.int .i64 (k0 + 64 * n)) ∧ Mine w' L U 58 64 v n (markPrF k0) ∧ Only L U w w' := by
  obtain ⟨A, cap, rfl, h1⟩ := h1
  by_cases hz : n = 0
  · subst hz
    go_enter Tryd.func34, Tryd.ntmps34
    go_wp2
    refine wp_loop_rounds 1 ?_
    rw [rounds_succ]
    go_wp2
    go_ret
    exact ⟨congrArg (fun x => Ending.returned (.int .i64 x)) (by omega), .nil _ _ _ _ _ _ _ _, .refl _ _ _⟩
  · rcases h1 with h0 | ⟨b, m, h, rfl, hL, hU, hm, hr, he⟩
    · exact absurd h0 hz
    clear he
    go_enter Tryd.func34, Tryd.ntmps34
    go_wp2
    go_loopw [1, 5] (fun q i wr => ∃ k : Nat, k ≤ n ∧ i = .int .i64 (k : Int) ∧ q = .int .i64 (k0 + 64 * (k : Int)) ∧ wr.rowIs b 58 m (fun j => if j < k * 64 then markPrF k0 j else h j) ∧ Only L U w wr) (fun _ i _ => n - (intOf i).toNat)
    case atStart => exact ⟨0, Nat.zero_le _, rfl, by simp, hr.congr (fun j _ => by simp), .refl _ _ _⟩
    case round =>
      clear hr
      obtain ⟨k, hk, rfl, rfl, hR, hO⟩ := hrel
      by_cases hkn : k < n
      · have hkn' : (k : Int) < n := by omega
        obtain ⟨wo, hwo⟩ : ∃ wo : World, wo = wr := ⟨_, rfl⟩
        rw [← hwo] at hR hO ⊢
        clear hwo
        go_wp2
        go_loopw [1, 6] (fun q i wr => ∃ l : Nat, l ≤ 64 ∧ i = .int .i64 (l : Int) ∧ q = .int .i64 (k0 + 64 * (k : Int) + (l : Int)) ∧ wr.rowIs b 58 m (fun j => if j < k * 64 + l then markPrF k0 j else h j) ∧ Only L U w wr) (fun _ i _ => 64 - (intOf i).toNat)
        case atStart => exact ⟨0, Nat.zero_le _, rfl, by simp, hR, hO⟩
        case round =>
          clear hR hO
          obtain ⟨l, hl, rfl, rfl, hR, hO⟩ := hrel
          by_cases hll : l < 64
          · have hll' : (l : Int) < 64 := by omega
            have c0 := hR.cell (i := k * 64 + l) (by omega)
            have f0 := hR.frozen (k * 64 + l)
            rw [if_neg (by omega)] at c0
            have hst := row_stepMk hR
            rw [markPrF_at] at hst
            have Hst := Lib.hid hst; clear hst
            have HO := Lib.hid (hO.setCell (p := ⟨b, k * 64 + l, none⟩) hL hU (.int .i16 (IntKind.i16.wrap (k0 + 64 * k + l)))); clear hO hR
            go_wp2
            go_roundw
            case rel => exact ⟨l + 1, by omega, by go_num, by go_num, Hst.out, HO.out⟩
            case measure => simp [intOf]; omega
          · obtain rfl : l = 64 := by omega
            have hR2 := hR.congr (g := fun j => if j < (k + 1) * 64 then markPrF k0 j else h j) (fun j _ => by rw [show (k + 1) * 64 = k * 64 + 64 by omega])
            clear hR
            go_wp2
            go_roundw
            case rel => exact ⟨k + 1, by omega, by go_num, congrArg (Value.int .i64) (by omega), hR2, hO⟩
            case measure => simp [intOf]; omega
      · go_wp2
        go_ret
        have e : k = n := by omega
        subst e
        exact ⟨rfl, ⟨_, cap, rfl, .inr ⟨b, m, _, rfl, hL, hU, hm, hR, fun j hj => if_pos hj⟩⟩, hO⟩

set_option maxRecDepth 100000 in
set_option maxHeartbeats 2000000 in
theorem heldPrintS_mine (L U n : Nat) (v : Value) (k0 : Int) (hk0 : 0 ≤ k0) (hk1 : k0 ≤ 100000000) (hn : n ≤ 1048576) (w : World) (h1 : Mine w L U 58 64 v n (markPrF k0)) :
    Calls Tryd.prog 35 #[v, .int .i64 k0] w fun e w' => e = .returned (.int .i64 (k0 + 64 * n)) ∧ w = w' := by
  obtain ⟨A, cap, rfl, h1⟩ := h1
  by_cases hz : n = 0
  · subst hz
    go_enter Tryd.func35, Tryd.ntmps35
    go_wp2
    refine wp_loop_rounds 1 ?_
    rw [rounds_succ]
    go_wp2
    go_ret
    exact ⟨congrArg (fun x => Ending.returned (.int .i64 x)) (by omega), rfl⟩
  · rcases h1 with h0 | ⟨b, m, h, rfl, hL, hU, hm, hr, he⟩
    · exact absurd h0 hz
    go_enter Tryd.func35, Tryd.ntmps35
    go_wp2
    go_loop [1, 5] (fun q i => ∃ k : Nat, k ≤ n ∧ i = .int .i64 (k : Int) ∧ q = .int .i64 (k0 + 64 * (k : Int))) (fun _ i => n - (intOf i).toNat)
    case atStart => exact ⟨0, Nat.zero_le _, rfl, by simp⟩
    case round =>
      obtain ⟨k, hk, rfl, rfl⟩ := hrel
      by_cases hkn : k < n
      · have hkn' : (k : Int) < n := by omega
        go_wp2
        go_loop [1, 6] (fun q i => ∃ l : Nat, l ≤ 64 ∧ i = .int .i64 (l : Int) ∧ q = .int .i64 (k0 + 64 * (k : Int) + (l : Int))) (fun _ i => 64 - (intOf i).toNat)
        case atStart => exact ⟨0, Nat.zero_le _, rfl, by simp⟩
        case round =>
          obtain ⟨l, hl, rfl, rfl⟩ := hrel
          by_cases hll : l < 64
          · have hll' : (l : Int) < 64 := by omega
            have c0 : w.cell? ⟨b, k * 64 + l, none⟩ = some (.int .i16 (IntKind.i16.wrap (k0 + 64 * k + l))) := by rw [hr.cell (by omega), he (k * 64 + l) (by omega), markPrF_at]
            go_wp2
            go_round
            case rel => exact ⟨l + 1, by omega, by go_num, by go_num⟩
            case measure => simp [intOf]; omega
          · obtain rfl : l = 64 := by omega
            go_wp2
            go_round
            case rel => exact ⟨k + 1, by omega, by go_num, congrArg (Value.int .i64) (by omega)⟩
            case measure => simp [intOf]; omega
      · go_wp2
        go_ret
        have e : k = n := by omega
        subst e
        exact ⟨rfl, rfl⟩

set_option maxRecDepth 100000 in
set_option maxHeartbeats 1000000 in
theorem markSheet_mine (X : Int) (L U n : Nat) (v : Value) (f : Nat → Value) (k0 : Int) (hk0 : 0 ≤ k0) (hk1 : k0 ≤ 100000000) (hn : n ≤ 1048576) (w : World) (hU : U ≤ w.heap.size) (h1 : Mine w L U 58 64 v n f) :
    Calls Tryd.prog 11 #[.agg #[.int .i8 X, v], .int .i64 k0] w fun e w' => e = .returned (.int .i64 (k0 + 64 * n)) ∧ Mine w' L U 58 64 v n (markPrF k0) ∧ Only L U w w' := by
  have h2 := h1.below ((Below.refl w.heap.size w).alloc (Nat.le_refl _) (.cells #[.int .i8 X, v] 29)) hU
  have hq := markPrintS_mine L U n v f k0 hk0 hk1 hn _ h2
  obtain ⟨A, cap, rfl, _⟩ := h1
  have Hq := Lib.hid hq; clear hq h2
  go_enter Tryd.func11, Tryd.ntmps11
  go_wp2_with fail
  refine Hq.out.mono ?_; rintro e w2 ⟨rfl, m2, o2⟩
  have o3 := (Only.allocM L U w (.cells #[.int .i8 X, .slice A n cap] 29)).transM o2
  clear Hq o2
  go_wp2_with fail
  go_ret
  exact ⟨rfl, m2, o3⟩

set_option maxRecDepth 100000 in
set_option maxHeartbeats 1000000 in
theorem heldSheet_mine (X : Int) (L U n : Nat) (v : Value) (k0 : Int) (hk0 : 0 ≤ k0) (hk1 : k0 ≤ 100000000) (hn : n ≤ 1048576) (w : World) (hU : U ≤ w.heap.size) (h1 : Mine w L U 58 64 v n (markPrF k0)) :
    Calls Tryd.prog 12 #[.agg #[.int .i8 X, v], .int .i64 k0] w fun e w' => e = .returned (.int .i64 (k0 + 64 * n)) ∧ Below w.heap.size w w' := by
  have k1 := (Below.refl w.heap.size w).alloc (Nat.le_refl _) (.cells #[.int .i8 X, v] 29)
  have h2 := h1.below k1 hU
  have hq := heldPrintS_mine L U n v k0 hk0 hk1 hn _ h2
  obtain ⟨A, cap, rfl, _⟩ := h1
  have Hq := Lib.hid hq; clear hq h2
  have hN : ¬ (k0 + 64 * (n : Int) < 0) := by omega
  go_enter Tryd.func12, Tryd.ntmps12
  go_wp2_with fail
  refine Hq.out.mono ?_; rintro e w2 ⟨rfl, rfl⟩
  clear Hq
  go_wp2_with fail
  all_goals
    first
    | (exfalso; omega)
    | (go_ret; exact ⟨rfl, k1⟩)

theorem eqSheet_mine (X : Int) (L U L' U' n : Nat) (v v' : Value) (g : Nat → Nat → Int) (hn : n ≤ 1048576) (w : World) (h1 : Mine w L U 58 64 v n (prF g)) (h2 : Mine w L' U' 58 64 v' n (prF g)) :
    Calls Tryd.prog 10 #[.agg #[.int .i8 X, v], .agg #[.int .i8 X, v']] w fun e w' => e = .returned (.bool true) ∧ Below w.heap.size w w' := by
  obtain ⟨A, cap, rfl, p1⟩ := h1.prs
  obtain ⟨A', cap', rfl, p2⟩ := h2.prs
  exact eqSheet_same X A A' n cap cap' g hn w p1 p2
end Go.Proofs.YtkmpfbjenddhjaaDoor

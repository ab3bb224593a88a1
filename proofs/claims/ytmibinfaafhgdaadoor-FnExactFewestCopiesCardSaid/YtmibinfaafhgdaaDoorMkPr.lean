/-
  The laws' own marking and asking of lists of prints and of sheets that a call handed back. Condition: at most 1048576 prints.
-/
import Derived.Test.YtmibinfaafhgdaaDoorPrL
namespace Go.Proofs.YtmibinfaafhgdaaDoor
open Go.RowKit

/-- The cells behind the marking. -/
def markPrF (k0 : Int) (j : Nat) : Value := .int .i16 (IntKind.i16.wrap (k0 + (j : Int)))
theorem markPrF_at (k0 : Int) (k l : Nat) : markPrF k0 (k * 64 + l) = .int .i16 (IntKind.i16.wrap (k0 + 64 * k + l)) := by
  unfold markPrF
  rw [show k0 + ((k * 64 + l : Nat) : Int) = k0 + 64 * k + l by omega]
theorem row_stepMk {w : World} {b : Nat} {t : TypeId} {n k : Nat} {f g : Nat → Value} (h : w.rowIs b t n (fun j => if j < k then f j else g j)) :
    (w.setCell ⟨b, k, none⟩ (f k)).rowIs b t n (fun j => if j < k + 1 then f j else g j) :=
  (h.set k (f k)).congr (fun j _ => by
    by_cases h1 : j = k
    · subst h1; simp
    · by_cases h2 : j < k
      · have h3 : j < k + 1 := by omega
        simp [h1, h2, h3]
      · have h3 : ¬ j < k + 1 := by omega
        simp [h1, h2, h3])
theorem Only.transM {L U : Nat} {a b c : World} (h : Only L U a b) (h' : Only L U b c) : Only L U a c :=
  ⟨h'.os.trans h.os, h'.tape.trans h.tape, h'.output.trans h.output, Nat.le_trans h.size h'.size, fun k hk hkk => (h'.block k (Nat.lt_of_lt_of_le hk h.size) hkk).trans (h.block k hk hkk)⟩
theorem Only.allocM (L U : Nat) (w : World) (c : Obj) : Only L U w (w.alloc c) := by
  have h := (Below.refl w.heap.size w).alloc (Nat.le_refl _) c
  exact ⟨h.os, h.tape, h.output, h.size, fun b hb _ => h.block b hb⟩
theorem Only.cellOf {L U : Nat} {w w' : World} (h : Only L U w w') {p : Addr} {v : Value} (hc : w.cell? p = some v) (hb : p.block < L ∨ U ≤ p.block) : w'.cell? p = some v := by
  have := World.block_lt_of_cell? w _ hc
  rw [World.cell?_of_block (w := w) (h.block p.block this hb), hc]
theorem PrRow.only {L U : Nat} {w w' : World} {b n : Nat} {g : Nat → Nat → Int} (h : PrRow w b n g) (ho : Only L U w w') (hb : b < L ∨ U ≤ b) : PrRow w' b n g := by
  obtain ⟨m, f, hm, hr, he⟩ := h
  exact ⟨m, f, hm, hr.of_block (ho.block b hr.lt hb), he⟩

set_option maxRecDepth 100000 in
set_option maxHeartbeats 2000000 in
theorem markPrintS_mine (L U n : Nat) (v : Value) (f : Nat → Value) (k0 : Int) (hk0 : 0 ≤ k0) (hk1 : k0 ≤ 100000000) (hn : n ≤ 1048576) (w : World) (h1 : Mine w L U 37 64 v n f) :
    Calls Tryd.prog 10 #[v, .int .i64 k0] w fun e w' => e = .returned (.int .i64 (k0 + 64 * n)) ∧ Mine w' L U 37 64 v n (markPrF k0) ∧ Only L U w w' := by
  obtain ⟨A, cap, rfl, h1⟩ := h1
  by_cases hz : n = 0
  · subst hz
    go_enter Tryd.func10, Tryd.ntmps10
    go_wp2
    refine wp_loop_rounds 1 ?_
    rw [rounds_succ]
    go_wp2
    go_ret
    exact ⟨congrArg (fun x => Ending.returned (.int .i64 x)) (by omega), .nil _ _ _ _ _ _ _ _, .refl _ _ _⟩
  · rcases h1 with h0 | ⟨b, m, h, rfl, hL, hU, hm, hr, he⟩
    · exact absurd h0 hz
    clear he
    go_enter Tryd.func10, Tryd.ntmps10
    go_wp2
    go_loopw [1, 5] (fun q i wr => ∃ k : Nat, k ≤ n ∧ i = .int .i64 (k : Int) ∧ q = .int .i64 (k0 + 64 * (k : Int)) ∧ wr.rowIs b 37 m (fun j => if j < k * 64 then markPrF k0 j else h j) ∧ Only L U w wr) (fun _ i _ => n - (intOf i).toNat)
    case atStart => exact ⟨0, Nat.zero_le _, rfl, by simp, hr.congr (fun j _ => by simp), .refl _ _ _⟩
    case round =>
      clear hr
      obtain ⟨k, hk, rfl, rfl, hR, hO⟩ := hrel
      by_cases hkn : k < n
      · have hkn' : (k : Int) < n := by omega
        obtain ⟨wo, hwo⟩ : ∃ wo : World, wo = wr := ⟨_, rfl⟩
        rw [← hwo] at hR hO ⊢
        clear hwo
        go_wp2
        go_loopw [1, 6] (fun q i wr => ∃ l : Nat, l ≤ 64 ∧ i = .int .i64 (l : Int) ∧ q = .int .i64 (k0 + 64 * (k : Int) + (l : Int)) ∧ wr.rowIs b 37 m (fun j => if j < k * 64 + l then markPrF k0 j else h j) ∧ Only L U w wr) (fun _ i _ => 64 - (intOf i).toNat)
        case atStart => exact ⟨0, Nat.zero_le _, rfl, by simp, hR, hO⟩
        case round =>
          clear hR hO
          obtain ⟨l, hl, rfl, rfl, hR, hO⟩ := hrel
          by_cases hll : l < 64
          · have hll' : (l : Int) < 64 := by omega
            have c0 := hR.cell (i := k * 64 + l) (by omega)
            have f0 := hR.frozen (k * 64 + l)
            rw [if_neg (by omega)] at c0
            have hst := row_stepMk hR
            rw [markPrF_at] at hst
            have Hst := Lib.hid hst; clear hst
            have HO := Lib.hid (hO.setCell (p := ⟨b, k * 64 + l, none⟩) hL hU (.int .i16 (IntKind.i16.wrap (k0 + 64 * k + l)))); clear hO hR
            go_wp2
            go_roundw
            case rel => exact ⟨l + 1, by omega, by go_num, by go_num, Hst.out, HO.out⟩
            case measure => simp [intOf]; omega
          · obtain rfl : l = 64 := by omega
            have hR2 := hR.congr (g := fun j => if j < (k + 1) * 64 then markPrF k0 j else h j) (fun j _ => by rw [show (k + 1) * 64 = k * 64 + 64 by omega])
            clear hR
            go_wp2
            go_roundw
            case rel => exact ⟨k + 1, by omega, by go_num, congrArg (Value.int .i64) (by omega), hR2, hO⟩
            case measure => simp [intOf]; omega
      · go_wp2
        go_ret
        have e : k = n := by omega
        subst e
        exact ⟨rfl, ⟨_, cap, rfl, .inr ⟨b, m, _, rfl, hL, hU, hm, hR, fun j hj => if_pos hj⟩⟩, hO⟩

end Go.Proofs.YtmibinfaafhgdaaDoor

/-
  Areas that are drawn; two lists of numbers that are the same. Condition: at most 1048576 bytes.
-/
import Derived.Test.YtkgjkjecfpmlnaaDoorReH
import Derived.Test.YtkgjkjecfpmlnaaDoorOwnInts
import Derived.Maps.AppendAt
namespace Go.Proofs.YtkgjkjecfpmlnaaDoor
open Go.RowKit

theorem own_only {w w' : World} {base size n b : Nat} {e : TypeId} {v : Value} {xs : List Value} (h : w.ownsRow base e size v n xs) (ho : Only b (b + 1) w w') (hb : b < base) : w'.ownsRow base e size v n xs :=
  h.kept (row := some b) (gOnly ho) (by
    rcases hv : v.ownBlock with _ | j
    · simp
    · have := (h.lt j hv).1
      simp; omega)
theorem below_drewRe {B : Nat} {w w' : World} (h : Below B w w') (n : Nat) : Below B w (w'.drewN n) := ⟨h.os, h.tape, h.output, h.size, h.block⟩
/-- A list of numbers. -/
def CelN (w : World) (A : Option Addr) (n : Nat) (xs : Nat → Int) : Prop := n = 0 ∨ ∃ g, A = some ⟨g, 0, none⟩ ∧ g < w.heap.size ∧ ∀ j, j < n → w.cell? ⟨g, j, none⟩ = some (.int .i64 (xs j))
theorem CelN.below {w w' : World} {A : Option Addr} {n B : Nat} {xs : Nat → Int} (h : CelN w A n xs) (hb : Below B w w') (hB : w.heap.size ≤ B) : CelN w' A n xs := by
  rcases h with h | ⟨g, e, hg, hc⟩
  · exact .inl h
  · exact .inr ⟨g, e, Nat.lt_of_lt_of_le hg hb.size, fun j hj => below_cellOf hb (hc j hj) hB⟩
theorem CelN.of {w : World} {L U n : Nat} {v : Value} {xs : Nat → Int} (h : Mine w L U 2 1 v n (fun j => .int .i64 (xs j))) : ∃ A c, v = .slice A n c ∧ CelN w A n xs := by
  obtain ⟨A, c, rfl, i1⟩ := h
  refine ⟨A, c, rfl, ?_⟩
  rcases i1 with h | ⟨g, m, f, e, _, _, hm, hr, he⟩
  · exact .inl h
  · exact .inr ⟨g, e, hr.lt, fun j hj => by rw [hr.cell (by omega), he j (by omega)]⟩
set_option maxRecDepth 100000 in
set_option maxHeartbeats 1000000 in
theorem A2Same_any (A A' : Option Addr) (n c c' : Nat) (xs : Nat → Int) (hn : n ≤ 1048576) (w : World) (h1 : CelN w A n xs) (h2 : CelN w A' n xs) :
    Calls Tryd.prog 18 #[.slice A n c, .slice A' n c'] w fun e w' => e = .returned (.bool true) ∧ Below w.heap.size w w' := by
  have H1 := Lib.hid h1
  have H2 := Lib.hid h2
  clear h1 h2
  go_enter Tryd.func18, Tryd.ntmps18
  go_wp2_with fail
  go_loopw [5] (fun kv wr => ∃ k : Nat, k ≤ n ∧ kv = .int .i64 (k : Int) ∧ Below w.heap.size w wr) (fun kv _ => n - (intOf kv).toNat)
  case atStart => exact ⟨0, by omega, rfl, Below.refl _ _⟩
  case round =>
    obtain ⟨k, hk, rfl, hB⟩ := hrel
    by_cases hkn : k < n
    · rcases H1.out with h0 | ⟨g, rfl, hg, hc⟩
      · exfalso; omega
      rcases H2.out with h0 | ⟨g', rfl, hg', hc'⟩
      · exfalso; omega
      have c1 := below_cellOf hB (hc k hkn) (Nat.le_refl _)
      have c2 := below_cellOf hB (hc' k hkn) (Nat.le_refl _)
      have hkn' : (k : Int) < n := by omega
      have HB := Lib.hid hB
      clear hc hc' hB
      generalize xs k = x at *
      go_wp2_with fail
      go_quiet (fail)
      go_wp2_with fail
      go_roundw
      case rel => exact ⟨k + 1, by omega, by go_num, below_drewRe HB.out _⟩
      case measure => simp [intOf]; omega
    · obtain rfl : k = n := by omega
      go_wp2_with fail
      go_ret
      exact ⟨rfl, hB⟩
def AreasOut (w : World) (e : Ending) (w' : World) : Prop := ∃ (g k cap : Nat) (xs : Nat → Int), e = .returned (.slice (some ⟨g, 0, none⟩) k cap) ∧ k ≤ 4 ∧ (∀ j, j < k → 1 ≤ xs j ∧ xs j ≤ 200) ∧ RowN w' g k xs ∧ Below w.heap.size w w'
theorem rowN_own {w : World} {L n : Nat} {v : Value} {l : List Int} (h : w.ownsRow L 2 1 v n (l.map (Value.int .i64))) (hv : v ≠ .slice none 0 0) : ∃ g cap, v = .slice (some ⟨g, 0, none⟩) n cap ∧ RowN w g n (fun j => l.getD j 0) := by
  obtain ⟨hl, h⟩ := h
  have hl : l.length = n := by simpa using hl
  rcases h with ⟨e, _⟩ | ⟨g, cap, cur, rfl, hb, hh, hn', hm, hs, ht⟩
  · exact absurd e hv
  · refine ⟨g, cap, rfl, (Array.getElem?_eq_some_iff.1 hh).1, fun {j} hj => ?_⟩
    rw [cell_of_row w g j cur _ _ hh]
    have h1 : (l.map (Value.int .i64))[j]? = some (.int .i64 (l.getD j 0)) := by
      have : j < l.length := by omega
      simp [this]
    rw [← ht, Nat.mul_one, List.getElem?_take, if_pos hj] at h1
    simpa using h1
set_option maxRecDepth 100000 in
set_option maxHeartbeats 2000000 in
theorem A2Areas_any (A : Option Addr) (n cap : Nat) (bs : Nat → Int) (hn : n ≤ 1048576) (hbs : ∀ j, j < n → 0 ≤ bs j ∧ bs j ≤ 255) (w : World) (hB : BytesIn w A n bs) :
    Calls Tryd.prog 13 #[.slice A n cap] w (AreasOut w) := by
  obtain ⟨i0, hi, hz0, hz1, hz2⟩ := info_parts i64Info
  have k0 : Below w.heap.size w (w.alloc (.cells #[.slice A n cap, .int .i64 0, .int .u64 0] 80)) := (Below.refl _ _).alloc (Nat.le_refl _) _
  have hs0 := srcAt_new w A n cap
  have hpk := fun (W : World) (m : Int) (p : Nat) (h0 : 0 ≤ m) (h1 : m ≤ 1000) (hp : p ≤ 1000) (hS : SrcAt W w.heap.size A n cap p) (hb : Below w.heap.size w W) =>
    srcPick_any w.heap.size n cap p A bs m h0 (by omega) hn (by omega) hbs W hS (hB.below hb (Nat.le_refl _)) hB.lt
  have Hpk := Lib.hid hpk; clear hpk hbs
  go_enter Tryd.func13, Tryd.ntmps13
  go_wp2_with fail
  refine (l00From_any _ _ _ _).mono ?_; rintro e w1 ⟨rfl, rfl⟩
  have k1 := k0.alloc (show w.heap.size ≤ _ by simp) (.cells #[] 2)
  have s1 := hs0.below ((Below.refl _ (w.alloc (.cells #[.slice A n cap, .int .i64 0, .int .u64 0] 80))).alloc (Nat.le_refl _) (.cells #[] 2)) (by simp)
  have o1 := World.ownsRow_lit (base := w.heap.size + 1) (e := 2) (size := 1) (w.alloc (.cells #[.slice A n cap, .int .i64 0, .int .u64 0] 80)) #[] 0 (by simp) (Nat.zero_le _) rfl
  rw [World.size_alloc] at o1
  go_wp2_with fail
  refine (Hpk.out _ 5 0 (by omega) (by omega) (by omega) s1 k1).mono ?_; rintro e w3 ⟨K, q2, rfl, hK, _, hq2, s3, ho3⟩
  have k3 := k1.trans (ho3.below (by have := k1.size; omega))
  have o3 := own_only o1 ho3 (by omega)
  have hK := hK.lt (by omega)
  clear ho3 o1 s1 k1
  go_wp2_with fail
  go_loopw [4, 5] (fun v kk wr => ∃ (j : Nat) (l : List Int) (q : Nat), (j : Int) ≤ K ∧ kk = .int .i64 (K - j) ∧ l.length = j ∧ (∀ i, i < j → 1 ≤ l.getD i 0 ∧ l.getD i 0 ≤ 200) ∧ q ≤ 10 + 5 * j ∧ v ≠ .slice none 0 0 ∧ wr.ownsRow (w.heap.size + 1) 2 1 v j (l.map (Value.int .i64)) ∧ SrcAt wr w.heap.size A n cap q ∧ Below w.heap.size w wr ∧ w.heap.size < wr.heap.size) (fun _ kk _ => (intOf kk).toNat)
  case atStart => exact ⟨0, [], q2, by omega, by simp, rfl, fun i hi => by omega, by omega, by simp, o3, s3, k3, by obtain ⟨_, _, _, _, _, h⟩ := s3.cells; exact h⟩
  case round =>
    obtain ⟨j, l, q, hjK, rfl, hl, hx, hq, hv, hown, hS, hBw, hlt⟩ := hrel
    by_cases hc1 : (0 : Int) < K - j
    · have Hv := Lib.hid hv; clear hv
      have Hx := Lib.hid hx; clear hx
      have Hl := Lib.hid hl; clear hl
      go_wp2_with fail
      refine (Hpk.out _ 200 q (by omega) (by omega) (by omega) hS hBw).mono ?_; rintro e v2 ⟨r, q3, rfl, hr, hqa, hqb, hS2, ho2⟩
      have hr := hr.lt (by omega)
      have hB2 := hBw.trans (ho2.below (by omega))
      have hlt2 : w.heap.size < v2.heap.size := by have := ho2.size; omega
      have hown2 := own_only hown ho2 (by omega)
      clear hown hBw hS ho2
      go_wp2_with (at_builtin; refine wpList_append_own_at _ rfl _ _ 38 rfl (w.heap.size + 1) 2 i0 (.int .i64 0) 1 8 Tryd.underlying38 hi hz0 hz1 hz2 rfl (by decide) _ j (l.map (Value.int .i64)) rfl (hown2.alloc _) ⟨v2.heap.size, 0, none⟩ 1 1 [.int .i64 (1 + r)] rfl rfl (cell_one_new _ _ _) (by simp [Value.oneCell']) (by unfold maxLen; omega) (by omega) (by simp; omega) ?_)
      intro v' v3 hown3 hg3 hnil _
      have hkeep : Below (w.heap.size + 1) v2 v3 := (((Below.refl (w.heap.size + 1) v2).alloc (by omega) _).grown hg3 (by simp; omega) (fun x hx => (hown2.lt x hx).1))
      have hB3 := hB2.trans (hkeep.mono (by omega))
      have hS3 := hS2.below hkeep (by omega)
      have hlt3 : w.heap.size < v3.heap.size := by have := hkeep.size; omega
      have hv' : v' ≠ .slice none 0 0 := hnil
      have Hv' := Lib.hid hv'
      have Hown3 := Lib.hid (show v3.ownsRow (w.heap.size + 1) 2 1 v' (j + 1) ((l ++ [1 + r]).map (Value.int .i64)) by rw [List.map_append]; exact hown3)
      clear hown2 hg3 hnil hB2 hS2 hkeep hv' hown3
      go_wp2_with fail
      go_roundw
      case rel => exact ⟨j + 1, l ++ [1 + r], q3, by omega, congrArg (Value.int .i64) (by omega), by rw [List.length_append, Hl.out]; rfl, fun i hi => by
        rw [List.getD_eq_getElem?_getD]
        by_cases e : i < j
        · rw [List.getElem?_append_left (by rw [Hl.out]; exact e), ← List.getD_eq_getElem?_getD]; exact Hx.out i e
        · rw [List.getElem?_append_right (by rw [Hl.out]; omega), show i - l.length = 0 by rw [Hl.out]; omega]
          show 1 ≤ 1 + r ∧ 1 + r ≤ 200
          omega, by omega, Hv'.out, Hown3.out, hS3, hB3, hlt3⟩
      case measure => simp [intOf]; omega
    · have Hv := Lib.hid hv; clear hv
      go_wp2_with fail
      go_ret
      obtain ⟨g, cap', rfl, hrow⟩ := rowN_own hown Hv.out
      exact ⟨g, j, cap', fun i => l.getD i 0, rfl, by omega, hx, hrow, hBw⟩
end Go.Proofs.YtkgjkjecfpmlnaaDoor

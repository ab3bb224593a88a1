/-
  The order of choices in the program: cmp.Compare, cmp.Or and slices.Compare at numbers, compareChoices. Condition: at most 1048576 numbers.
-/
import Derived.Test.YtmibinfaafhgdaaDoorFew
namespace Go.Proofs.YtmibinfaafhgdaaDoor
open Go.RowKit

/-! ### PLAIN -/
def cmpI (x y : Int) : Int := if x < y then -1 else if y < x then 1 else 0
theorem cmpI_lt {x y : Int} (h : x < y) : cmpI x y = -1 := if_pos h
theorem cmpI_gt {x y : Int} (h : y < x) : cmpI x y = 1 := by unfold cmpI; rw [if_neg (by omega), if_pos h]
theorem cmpI_eq (x : Int) : cmpI x x = 0 := by unfold cmpI; rw [if_neg (by omega), if_neg (by omega)]
/-- What slices.Compare returns of d further numbers behind k. -/
def cmpF (xs ys : Nat → Int) (m' : Nat) : Nat → Nat → Int
  | 0, k => if k < m' then -1 else 0
  | d + 1, k => if k < m' then (if xs k = ys k then cmpF xs ys m' d (k + 1) else cmpI (xs k) (ys k)) else 1
theorem cmpF_lex (xs ys : Nat → Int) (m' : Nat) : ∀ d k, k + d = m' → (cmpF xs ys m' d k < 0 ↔ lexF xs ys d k = true)
  | 0, k, h => by
    unfold cmpF lexF
    rw [if_neg (by omega)]; simp
  | d + 1, k, h => by
    unfold cmpF lexF
    rw [if_pos (by omega)]
    by_cases e : xs k = ys k
    · rw [if_pos e, if_pos e]; exact cmpF_lex xs ys m' d (k + 1) (by omega)
    · rw [if_neg e, if_neg e]
      by_cases l : xs k < ys k
      · rw [cmpI_lt l]; simp [l]
      · rw [cmpI_gt (by omega)]; simp [l]

/-! ### THE LIBRARY'S -/
set_option maxRecDepth 100000 in
theorem isNaNi_any (x : Int) (w : World) : Calls Tryd.prog 53 #[.int .i64 x] w fun e w' => e = .returned (.bool false) ∧ w = w' := by
  go_enter Tryd.func53, Tryd.ntmps53
  go_wp2_with fail
  go_ret
  exact ⟨rfl, rfl⟩
set_option maxRecDepth 100000 in
theorem isNaNl_any (x : Int) (w : World) : Calls Tryd.prog 59 #[.int .i64 x] w fun e w' => e = .returned (.bool false) ∧ w = w' := by
  go_enter Tryd.func59, Tryd.ntmps59
  go_wp2_with fail
  go_ret
  exact ⟨rfl, rfl⟩
set_option maxRecDepth 100000 in
theorem cmpInt_any (x y : Int) (w : World) : Calls Tryd.prog 43 #[.int .i64 x, .int .i64 y] w fun e w' => e = .returned (.int .i64 (cmpI x y)) ∧ w = w' := by
  rcases Int.lt_trichotomy x y with h | h | h
  · rw [cmpI_lt h]
    go_enter Tryd.func43, Tryd.ntmps43
    go_wp2_with fail
    refine (isNaNi_any x w).mono ?_; rintro e w' ⟨rfl, rfl⟩
    go_wp2_with fail
    refine (isNaNi_any y w).mono ?_; rintro e w' ⟨rfl, rfl⟩
    go_wp2_with fail
    go_ret
    exact ⟨rfl, rfl⟩
  · subst h
    rw [cmpI_eq]
    have h1 : ¬ x < x := by omega
    go_enter Tryd.func43, Tryd.ntmps43
    go_wp2_with fail
    refine (isNaNi_any x w).mono ?_; rintro e w' ⟨rfl, rfl⟩
    go_wp2_with fail
    refine (isNaNi_any x w).mono ?_; rintro e w' ⟨rfl, rfl⟩
    go_wp2_with fail
    go_ret
    exact ⟨rfl, rfl⟩
  · rw [cmpI_gt h]
    have h1 : ¬ x < y := by omega
    go_enter Tryd.func43, Tryd.ntmps43
    go_wp2_with fail
    refine (isNaNi_any x w).mono ?_; rintro e w' ⟨rfl, rfl⟩
    go_wp2_with fail
    refine (isNaNi_any y w).mono ?_; rintro e w' ⟨rfl, rfl⟩
    go_wp2_with fail
    go_ret
    exact ⟨rfl, rfl⟩
set_option maxRecDepth 100000 in
theorem cmpI64_any (x y : Int) (w : World) : Calls Tryd.prog 54 #[.int .i64 x, .int .i64 y] w fun e w' => e = .returned (.int .i64 (cmpI x y)) ∧ w = w' := by
  rcases Int.lt_trichotomy x y with h | h | h
  · rw [cmpI_lt h]
    go_enter Tryd.func54, Tryd.ntmps54
    go_wp2_with fail
    refine (isNaNl_any x w).mono ?_; rintro e w' ⟨rfl, rfl⟩
    go_wp2_with fail
    refine (isNaNl_any y w).mono ?_; rintro e w' ⟨rfl, rfl⟩
    go_wp2_with fail
    go_ret
    exact ⟨rfl, rfl⟩
  · subst h
    rw [cmpI_eq]
    have h1 : ¬ x < x := by omega
    go_enter Tryd.func54, Tryd.ntmps54
    go_wp2_with fail
    refine (isNaNl_any x w).mono ?_; rintro e w' ⟨rfl, rfl⟩
    go_wp2_with fail
    refine (isNaNl_any x w).mono ?_; rintro e w' ⟨rfl, rfl⟩
    go_wp2_with fail
    go_ret
    exact ⟨rfl, rfl⟩
  · rw [cmpI_gt h]
    have h1 : ¬ x < y := by omega
    go_enter Tryd.func54, Tryd.ntmps54
    go_wp2_with fail
    refine (isNaNl_any x w).mono ?_; rintro e w' ⟨rfl, rfl⟩
    go_wp2_with fail
    refine (isNaNl_any y w).mono ?_; rintro e w' ⟨rfl, rfl⟩
    go_wp2_with fail
    go_ret
    exact ⟨rfl, rfl⟩

set_option maxRecDepth 100000 in
set_option maxHeartbeats 2000000 in
theorem cmpOr_any (g : Nat) (a b : Int) (w : World) (h0 : w.cell? ⟨g, 0, none⟩ = some (.int .i64 a)) (h1 : w.cell? ⟨g, 1, none⟩ = some (.int .i64 b)) :
    Calls Tryd.prog 42 #[.slice (some ⟨g, 0, none⟩) 2 2] w fun e w' => e = .returned (.int .i64 (if a = 0 then b else a)) ∧ w = w' := by
  have hg : g < w.heap.size := World.block_lt_of_cell? w _ h0
  by_cases ha : a = 0
  · subst ha
    rw [if_pos rfl]
    by_cases hb : b = 0
    · subst hb
      go_enter Tryd.func42, Tryd.ntmps42
      go_wp2_with fail
      refine wp_loop_rounds 3 ?_
      rw [rounds_succ]
      go_wp2_with fail
      rw [rounds_succ]
      go_wp2_with fail
      rw [rounds_succ]
      go_wp2_with fail
      go_ret
      exact ⟨rfl, rfl⟩
    · go_enter Tryd.func42, Tryd.ntmps42
      go_wp2_with fail
      refine wp_loop_rounds 3 ?_
      rw [rounds_succ]
      go_wp2_with fail
      rw [rounds_succ]
      go_wp2_with fail
      go_ret
      exact ⟨rfl, rfl⟩
  · rw [if_neg ha]
    go_enter Tryd.func42, Tryd.ntmps42
    go_wp2_with fail
    refine wp_loop_rounds 3 ?_
    rw [rounds_succ]
    go_wp2_with fail
    go_ret
    exact ⟨rfl, rfl⟩

set_option maxRecDepth 100000 in
set_option maxHeartbeats 2000000 in
theorem sCompare_any (A B : Option Addr) (m m' c c' : Nat) (xs ys : Nat → Int) (w : World) (h1 : IntsIn w A m xs) (h2 : IntsIn w B m' ys) (hm : m ≤ 1048576) (hm' : m' ≤ 1048576) :
    Calls Tryd.prog 44 #[.slice A m c, .slice B m' c'] w fun e w' => e = .returned (.int .i64 (cmpF xs ys m' m 0)) ∧ w = w' := by
  have H1 := Lib.hid h1; have H2 := Lib.hid h2; clear h1 h2
  go_enter Tryd.func44, Tryd.ntmps44
  go_wp2_with fail
  go_loop [11] (fun kv => ∃ k : Nat, k ≤ m ∧ kv = .int .i64 (k : Int) ∧ cmpF xs ys m' m 0 = cmpF xs ys m' (m - k) k) (fun kv => m - (intOf kv).toNat)
  case atStart => exact ⟨0, Nat.zero_le _, rfl, rfl⟩
  case round =>
    obtain ⟨k, hk, rfl, he⟩ := hrel
    by_cases hkm : k < m
    · rcases H1.out with h0 | ⟨b, o, rfl, hlt, hc⟩
      · exfalso; omega
      have ck := hc k hkm
      have hkm' : (k : Int) < m := by omega
      obtain ⟨d, hd⟩ : ∃ d, m - k = d + 1 := ⟨m - k - 1, by omega⟩
      rw [hd] at he
      have hx : cmpF xs ys m' (d + 1) k = if k < m' then (if xs k = ys k then cmpF xs ys m' d (k + 1) else cmpI (xs k) (ys k)) else 1 := rfl
      rw [hx] at he
      clear hx hc
      by_cases hk2 : k < m'
      · rw [if_pos hk2] at he
        rcases H2.out with h0 | ⟨b2, o2, rfl, hlt2, hc2⟩
        · exfalso; omega
        have ck2 := hc2 k hk2
        have hk2' : (k : Int) < m' := by omega
        have hk2n : ¬ (m' : Int) ≤ k := by omega
        clear hc2
        have hcm := fun W => cmpI64_any (xs k) (ys k) W
        by_cases hxy : xs k = ys k
        · rw [if_pos hxy] at he
          rw [hxy, cmpI_eq] at hcm
          rw [hxy] at ck
          have HE := Lib.hid he; have Hcm := Lib.hid hcm; clear he hcm hxy
          generalize ys k = Y at *
          go_wp2_with fail
          refine (Hcm.out _).mono ?_; rintro e w' ⟨rfl, rfl⟩
          go_wp2_with fail
          go_round
          case rel => exact ⟨k + 1, by omega, by go_num, by rw [HE.out, show m - (k + 1) = d by omega]⟩
          case measure => simp [intOf]; omega
        · rw [if_neg hxy] at he
          have hz : ¬ cmpI (xs k) (ys k) = 0 := by unfold cmpI; split <;> (try split) <;> omega
          have hz2 : (cmpI (xs k) (ys k) == 0) = false := beq_eq_false_iff_ne.2 hz
          have HE := Lib.hid he; have Hcm := Lib.hid hcm; clear he hcm hxy
          generalize cmpI (xs k) (ys k) = Z at *
          generalize xs k = X at *
          generalize ys k = Y at *
          go_wp2_with fail
          refine (Hcm.out _).mono ?_; rintro e w' ⟨rfl, rfl⟩
          go_wp2_with fail
          go_ret
          exact ⟨by rw [HE.out]; rfl, rfl⟩
      · rw [if_neg hk2] at he
        have hk2' : ¬ (k : Int) < m' := by omega
        have hk2n : (m' : Int) ≤ k := by omega
        have HE := Lib.hid he; clear he
        generalize xs k = X at *
        go_wp2_with fail
        go_ret
        exact ⟨by rw [HE.out]; rfl, rfl⟩
    · obtain rfl : m = k := by omega
      have he2 : cmpF xs ys m' m 0 = if m < m' then -1 else 0 := by rw [he, Nat.sub_self]; rfl
      clear he
      by_cases hk2 : m < m'
      · rw [if_pos hk2] at he2
        have hk2' : (m : Int) < m' := by omega
        go_wp2_with fail
        go_ret
        exact ⟨rfl, rfl⟩
      · rw [if_neg hk2] at he2
        have hk2' : ¬ (m : Int) < m' := by omega
        go_wp2_with fail
        go_ret
        exact ⟨rfl, rfl⟩

set_option maxRecDepth 100000 in
set_option maxHeartbeats 2000000 in
theorem compareChoices_any (A B : Option Addr) (l r : List Int) (c c' : Nat) (w : World) (h1 : IntsIn w A l.length (fun j => l.getD j 0)) (h2 : IntsIn w B r.length (fun j => r.getD j 0)) (hm : l.length ≤ 1048576) (hm' : r.length ≤ 1048576) :
    Calls Tryd.prog 33 #[.slice A l.length c, .slice B r.length c'] w fun e w' => (∃ z, e = .returned (.int .i64 z) ∧ (z < 0 ↔ beatL l r = true)) ∧ Below w.heap.size w w' := by
  have hs := sCompare_any A B l.length r.length c c' _ _ w h1 h2 hm hm'
  have hlex : l.length = r.length → (cmpF (fun j => l.getD j 0) (fun j => r.getD j 0) r.length l.length 0 < 0 ↔ lexL l r = true) := fun e => by
    rw [cmpF_lex _ _ _ _ 0 (by omega), lexL_F l r e _ _ 0 (fun j _ => by show l.getD (0 + j) 0 = _; rw [Nat.zero_add]) (fun j _ => by show r.getD (0 + j) 0 = _; rw [Nat.zero_add])]
  have hz : ((if cmpI (l.length : Int) r.length = 0 then cmpF (fun j => l.getD j 0) (fun j => r.getD j 0) r.length l.length 0 else cmpI (l.length : Int) r.length) < 0 ↔ beatL l r = true) := by
    rcases Nat.lt_trichotomy l.length r.length with h | h | h
    · rw [cmpI_lt (by omega), beatL_lt h]; simp
    · rw [h, cmpI_eq, if_pos rfl, beatL_eq h, ← hlex h, h]
    · rw [cmpI_gt (by omega), beatL_gt h]; simp
  have hc := cmpInt_any (l.length : Int) r.length w
  have Hz := Lib.hid hz; have Hs := Lib.hid hs; have Hc := Lib.hid hc
  clear hz hs hc hlex h1 h2
  generalize cmpF (fun j => l.getD j 0) (fun j => r.getD j 0) r.length l.length 0 = Z at *
  generalize cmpI (l.length : Int) r.length = Y at *
  have ho := cmpOr_any w.heap.size Y Z (w.alloc (.cells #[.int .i64 Y, .int .i64 Z] 3)) (by rw [cell_of_row _ _ 0 _ _ _ (heap_alloc_last w _)]; rfl) (by rw [cell_of_row _ _ 1 _ _ _ (heap_alloc_last w _)]; rfl)
  have Ho := Lib.hid ho; clear ho
  generalize (if Y = 0 then Z else Y) = V at *
  go_enter Tryd.func33, Tryd.ntmps33
  go_wp2_with fail
  refine Hc.out.mono ?_; rintro e w' ⟨rfl, rfl⟩
  go_wp2_with fail
  refine Hs.out.mono ?_; rintro e w' ⟨rfl, rfl⟩
  go_wp2_with fail
  refine Ho.out.mono ?_; rintro e w' ⟨rfl, rfl⟩
  go_wp2_with fail
  go_ret
  exact ⟨⟨_, rfl, Hz.out⟩, (Below.refl _ _).alloc (Nat.le_refl _) _⟩
end Go.Proofs.YtmibinfaafhgdaaDoor

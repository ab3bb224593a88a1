/-
  The median of copies: what both sides' functions make of 1 to 8 copies. Condition: numbers of 16 bits.
-/
import Derived.Test.YtmibinfaafhgdaaGreatDoorSrt
import Derived.Test.YtmibinfaafhgdaaGreatDoorPsX
import Derived.Test.YtmibinfaafhgdaaGreatDoorErrs
import Derived.Test.YtmibinfaafhgdaaGreatDoorBvX
namespace Go.Proofs.YtmibinfaafhgdaaGreatDoor
open Go.RowKit

/-! ### PLAIN -/
/-- The median of the copies in a cell. -/
def medF (g : Nat → Nat → Int) (n k : Nat) : Int := isF (fun i => g i k) n ((n - 1) / 2)
theorem medF_s {g : Nat → Nat → Int} {n : Nat} (h1 : 1 ≤ n) (hs : ∀ i, i < n → S16 (g i)) : S16 (medF g n) := fun k hk => by
  have := isF_bd (x := fun i => g i k) (n := n) (fun j hj => hs j hj k hk) n (Nat.le_refl _) ((n - 1) / 2) (by omega)
  exact this
/-- A list with a number that is still moved to the front. -/
def stF (f : Nat → Int) (v : Int) (i a j : Nat) : Int := if j < a then f j else if j = a then (if a = i then v else f a) else f (j - 1)
theorem stF_start (f : Nat → Int) (v : Int) (i j : Nat) (h : j < i + 1) : (if j = i then v else f j) = stF f v i i j := by
  unfold stF
  by_cases e : j = i
  · subst e; simp
  · have : j < i := by omega
    simp [e, this]
theorem stF_before (f : Nat → Int) (v : Int) (i a : Nat) : stF f v i (a + 1) a = f a := by simp [stF]
theorem stF_step (f : Nat → Int) (v : Int) (i a j : Nat) (h : a + 1 ≤ i) : upd (stF f v i (a + 1)) (a + 1) (f a) j = stF f v i a j := by
  unfold upd stF
  by_cases h1 : j = a + 1
  · subst h1
    have : ¬ a + 1 < a := by omega
    simp [this]
  · by_cases h2 : j = a
    · subst h2
      have : ¬ j = i := by omega
      simp [this]
    · by_cases h3 : j < a
      · have : j < a + 1 := by omega
        simp [h1, h3, this]
      · have : ¬ j < a + 1 := by omega
        simp [h1, h2, h3, this]
theorem stF_end (f : Nat → Int) (v : Int) (i a j : Nat) : upd (stF f v i a) a v j = shF f v a j := by
  unfold upd stF shF
  by_cases h1 : j = a
  · subst h1; simp
  · by_cases h2 : j < a <;> simp [h1, h2]
theorem half_cast (n : Nat) (h : 1 ≤ n) : ((n : Int) - 1).tdiv 2 = (((n - 1) / 2 : Nat) : Int) := by
  rw [Int.tdiv_eq_ediv_of_nonneg (by omega)]; omega
theorem own_belowS {w w' : World} {base size n : Nat} {e : TypeId} {v : Value} {l : List Value} (h : w.ownsRow base e size v n l) (hb : Below w.heap.size w w') : w'.ownsRow base e size v n l :=
  h.kept (row := none) ⟨hb.os, hb.tape, hb.output, hb.size, fun i hi _ => hb.block i hi⟩ (by cases v.ownBlock <;> simp)
theorem own_isSliceS {w : World} {base size n : Nat} {e : TypeId} {v : Value} {l : List Value} (h : w.ownsRow base e size v n l) : ∃ A cap, v = .slice A n cap := by
  rcases h.2 with ⟨h1, h2⟩ | ⟨g, cap, cur, h1, _⟩
  · subst h2; exact ⟨_, _, h1⟩
  · exact ⟨_, _, h1⟩
theorem own16_rowS {w : World} {L n q cap : Nat} {F : Nat → Int} (h : w.ownsRow L 27 1 (.slice (some ⟨q, 0, none⟩) n cap) n (l16 F n)) : L ≤ q ∧ Row16 w q n F := by
  rcases own16_row h with ⟨e, _⟩ | ⟨q', cap', e, h1, h2⟩
  · cases e
  · injection e with e1 e2 e3
    injection e1 with e1
    injection e1 with e1
    subst e1
    exact ⟨h1, h2⟩

/-! ### THE PROGRAM -/
set_option maxRecDepth 100000 in
set_option maxHeartbeats 4000000 in
theorem middle_any (A : Option Addr) (n cap : Nat) (g : Nat → Nat → Int) (k : Nat) (hk : k < 64) (h1 : 1 ≤ n) (hn : n ≤ 8) (hs : ∀ i, i < n → S16 (g i)) (w : World) (hr : PrsIn w A n g) :
    Calls Tryz.prog 72 #[.slice A n cap, .int .i64 (k : Int)] w fun e w' => e = .returned (.int .i16 (medF g n k)) ∧ Below w.heap.size w w' := by
  obtain ⟨i0, hi, hz0, hz1, hz2⟩ := info_parts i16Info
  have hX : ∀ j, j < n → -32768 ≤ (fun i => g i k) j ∧ (fun i => g i k) j ≤ 32767 := fun j hj => hs j hj k hk
  have HX := Lib.hid hX; clear hX hs
  have HR := Lib.hid hr; clear hr
  have hk' : (k : Int) < 64 := by omega
  have hmed : Hid (medF g n k = isF (fun i => g i k) n ((n - 1) / 2)) := Lib.hid rfl
  go_enter Tryz.func72, Tryz.ntmps72
  go_wp2_with (refine wpList_make_own w rfl (.const (.int .i64 0)) (.tmp 9) 87 rfl w.heap.size 27 i0 (.int .i16 0) 1 Tryz.underlying87 hi hz0 hz1 .i64 .i64 (n : Int) n rfl rfl rfl (by rw [hz2]; omega) (by unfold maxLen; omega) (Nat.le_refl _) ?_)
  intro w1 o1 hg1
  have k1 : Below w.heap.size w w1 := Below.grown (Below.refl _ _) hg1 (Nat.le_refl _) (fun _ e => by cases e)
  clear hg1
  have O1 := Lib.hid o1; clear o1
  go_wp2_with fail
  go_loopw [5, 13] (fun sv iv wr => ∃ i : Nat, i ≤ n ∧ iv = .int .i64 (i : Int) ∧ wr.ownsRow w.heap.size 27 1 sv i (l16 (fun j => g j k) i) ∧ Below w.heap.size w wr) (fun _ iv _ => n - (intOf iv).toNat)
  case atStart => exact ⟨0, by omega, rfl, O1.out, k1⟩
  case round =>
    clear O1 k1
    obtain ⟨i, hin, rfl, ho, hB⟩ := hrel
    by_cases hlt : i < n
    · obtain ⟨A2, cap2, rfl⟩ := own_isSliceS ho
      rcases HR.out.below hB (Nat.le_refl _) with h0 | ⟨b, o, rfl, hlb, hc⟩
      · exfalso; omega
      have p0 := hc i hlt
      clear hc
      have hsz := hB.size
      have hlt' : (i : Int) < n := by omega
      have z0 := HasArr.zero wr 29 (b := wr.heap.size) rfl
      have z1 := z0.setRow .i16 (g i)
      have kB := below_setRow ((Below.refl wr.heap.size wr).alloc (Nat.le_refl _) (.cells #[.int .i16 0, .int .i16 0, .int .i16 0, .int .i16 0, .int .i16 0, .int .i16 0, .int .i16 0, .int .i16 0, .int .i16 0, .int .i16 0, .int .i16 0, .int .i16 0, .int .i16 0, .int .i16 0, .int .i16 0, .int .i16 0, .int .i16 0, .int .i16 0, .int .i16 0, .int .i16 0, .int .i16 0, .int .i16 0, .int .i16 0, .int .i16 0, .int .i16 0, .int .i16 0, .int .i16 0, .int .i16 0, .int .i16 0, .int .i16 0, .int .i16 0, .int .i16 0, .int .i16 0, .int .i16 0, .int .i16 0, .int .i16 0, .int .i16 0, .int .i16 0, .int .i16 0, .int .i16 0, .int .i16 0, .int .i16 0, .int .i16 0, .int .i16 0, .int .i16 0, .int .i16 0, .int .i16 0, .int .i16 0, .int .i16 0, .int .i16 0, .int .i16 0, .int .i16 0, .int .i16 0, .int .i16 0, .int .i16 0, .int .i16 0, .int .i16 0, .int .i16 0, .int .i16 0, .int .i16 0, .int .i16 0, .int .i16 0, .int .i16 0, .int .i16 0] 29)) (b := wr.heap.size) (by omega) (arrV .i16 64 (g i))
      have o2 := own_belowS ho kB
      have hB2 := Lib.hid (hB.trans (kB.mono hsz))
      have hz : w.heap.size ≤ ((wr.alloc (.cells #[.int .i16 0, .int .i16 0, .int .i16 0, .int .i16 0, .int .i16 0, .int .i16 0, .int .i16 0, .int .i16 0, .int .i16 0, .int .i16 0, .int .i16 0, .int .i16 0, .int .i16 0, .int .i16 0, .int .i16 0, .int .i16 0, .int .i16 0, .int .i16 0, .int .i16 0, .int .i16 0, .int .i16 0, .int .i16 0, .int .i16 0, .int .i16 0, .int .i16 0, .int .i16 0, .int .i16 0, .int .i16 0, .int .i16 0, .int .i16 0, .int .i16 0, .int .i16 0, .int .i16 0, .int .i16 0, .int .i16 0, .int .i16 0, .int .i16 0, .int .i16 0, .int .i16 0, .int .i16 0, .int .i16 0, .int .i16 0, .int .i16 0, .int .i16 0, .int .i16 0, .int .i16 0, .int .i16 0, .int .i16 0, .int .i16 0, .int .i16 0, .int .i16 0, .int .i16 0, .int .i16 0, .int .i16 0, .int .i16 0, .int .i16 0, .int .i16 0, .int .i16 0, .int .i16 0, .int .i16 0, .int .i16 0, .int .i16 0, .int .i16 0, .int .i16 0] 29)).setRow wr.heap.size (arrV .i16 64 (g i))).heap.size := hB2.out.size
      have c1 := z1.cell hk
      have hsn := Lib.hid (l16_congr (F := fun j => if j = i then g i k else (fun j => g j k) j) (G := fun j => g j k) (n := i + 1) (fun j hj => by
        show (if j = i then g i k else g j k) = g j k
        by_cases e : j = i
        · subst e; simp
        · rw [if_neg e]))
      clear kB ho hB z1
      go_wp2_with (first | (refine wpList_load_part p0 29 (.tmp 15) rfl rfl rfl Tryz.underlying29 sizePrint ?_) | (refine wpList_store_arr z0 29 (.tmp 7) (.tmp 16) rfl rfl rfl rfl sizePrint ?_) | (at_builtin; refine wpList_append_i16 rfl _ _ rfl rfl o2 rfl (by simp) (by omega) hz ?_))
      intro v3 w3 o3 hb3
      have hB3 := hB2.out.trans hb3
      obtain ⟨A3, cap3, rfl⟩ := own_isSliceS o3
      rw [hsn.out] at o3
      clear o2 z0 p0 c1 hB2 hz hb3 hsn
      go_wp2_with fail
      go_roundw
      case rel => exact ⟨i + 1, by omega, by go_num, o3, hB3⟩
      case measure => simp [intOf]; omega
    · obtain rfl : i = n := by omega
      rcases own16_row ho with ⟨_, h0⟩ | ⟨q, cap3, rfl, hq, hR⟩
      · exfalso; omega
      have hS := Lib.hid (sort16_any q i cap3 (fun j => g j k) HX.out (by omega) wr hR)
      have hh := half_cast i h1
      have hB2 := Lib.hid hB; clear hB ho hR
      have hd : (i - 1) / 2 < i := by omega
      have hd' : (((i - 1) / 2 : Nat) : Int) < i := by omega
      go_wp2_with fail
      refine hS.out.mono ?_; rintro e w4 ⟨⟨v, rfl⟩, hR4, hb4⟩
      have c4 := hR4.cell hd
      have k4 := hB2.out.trans (hb4.mono hq)
      clear hR4 hb4 hS
      rw [← hmed.out] at c4
      generalize hM : (i - 1) / 2 = M at *
      go_wp2_with fail
      go_ret
      exact ⟨rfl, k4⟩

set_option maxRecDepth 100000 in
set_option maxHeartbeats 4000000 in
theorem medianOf_any (A : Option Addr) (n cap : Nat) (g : Nat → Nat → Int) (h1 : 1 ≤ n) (hn : n ≤ 8) (hs : ∀ i, i < n → S16 (g i)) (w : World) (hr : PrsIn w A n g) :
    Calls Tryz.prog 46 #[.slice A n cap] w fun e w' => e = .returned (.agg (arrV .i16 64 (medF g n))) ∧ Below w.heap.size w w' := by
  have a1 := (HasArr.zero w 29 (b := w.heap.size) rfl).alloc (.cells #[.int .i16 0, .int .i16 0, .int .i16 0, .int .i16 0, .int .i16 0, .int .i16 0, .int .i16 0, .int .i16 0, .int .i16 0, .int .i16 0, .int .i16 0, .int .i16 0, .int .i16 0, .int .i16 0, .int .i16 0, .int .i16 0, .int .i16 0, .int .i16 0, .int .i16 0, .int .i16 0, .int .i16 0, .int .i16 0, .int .i16 0, .int .i16 0, .int .i16 0, .int .i16 0, .int .i16 0, .int .i16 0, .int .i16 0, .int .i16 0, .int .i16 0, .int .i16 0, .int .i16 0, .int .i16 0, .int .i16 0, .int .i16 0, .int .i16 0, .int .i16 0, .int .i16 0, .int .i16 0, .int .i16 0, .int .i16 0, .int .i16 0, .int .i16 0, .int .i16 0, .int .i16 0, .int .i16 0, .int .i16 0, .int .i16 0, .int .i16 0, .int .i16 0, .int .i16 0, .int .i16 0, .int .i16 0, .int .i16 0, .int .i16 0, .int .i16 0, .int .i16 0, .int .i16 0, .int .i16 0, .int .i16 0, .int .i16 0, .int .i16 0, .int .i16 0] 29)
  have a2 := HasArr.zero (w.alloc (.cells #[.int .i16 0, .int .i16 0, .int .i16 0, .int .i16 0, .int .i16 0, .int .i16 0, .int .i16 0, .int .i16 0, .int .i16 0, .int .i16 0, .int .i16 0, .int .i16 0, .int .i16 0, .int .i16 0, .int .i16 0, .int .i16 0, .int .i16 0, .int .i16 0, .int .i16 0, .int .i16 0, .int .i16 0, .int .i16 0, .int .i16 0, .int .i16 0, .int .i16 0, .int .i16 0, .int .i16 0, .int .i16 0, .int .i16 0, .int .i16 0, .int .i16 0, .int .i16 0, .int .i16 0, .int .i16 0, .int .i16 0, .int .i16 0, .int .i16 0, .int .i16 0, .int .i16 0, .int .i16 0, .int .i16 0, .int .i16 0, .int .i16 0, .int .i16 0, .int .i16 0, .int .i16 0, .int .i16 0, .int .i16 0, .int .i16 0, .int .i16 0, .int .i16 0, .int .i16 0, .int .i16 0, .int .i16 0, .int .i16 0, .int .i16 0, .int .i16 0, .int .i16 0, .int .i16 0, .int .i16 0, .int .i16 0, .int .i16 0, .int .i16 0, .int .i16 0] 29)) 29 (b := w.heap.size + 1) (by simp)
  have k0 := ((Below.refl w.heap.size w).alloc (Nat.le_refl _) (.cells #[.int .i16 0, .int .i16 0, .int .i16 0, .int .i16 0, .int .i16 0, .int .i16 0, .int .i16 0, .int .i16 0, .int .i16 0, .int .i16 0, .int .i16 0, .int .i16 0, .int .i16 0, .int .i16 0, .int .i16 0, .int .i16 0, .int .i16 0, .int .i16 0, .int .i16 0, .int .i16 0, .int .i16 0, .int .i16 0, .int .i16 0, .int .i16 0, .int .i16 0, .int .i16 0, .int .i16 0, .int .i16 0, .int .i16 0, .int .i16 0, .int .i16 0, .int .i16 0, .int .i16 0, .int .i16 0, .int .i16 0, .int .i16 0, .int .i16 0, .int .i16 0, .int .i16 0, .int .i16 0, .int .i16 0, .int .i16 0, .int .i16 0, .int .i16 0, .int .i16 0, .int .i16 0, .int .i16 0, .int .i16 0, .int .i16 0, .int .i16 0, .int .i16 0, .int .i16 0, .int .i16 0, .int .i16 0, .int .i16 0, .int .i16 0, .int .i16 0, .int .i16 0, .int .i16 0, .int .i16 0, .int .i16 0, .int .i16 0, .int .i16 0, .int .i16 0] 29)).alloc (by simp) (.cells #[.int .i16 0, .int .i16 0, .int .i16 0, .int .i16 0, .int .i16 0, .int .i16 0, .int .i16 0, .int .i16 0, .int .i16 0, .int .i16 0, .int .i16 0, .int .i16 0, .int .i16 0, .int .i16 0, .int .i16 0, .int .i16 0, .int .i16 0, .int .i16 0, .int .i16 0, .int .i16 0, .int .i16 0, .int .i16 0, .int .i16 0, .int .i16 0, .int .i16 0, .int .i16 0, .int .i16 0, .int .i16 0, .int .i16 0, .int .i16 0, .int .i16 0, .int .i16 0, .int .i16 0, .int .i16 0, .int .i16 0, .int .i16 0, .int .i16 0, .int .i16 0, .int .i16 0, .int .i16 0, .int .i16 0, .int .i16 0, .int .i16 0, .int .i16 0, .int .i16 0, .int .i16 0, .int .i16 0, .int .i16 0, .int .i16 0, .int .i16 0, .int .i16 0, .int .i16 0, .int .i16 0, .int .i16 0, .int .i16 0, .int .i16 0, .int .i16 0, .int .i16 0, .int .i16 0, .int .i16 0, .int .i16 0, .int .i16 0, .int .i16 0, .int .i16 0] 29)
  have Hm := Lib.hid (fun k hk W hW => middle_any A n cap g k hk h1 hn hs W hW)
  have HR := Lib.hid hr; clear hr hs
  have b1 := a1.rowOther (b' := w.heap.size + 1) (by omega) (arrV .i16 64 fun _ => 0)
  have b2 := a2.setRow .i16 (fun _ => 0)
  have k1 := below_setRow k0 (b := w.heap.size + 1) (by omega) (arrV .i16 64 fun _ => 0)
  go_enter Tryz.func46, Tryz.ntmps46
  go_wp2_with (refine wpList_store_arr (g := fun _ => 0) a2 29 (.tmp 3) (.tmp 5) rfl rfl rfl (by rw [zeroArr16]; rfl) sizePrint ?_)
  clear a1 a2 k0
  generalize (((w.alloc (.cells #[.int .i16 0, .int .i16 0, .int .i16 0, .int .i16 0, .int .i16 0, .int .i16 0, .int .i16 0, .int .i16 0, .int .i16 0, .int .i16 0, .int .i16 0, .int .i16 0, .int .i16 0, .int .i16 0, .int .i16 0, .int .i16 0, .int .i16 0, .int .i16 0, .int .i16 0, .int .i16 0, .int .i16 0, .int .i16 0, .int .i16 0, .int .i16 0, .int .i16 0, .int .i16 0, .int .i16 0, .int .i16 0, .int .i16 0, .int .i16 0, .int .i16 0, .int .i16 0, .int .i16 0, .int .i16 0, .int .i16 0, .int .i16 0, .int .i16 0, .int .i16 0, .int .i16 0, .int .i16 0, .int .i16 0, .int .i16 0, .int .i16 0, .int .i16 0, .int .i16 0, .int .i16 0, .int .i16 0, .int .i16 0, .int .i16 0, .int .i16 0, .int .i16 0, .int .i16 0, .int .i16 0, .int .i16 0, .int .i16 0, .int .i16 0, .int .i16 0, .int .i16 0, .int .i16 0, .int .i16 0, .int .i16 0, .int .i16 0, .int .i16 0, .int .i16 0] 29)).alloc (.cells #[.int .i16 0, .int .i16 0, .int .i16 0, .int .i16 0, .int .i16 0, .int .i16 0, .int .i16 0, .int .i16 0, .int .i16 0, .int .i16 0, .int .i16 0, .int .i16 0, .int .i16 0, .int .i16 0, .int .i16 0, .int .i16 0, .int .i16 0, .int .i16 0, .int .i16 0, .int .i16 0, .int .i16 0, .int .i16 0, .int .i16 0, .int .i16 0, .int .i16 0, .int .i16 0, .int .i16 0, .int .i16 0, .int .i16 0, .int .i16 0, .int .i16 0, .int .i16 0, .int .i16 0, .int .i16 0, .int .i16 0, .int .i16 0, .int .i16 0, .int .i16 0, .int .i16 0, .int .i16 0, .int .i16 0, .int .i16 0, .int .i16 0, .int .i16 0, .int .i16 0, .int .i16 0, .int .i16 0, .int .i16 0, .int .i16 0, .int .i16 0, .int .i16 0, .int .i16 0, .int .i16 0, .int .i16 0, .int .i16 0, .int .i16 0, .int .i16 0, .int .i16 0, .int .i16 0, .int .i16 0, .int .i16 0, .int .i16 0, .int .i16 0, .int .i16 0] 29)).setRow (w.heap.size + 1) (arrV .i16 64 fun _ => 0)) = W1 at *
  have b3 : HasArr W1 (w.heap.size + 1) 29 .i16 64 (mixN (medF g n) 0) := b2.congr fun j _ => by simp [mixN]
  go_loopw [6] (fun iv wr => ∃ i : Nat, i ≤ 64 ∧ iv = .int .i64 (i : Int) ∧ HasArr wr w.heap.size 29 .i16 64 (fun _ => 0) ∧ HasArr wr (w.heap.size + 1) 29 .i16 64 (mixN (medF g n) i) ∧ Below w.heap.size w wr) (fun iv _ => 64 - (intOf iv).toNat)
  case atStart => exact ⟨0, by omega, rfl, b1, b3, k1⟩
  case round =>
    clear b1 b2 b3 k1
    obtain ⟨i, hi, rfl, hz, hm, hB⟩ := hrel
    by_cases hlt : i < 64
    · have hi' : (i : Int) < 64 := by omega
      have hmi := Lib.hid (Hm.out i hlt wr (HR.out.below hB (Nat.le_refl _)))
      have hst := Lib.hid (fun j => mixN_step (medF g n) i j)
      have HZ := Lib.hid hz; have HM := Lib.hid hm; have HB := Lib.hid hB; clear hz hm hB
      generalize hV : medF g n i = V at *
      go_wp2_with fail
      refine hmi.out.mono ?_; rintro e w3 ⟨rfl, hb3⟩
      have m3 := HM.out.below hb3 HM.out.lt
      have z3 := HZ.out.below hb3 HZ.out.lt
      have k3 := HB.out.trans (hb3.mono HB.out.size)
      have c3 := m3.cell hlt
      have f3 := m3.free i
      have m4 := Lib.hid ((m3.set i V).congr fun j _ => hst.out j)
      have z4 := Lib.hid (z3.other (a := ⟨w.heap.size + 1, i, none⟩) (by simp) (.int .i16 V))
      have k4 := Lib.hid (k3.setCell (p := ⟨w.heap.size + 1, i, none⟩) (by simp) (.int .i16 V))
      clear m3 z3 k3 hb3 HZ HM HB hmi
      go_wp2_with fail
      go_roundw
      case rel => exact ⟨i + 1, by omega, by go_num, z4.out, m4.out, k4.out⟩
      case measure => simp [intOf]; omega
    · obtain rfl : i = 64 := by omega
      have hm2 := hm.congr (g := medF g n) fun j hj => by unfold mixN; rw [if_pos hj]
      have KB := Lib.hid hB; clear hB
      go_wp2_with (first | (refine wpList_load_arr hm2 29 (.tmp 3) rfl rfl rfl Tryz.underlying29 sizePrint ?_) | (refine wpList_store_arr hz 29 (.tmp 2) (.tmp 15) rfl rfl rfl rfl sizePrint ?_))
      refine bodyPost_ret (v := .agg (arrV .i16 64 (medF g n))) ?_ rfl ⟨rfl, below_setRow KB.out (b := w.heap.size) (by omega) _⟩
      exact results_cell_row rfl _ _ _ _ _ _ _ rfl (hz.setRow .i16 (medF g n)) Tryz.underlying29 rfl (by rw [arrV_size]; exact sizePrint)
end Go.Proofs.YtmibinfaafhgdaaGreatDoor

namespace Go.Proofs.YtmibinfaafhgdaaGreatDoor
open Go.RowKit

set_option maxRecDepth 100000 in
set_option maxHeartbeats 8000000 in
theorem l07Median_any (A : Option Addr) (n cap : Nat) (g : Nat → Nat → Int) (h1 : 1 ≤ n) (hn : n ≤ 8) (hs : ∀ i, i < n → S16 (g i)) (w : World) (hr : PrsIn w A n g) :
    Calls Tryz.prog 28 #[.slice A n cap] w fun e w' => e = .returned (.agg (arrV .i16 64 (medF g n))) ∧ Below w.heap.size w w' := by
  have a1 := (HasArr.zero w 29 (b := w.heap.size) rfl).alloc (.cells #[.int .i16 0, .int .i16 0, .int .i16 0, .int .i16 0, .int .i16 0, .int .i16 0, .int .i16 0, .int .i16 0, .int .i16 0, .int .i16 0, .int .i16 0, .int .i16 0, .int .i16 0, .int .i16 0, .int .i16 0, .int .i16 0, .int .i16 0, .int .i16 0, .int .i16 0, .int .i16 0, .int .i16 0, .int .i16 0, .int .i16 0, .int .i16 0, .int .i16 0, .int .i16 0, .int .i16 0, .int .i16 0, .int .i16 0, .int .i16 0, .int .i16 0, .int .i16 0, .int .i16 0, .int .i16 0, .int .i16 0, .int .i16 0, .int .i16 0, .int .i16 0, .int .i16 0, .int .i16 0, .int .i16 0, .int .i16 0, .int .i16 0, .int .i16 0, .int .i16 0, .int .i16 0, .int .i16 0, .int .i16 0, .int .i16 0, .int .i16 0, .int .i16 0, .int .i16 0, .int .i16 0, .int .i16 0, .int .i16 0, .int .i16 0, .int .i16 0, .int .i16 0, .int .i16 0, .int .i16 0, .int .i16 0, .int .i16 0, .int .i16 0, .int .i16 0] 29)
  have a2 := HasArr.zero (w.alloc (.cells #[.int .i16 0, .int .i16 0, .int .i16 0, .int .i16 0, .int .i16 0, .int .i16 0, .int .i16 0, .int .i16 0, .int .i16 0, .int .i16 0, .int .i16 0, .int .i16 0, .int .i16 0, .int .i16 0, .int .i16 0, .int .i16 0, .int .i16 0, .int .i16 0, .int .i16 0, .int .i16 0, .int .i16 0, .int .i16 0, .int .i16 0, .int .i16 0, .int .i16 0, .int .i16 0, .int .i16 0, .int .i16 0, .int .i16 0, .int .i16 0, .int .i16 0, .int .i16 0, .int .i16 0, .int .i16 0, .int .i16 0, .int .i16 0, .int .i16 0, .int .i16 0, .int .i16 0, .int .i16 0, .int .i16 0, .int .i16 0, .int .i16 0, .int .i16 0, .int .i16 0, .int .i16 0, .int .i16 0, .int .i16 0, .int .i16 0, .int .i16 0, .int .i16 0, .int .i16 0, .int .i16 0, .int .i16 0, .int .i16 0, .int .i16 0, .int .i16 0, .int .i16 0, .int .i16 0, .int .i16 0, .int .i16 0, .int .i16 0, .int .i16 0, .int .i16 0] 29)) 29 (b := w.heap.size + 1) (by simp)
  have k0 := ((Below.refl w.heap.size w).alloc (Nat.le_refl _) (.cells #[.int .i16 0, .int .i16 0, .int .i16 0, .int .i16 0, .int .i16 0, .int .i16 0, .int .i16 0, .int .i16 0, .int .i16 0, .int .i16 0, .int .i16 0, .int .i16 0, .int .i16 0, .int .i16 0, .int .i16 0, .int .i16 0, .int .i16 0, .int .i16 0, .int .i16 0, .int .i16 0, .int .i16 0, .int .i16 0, .int .i16 0, .int .i16 0, .int .i16 0, .int .i16 0, .int .i16 0, .int .i16 0, .int .i16 0, .int .i16 0, .int .i16 0, .int .i16 0, .int .i16 0, .int .i16 0, .int .i16 0, .int .i16 0, .int .i16 0, .int .i16 0, .int .i16 0, .int .i16 0, .int .i16 0, .int .i16 0, .int .i16 0, .int .i16 0, .int .i16 0, .int .i16 0, .int .i16 0, .int .i16 0, .int .i16 0, .int .i16 0, .int .i16 0, .int .i16 0, .int .i16 0, .int .i16 0, .int .i16 0, .int .i16 0, .int .i16 0, .int .i16 0, .int .i16 0, .int .i16 0, .int .i16 0, .int .i16 0, .int .i16 0, .int .i16 0] 29)).alloc (by simp) (.cells #[.int .i16 0, .int .i16 0, .int .i16 0, .int .i16 0, .int .i16 0, .int .i16 0, .int .i16 0, .int .i16 0, .int .i16 0, .int .i16 0, .int .i16 0, .int .i16 0, .int .i16 0, .int .i16 0, .int .i16 0, .int .i16 0, .int .i16 0, .int .i16 0, .int .i16 0, .int .i16 0, .int .i16 0, .int .i16 0, .int .i16 0, .int .i16 0, .int .i16 0, .int .i16 0, .int .i16 0, .int .i16 0, .int .i16 0, .int .i16 0, .int .i16 0, .int .i16 0, .int .i16 0, .int .i16 0, .int .i16 0, .int .i16 0, .int .i16 0, .int .i16 0, .int .i16 0, .int .i16 0, .int .i16 0, .int .i16 0, .int .i16 0, .int .i16 0, .int .i16 0, .int .i16 0, .int .i16 0, .int .i16 0, .int .i16 0, .int .i16 0, .int .i16 0, .int .i16 0, .int .i16 0, .int .i16 0, .int .i16 0, .int .i16 0, .int .i16 0, .int .i16 0, .int .i16 0, .int .i16 0, .int .i16 0, .int .i16 0, .int .i16 0, .int .i16 0] 29)
  have HR := Lib.hid hr; clear hr
  have HS := Lib.hid hs; clear hs
  have b1 := a1.rowOther (b' := w.heap.size + 1) (by omega) (arrV .i16 64 fun _ => 0)
  have b2 := a2.setRow .i16 (fun _ => 0)
  have k1 := below_setRow k0 (b := w.heap.size + 1) (by omega) (arrV .i16 64 fun _ => 0)
  go_enter Tryz.func28, Tryz.ntmps28
  go_wp2_with (refine wpList_store_arr (g := fun _ => 0) a2 29 (.tmp 3) (.tmp 9) rfl rfl rfl (by rw [zeroArr16]; rfl) sizePrint ?_)
  clear a1 a2 k0
  generalize (((w.alloc (.cells #[.int .i16 0, .int .i16 0, .int .i16 0, .int .i16 0, .int .i16 0, .int .i16 0, .int .i16 0, .int .i16 0, .int .i16 0, .int .i16 0, .int .i16 0, .int .i16 0, .int .i16 0, .int .i16 0, .int .i16 0, .int .i16 0, .int .i16 0, .int .i16 0, .int .i16 0, .int .i16 0, .int .i16 0, .int .i16 0, .int .i16 0, .int .i16 0, .int .i16 0, .int .i16 0, .int .i16 0, .int .i16 0, .int .i16 0, .int .i16 0, .int .i16 0, .int .i16 0, .int .i16 0, .int .i16 0, .int .i16 0, .int .i16 0, .int .i16 0, .int .i16 0, .int .i16 0, .int .i16 0, .int .i16 0, .int .i16 0, .int .i16 0, .int .i16 0, .int .i16 0, .int .i16 0, .int .i16 0, .int .i16 0, .int .i16 0, .int .i16 0, .int .i16 0, .int .i16 0, .int .i16 0, .int .i16 0, .int .i16 0, .int .i16 0, .int .i16 0, .int .i16 0, .int .i16 0, .int .i16 0, .int .i16 0, .int .i16 0, .int .i16 0, .int .i16 0] 29)).alloc (.cells #[.int .i16 0, .int .i16 0, .int .i16 0, .int .i16 0, .int .i16 0, .int .i16 0, .int .i16 0, .int .i16 0, .int .i16 0, .int .i16 0, .int .i16 0, .int .i16 0, .int .i16 0, .int .i16 0, .int .i16 0, .int .i16 0, .int .i16 0, .int .i16 0, .int .i16 0, .int .i16 0, .int .i16 0, .int .i16 0, .int .i16 0, .int .i16 0, .int .i16 0, .int .i16 0, .int .i16 0, .int .i16 0, .int .i16 0, .int .i16 0, .int .i16 0, .int .i16 0, .int .i16 0, .int .i16 0, .int .i16 0, .int .i16 0, .int .i16 0, .int .i16 0, .int .i16 0, .int .i16 0, .int .i16 0, .int .i16 0, .int .i16 0, .int .i16 0, .int .i16 0, .int .i16 0, .int .i16 0, .int .i16 0, .int .i16 0, .int .i16 0, .int .i16 0, .int .i16 0, .int .i16 0, .int .i16 0, .int .i16 0, .int .i16 0, .int .i16 0, .int .i16 0, .int .i16 0, .int .i16 0, .int .i16 0, .int .i16 0, .int .i16 0, .int .i16 0] 29)).setRow (w.heap.size + 1) (arrV .i16 64 fun _ => 0)) = W1 at *
  have b3 : HasArr W1 (w.heap.size + 1) 29 .i16 64 (mixN (medF g n) 0) := b2.congr fun j _ => by simp [mixN]
  go_loopw [4] (fun iv wr => ∃ k : Nat, k ≤ 64 ∧ iv = .int .i64 (k : Int) ∧ HasArr wr w.heap.size 29 .i16 64 (fun _ => 0) ∧ HasArr wr (w.heap.size + 1) 29 .i16 64 (mixN (medF g n) k) ∧ Below w.heap.size w wr) (fun iv _ => 64 - (intOf iv).toNat)
  case atStart => exact ⟨0, by omega, rfl, b1, b3, k1⟩
  case round =>
    clear b1 b2 b3 k1
    obtain ⟨k, hk, rfl, hz, hm, hB⟩ := hrel
    by_cases hlt : k < 64
    rotate_left
    · obtain rfl : k = 64 := by omega
      have hm2 := hm.congr (g := medF g n) fun j hj => by unfold mixN; rw [if_pos hj]
      have KB := Lib.hid hB; clear hB
      go_wp2_with (first | (refine wpList_load_arr hm2 29 (.tmp 3) rfl rfl rfl Tryz.underlying29 sizePrint ?_) | (refine wpList_store_arr hz 29 (.tmp 2) (.tmp 67) rfl rfl rfl rfl sizePrint ?_))
      refine bodyPost_ret (v := .agg (arrV .i16 64 (medF g n))) ?_ rfl ⟨rfl, below_setRow KB.out (b := w.heap.size) (by omega) _⟩
      exact results_cell_row rfl _ _ _ _ _ _ _ rfl (hz.setRow .i16 (medF g n)) Tryz.underlying29 rfl (by rw [arrV_size]; exact sizePrint)
    have hk' : (k : Int) < 64 := by omega
    have hml := hm.lt
    have o1 := World.ownsRow_lit (base := w.heap.size + 2) (e := 27) (size := 1) wr #[] 0 (by omega) (Nat.zero_le _) rfl
    have hb1 := (Below.refl (w.heap.size + 2) wr).alloc (by omega) (.cells #[] 27)
    have HZ := Lib.hid hz; have HM := Lib.hid hm; have HB := Lib.hid hB; clear hz hm hB
    obtain ⟨wo, hwo⟩ : ∃ wo : World, wo = wr := ⟨_, rfl⟩
    rw [← hwo] at hb1 o1 HZ HM HB hml ⊢
    clear hwo
    have hsk := Lib.hid (fun i hi => HS.out i hi k hlt)
    go_wp2_with fail
    go_loopw [5, 6] (fun sv iv wr => ∃ i : Nat, i ≤ n ∧ iv = .int .i64 (i : Int) ∧ wr.ownsRow (w.heap.size + 2) 27 1 sv i (l16 (isF (fun j => g j k) i) i) ∧ Below (w.heap.size + 2) wo wr) (fun _ iv _ => n - (intOf iv).toNat)
    case atStart => exact ⟨0, by omega, rfl, o1, hb1⟩
    case round =>
      clear o1 hb1
      obtain ⟨i, hin, rfl, ho, hB2⟩ := hrel
      obtain ⟨A2, cap2, rfl⟩ := own_isSliceS ho
      by_cases hil : i < n
      rotate_left
      · obtain rfl : i = n := by omega
        rcases own16_row ho with ⟨_, h0⟩ | ⟨q, cap3, e3, hq, hR⟩
        · exfalso; omega
        injection e3 with e4 e5 e6
        subst e4
        have hh := half_cast i h1
        have hd : (i - 1) / 2 < i := by omega
        have hd' : (((i - 1) / 2 : Nat) : Int) < i := by omega
        have c4 := hR.cell hd
        have hmed : isF (fun j => g j k) i ((i - 1) / 2) = medF g i k := rfl
        rw [hmed] at c4
        have hst := Lib.hid (fun j => mixN_step (medF g i) k j)
        have m3 := HM.out.below hB2 (by omega)
        have z3 := HZ.out.below hB2 (by omega)
        have k3 := HB.out.trans (hB2.mono (by omega))
        have c3 := m3.cell hlt
        have f3 := m3.free k
        generalize hV : medF g i k = V at *
        have m4 := Lib.hid ((m3.set k V).congr fun j _ => hst.out j)
        have z4 := Lib.hid (z3.other (a := ⟨w.heap.size + 1, k, none⟩) (by simp) (.int .i16 V))
        have k4 := Lib.hid (k3.setCell (p := ⟨w.heap.size + 1, k, none⟩) (by simp) (.int .i16 V))
        generalize hMM : (i - 1) / 2 = M at *
        clear m3 z3 k3 HZ HM HB hR ho
        go_wp2_with fail
        go_roundw
        case rel => exact ⟨k + 1, by omega, by go_num, z4.out, m4.out, k4.out⟩
        case measure => simp [intOf]; omega
      have hil' : (i : Int) < n := by omega
      have hwz : w.heap.size + 2 ≤ wr.heap.size := Nat.le_trans (by omega) hB2.size
      rcases HR.out.below (HB.out.trans (hB2.mono (by omega))) (Nat.le_refl _) with h0 | ⟨b, o, rfl, hlb, hc⟩
      · exfalso; omega
      have c0 := hc i hil k hlt
      clear hc
      have hx := hsk.out i hil
      have hfs := Lib.hid (fun a ha => isF_bd (x := fun j => g j k) (n := n) (fun j hj => hsk.out j hj) i hin a ha)
      have hnx : Hid (isF (fun j => g j k) (i + 1) = shF (isF (fun j => g j k) i) (g i k) (posF (isF (fun j => g j k) i) (g i k) i)) := Lib.hid rfl
      generalize hFe : isF (fun j => g j k) i = F at *
      have HB2 := Lib.hid hB2; clear hB2
      generalize hXe : g i k = X at *
      have hXL := Lib.hid hXe; have hFL := Lib.hid hFe; clear hXe hFe
      go_wp2_with (at_builtin; refine wpList_append_i16 rfl _ _ rfl rfl ho rfl (by first | rfl | simp) (by omega) hwz ?_)
      intro v3 w3 o3 hb3
      have o4 : w3.ownsRow (w.heap.size + 2) 27 1 v3 (i + 1) (l16 (stF F X i i) (i + 1)) := by
        rw [← l16_congr (fun j hj => stF_start F X i j hj)]; exact o3
      have hB3 := Lib.hid (HB2.out.trans hb3)
      clear o3 hb3 ho HB2 hwz
      rcases own16_row o4 with ⟨_, h0⟩ | ⟨q, cap3, rfl, hq, hR⟩
      · exfalso; omega
      have O4 := Lib.hid o4; clear o4 hR
      go_wp2_with fail
      go_loopw [8] (fun av wr => ∃ a : Nat, a ≤ i ∧ av = .int .i64 (a : Int) ∧ posF F X i = posF F X a ∧ wr.ownsRow (w.heap.size + 2) 27 1 (.slice (some ⟨q, 0, none⟩) (i + 1) cap3) (i + 1) (l16 (stF F X i a) (i + 1)) ∧ Below (w.heap.size + 2) wo wr) (fun av _ => (intOf av).toNat)
      case atStart => exact ⟨i, Nat.le_refl _, rfl, rfl, O4.out, hB3.out⟩
      case round =>
        clear O4 hB3
        obtain ⟨a, hai, rfl, hp, ho, hB4⟩ := hrel
        have hR := (own16_rowS ho).2
        have HP := Lib.hid hp; clear hp
        have hend : Hid (posF F X i = a → ∀ W : World, W.ownsRow (w.heap.size + 2) 27 1 (.slice (some ⟨q, 0, none⟩) (i + 1) cap3) (i + 1) (l16 (upd (stF F X i a) a X) (i + 1)) → W.ownsRow (w.heap.size + 2) 27 1 (.slice (some ⟨q, 0, none⟩) (i + 1) cap3) (i + 1) (l16 (isF (fun j => g j k) (i + 1)) (i + 1))) := Lib.hid (fun h W hW => by
          rw [hnx.out, h]
          rw [l16_congr (fun j _ => stF_end F X i a j)] at hW
          exact hW)
        have cz := hR.cell (j := a) (by omega)
        have fz := hR.free a
        have ha' : (a : Int) < (i + 1 : Nat) := by omega
        by_cases ha0 : a = 0
        · subst ha0
          have o5 := Lib.hid (hend.out HP.out _ (own16_set ho (k := 0) (by omega) X))
          have k5 := Lib.hid (hB4.setCell (p := ⟨q, 0, none⟩) hq (.int .i16 X))
          clear ho hB4 hR hend HP
          go_wp2_with fail
          go_roundw
          case rel => exact ⟨i + 1, by omega, by go_num, o5.out, k5.out⟩
          case measure => simp [intOf]; omega
        · obtain ⟨a', rfl⟩ : ∃ a', a = a' + 1 := ⟨a - 1, by omega⟩
          have cy := hR.cell (j := a') (by omega)
          rw [stF_before] at cy
          have hyb := hfs.out a' (by omega)
          have ha2 : (a' : Int) < (i + 1 : Nat) := by omega
          have hyes := posF_yes (f := F) (v := X) (m := a')
          have hno := posF_no (f := F) (v := X) (m := a')
          have hst := Lib.hid (l16_congr (n := i + 1) (fun j (_ : j < i + 1) => stF_step F X i a' j hai))
          generalize hYe : F a' = Y at *
          by_cases hlt2 : X < Y
          · have HP2 := Lib.hid (HP.out.trans (hyes hlt2)); clear hyes hno hend HP
            have o5 : Hid ((wr.setCell ⟨q, a' + 1, none⟩ (.int .i16 Y)).ownsRow (w.heap.size + 2) 27 1 (.slice (some ⟨q, 0, none⟩) (i + 1) cap3) (i + 1) (l16 (stF F X i a') (i + 1))) := Lib.hid (by
              have := own16_set ho (k := a' + 1) (by omega) Y
              rw [hst.out] at this; exact this)
            have k5 := Lib.hid (hB4.setCell (p := ⟨q, a' + 1, none⟩) hq (.int .i16 Y))
            clear ho hB4 hR hst
            go_wp2_with fail
            go_roundw
            case rel => exact ⟨a', by omega, by go_num, HP2.out, o5.out, k5.out⟩
            case measure => simp [intOf]
          · have hdec : decide (X < Y) = false := decide_eq_false hlt2
            have o5 := Lib.hid (hend.out (HP.out.trans (hno (by omega))) _ (own16_set ho (k := a' + 1) (by omega) X))
            have k5 := Lib.hid (hB4.setCell (p := ⟨q, a' + 1, none⟩) hq (.int .i16 X))
            clear ho hB4 hR hend HP hyes hno hst
            go_wp2_with fail
            go_roundw
            case rel => exact ⟨i + 1, by omega, by go_num, o5.out, k5.out⟩
            case measure => simp [intOf]; omega
end Go.Proofs.YtmibinfaafhgdaaGreatDoor

namespace Go.Proofs.YtmibinfaafhgdaaGreatDoor
open Go.RowKit

/-- The code of copies and a difference. -/
def copC (n : Nat) (g : Nat → Nat → Int) (x : Int) : Int := if prsB g n = true then (if inB (n : Int) 1 8 = true then (if inB x 0 400 = true then 0 else 2) else 2) else 1
theorem copC_bad {n : Nat} {g : Nat → Nat → Int} {x : Int} (h : prsB g n = false) : copC n g x = 1 := by simp [copC, h]
theorem copC_n {n : Nat} {g : Nat → Nat → Int} {x : Int} (h : prsB g n = true) (h1 : inB (n : Int) 1 8 = false) : copC n g x = 2 := by simp [copC, h, h1]
theorem copC_x {n : Nat} {g : Nat → Nat → Int} {x : Int} (h : prsB g n = true) (h1 : inB (n : Int) 1 8 = true) (h2 : inB x 0 400 = false) : copC n g x = 2 := by simp [copC, h, h1, h2]
theorem copC_ok {n : Nat} {g : Nat → Nat → Int} {x : Int} (h : prsB g n = true) (h1 : inB (n : Int) 1 8 = true) (h2 : inB x 0 400 = true) : copC n g x = 0 := by simp [copC, h, h1, h2]
theorem copC_cases (n : Nat) (g : Nat → Nat → Int) (x : Int) : (copC n g x = 0 ∧ prsB g n = true ∧ (1 ≤ n ∧ n ≤ 8) ∧ 0 ≤ x ∧ x ≤ 400) ∨ copC n g x = 1 ∨ copC n g x = 2 := by
  rcases h : prsB g n with _ | _
  · exact .inr (.inl (copC_bad h))
  · rcases h1 : inB (n : Int) 1 8 with _ | _
    · exact .inr (.inr (copC_n h h1))
    · rcases h2 : inB x 0 400 with _ | _
      · exact .inr (.inr (copC_x h h1 h2))
      · have a := inB_true.1 h1
        exact .inl ⟨copC_ok h h1 h2, rfl, by omega, inB_true.1 h2⟩

set_option maxRecDepth 100000 in
set_option maxHeartbeats 1000000 in
theorem l07Copies_any (A : Option Addr) (n cap : Nat) (g : Nat → Nat → Int) (x : Int) (hn : n ≤ 1048576) (hs : ∀ i, i < n → S16 (g i)) (w : World) (hr : PrsIn w A n g) :
    Calls Tryz.prog 27 #[.slice A n cap, .int .i64 x] w fun e w' => e = .returned (.int .i64 (copC n g x)) ∧ Below w.heap.size w w' := by
  go_enter Tryz.func27, Tryz.ntmps27
  go_wp2_with fail
  go_loopw [5] (fun i wr => ∃ k : Nat, k ≤ n ∧ i = .int .i64 k ∧ (∀ j, j < k → dnsB (g j) = true) ∧ Below w.heap.size w wr) (fun i _ => n - (intOf i).toNat)
  case atStart => exact ⟨0, Nat.zero_le _, rfl, fun j hj => by omega, Below.refl _ _⟩
  case round =>
    obtain ⟨k, hk, rfl, hj, hB⟩ := hrel
    have HJ := Lib.hid hj; clear hj
    by_cases hkn : k < n
    · have hs1 := hs k hkn
      clear hs
      rcases hr with h0 | ⟨b', o, rfl, hlt, hc⟩
      · exfalso; omega
      have q0 := (hc k hkn).below hB hlt
      clear hc
      have hd := l03PrintAt_any b' (o + k * 64) (g k) hs1 wr q0
      rcases hv : dnsB (g k) with _ | _
      · have Hz := Lib.hid (copC_bad (x := x) (prsB_no hkn hv))
        rw [hv] at hd
        have Hd := Lib.hid hd; clear hd q0 hs1 hv
        go_wp2_with fail
        refine Hd.out.mono ?_; rintro e w2 ⟨rfl, hb2⟩
        have hB2 := hB.trans (hb2.mono hB.size)
        go_wp2_with fail
        go_ret
        exact ⟨ret_int Hz.out.symm, hB2⟩
      · rw [hv] at hd
        have Hd := Lib.hid hd; clear hd q0 hs1
        have HV := Lib.hid hv; clear hv
        go_wp2_with fail
        refine Hd.out.mono ?_; rintro e w2 ⟨rfl, hb2⟩
        have hB2 := hB.trans (hb2.mono hB.size)
        clear hb2
        go_wp2_with fail
        go_roundw
        case rel => exact ⟨k + 1, by omega, by go_num, fun j hj => by
          by_cases e : j = k
          · subst e; exact HV.out
          · exact HJ.out j (by omega), hB2⟩
        case measure => simp [intOf]; omega
    · obtain rfl : k = n := by omega
      have hp : prsB g k = true := prsB_iff.2 HJ.out
      clear hs hr
      have hq := fun W => l00In_any (k : Int) 1 8 W
      have hq2 := fun W => l02Density_16 x W
      rcases hv : inB (k : Int) 1 8 with _ | _
      · have Hz := Lib.hid (copC_n (x := x) hp hv)
        rw [hv] at hq
        have Hq := Lib.hid hq; clear hq hv hq2 hp
        go_wp2_with (go_at_call 47; refine (Hq.out _).mono ?_; rintro e w' ⟨rfl, rfl⟩)
        go_ret
        exact ⟨ret_int Hz.out.symm, hB⟩
      · rcases hv2 : inB x 0 400 with _ | _
        · have Hz := Lib.hid (copC_x (x := x) hp hv hv2)
          rw [hv] at hq
          rw [hv2] at hq2
          have Hq := Lib.hid hq; have Hq2 := Lib.hid hq2; clear hq hv hq2 hv2 hp
          go_wp2_with (first | (go_at_call 47; refine (Hq.out _).mono ?_; rintro e w' ⟨rfl, rfl⟩) | (go_at_call 48; refine (Hq2.out _).mono ?_; rintro e w' ⟨rfl, rfl⟩))
          go_ret
          exact ⟨ret_int Hz.out.symm, hB⟩
        · have Hz := Lib.hid (copC_ok (x := x) hp hv hv2)
          rw [hv] at hq
          rw [hv2] at hq2
          have Hq := Lib.hid hq; have Hq2 := Lib.hid hq2; clear hq hv hq2 hv2 hp
          go_wp2_with (first | (go_at_call 47; refine (Hq.out _).mono ?_; rintro e w' ⟨rfl, rfl⟩) | (go_at_call 48; refine (Hq2.out _).mono ?_; rintro e w' ⟨rfl, rfl⟩))
          go_ret
          exact ⟨ret_int Hz.out.symm, hB⟩

/-! ### THE PROGRAM -/
theorem isDensityC_any (x : Int) (w : World) : Calls Tryz.prog 64 #[.int .i64 x] w fun e w' => e = .returned (.bool (inB x 0 400)) ∧ w = w' := by
  go_enter Tryz.func64, Tryz.ntmps64
  go_wp2_with (go_at_call 62; refine (inRange_any _ _ _ _).mono ?_; rintro e w' ⟨rfl, rfl⟩)
  go_ret
  exact ⟨rfl, rfl⟩

/-- The error of a code. -/
def copE (s : Ers) (c : Int) : Value := if c = 0 then .nilIface else if c = 1 then errV s.einvalid else errV s.erange
theorem copE_code (s : Ers) (n : Nat) (g : Nat → Nat → Int) (x : Int) : IsCode s (copE s (copC n g x)) (copC n g x) := by
  rcases copC_cases n g x with h | h | h
  · rw [h.1]; exact .ok
  · rw [h]; exact .einvalid
  · rw [h]; exact .erange

set_option maxRecDepth 100000 in
set_option maxHeartbeats 1000000 in
theorem checkCopies_any (s : Ers) (A : Option Addr) (n cap : Nat) (g : Nat → Nat → Int) (hn : n ≤ 1048576) (w : World) (hr : PrsIn w A n g) (hE : ErrEnv s w) :
    Calls Tryz.prog 45 #[.slice A n cap] w fun e w' => e = .returned (copE s (copC n g 0)) ∧ Below w.heap.size w w' := by
  have hp := arePrints_any A n cap g hn w hr
  have HE := Lib.hid hE; clear hE hr
  have hq := fun W => inRange_any (n : Int) 1 8 W
  rcases hv : prsB g n with _ | _
  · rw [copC_bad hv]
    rw [hv] at hp
    have Hp := Lib.hid hp; clear hp hv hq
    go_enter Tryz.func45, Tryz.ntmps45
    go_wp2_with fail
    refine Hp.out.mono ?_; rintro e w2 ⟨rfl, hb2⟩
    have ce := (HE.out.below hb2 (Nat.le_refl _)).c_einvalid
    go_wp2_with fail
    go_ret
    exact ⟨rfl, hb2⟩
  rw [hv] at hp
  have Hp := Lib.hid hp; clear hp
  rcases h1 : inB (n : Int) 1 8 with _ | _
  · rw [copC_n hv h1]
    rw [h1] at hq
    have Hq := Lib.hid hq; clear hq hv h1
    go_enter Tryz.func45, Tryz.ntmps45
    go_wp2_with fail
    refine Hp.out.mono ?_; rintro e w2 ⟨rfl, hb2⟩
    have ce := (HE.out.below hb2 (Nat.le_refl _)).c_erange
    go_wp2_with (go_at_call 62; refine (Hq.out _).mono ?_; rintro e w' ⟨rfl, rfl⟩)
    go_ret
    exact ⟨rfl, hb2⟩
  · rw [copC_ok hv h1 (by rfl)]
    rw [h1] at hq
    have Hq := Lib.hid hq; clear hq hv h1
    go_enter Tryz.func45, Tryz.ntmps45
    go_wp2_with fail
    refine Hp.out.mono ?_; rintro e w2 ⟨rfl, hb2⟩
    go_wp2_with (go_at_call 62; refine (Hq.out _).mono ?_; rintro e w' ⟨rfl, rfl⟩)
    go_ret
    exact ⟨rfl, hb2⟩

set_option maxRecDepth 100000 in
set_option maxHeartbeats 1000000 in
theorem checkCopiesWithin_any (s : Ers) (A : Option Addr) (n cap : Nat) (g : Nat → Nat → Int) (x : Int) (hn : n ≤ 1048576) (w : World) (hr : PrsIn w A n g) (hE : ErrEnv s w) :
    Calls Tryz.prog 68 #[.slice A n cap, .int .i64 x] w fun e w' => e = .returned (copE s (copC n g x)) ∧ Below w.heap.size w w' := by
  have hp := checkCopies_any s A n cap g hn w hr hE
  have HE := Lib.hid hE; clear hE hr
  have hq := fun W => isDensityC_any x W
  rcases copC_cases n g 0 with h | h | h
  · obtain ⟨h0, h1, h2, _⟩ := h
    rw [h0] at hp
    have hp' : Calls Tryz.prog 45 #[.slice A n cap] w fun e w' => e = .returned .nilIface ∧ Below w.heap.size w w' := hp
    have Hp := Lib.hid hp'; clear hp hp'
    rcases hv : inB x 0 400 with _ | _
    · rw [copC_x h1 (inB_true.2 (by omega)) hv]
      rw [hv] at hq
      have Hq := Lib.hid hq; clear hq hv h0 h1 h2
      go_enter Tryz.func68, Tryz.ntmps68
      go_wp2_with fail
      refine Hp.out.mono ?_; rintro e w2 ⟨rfl, hb2⟩
      have ce := (HE.out.below hb2 (Nat.le_refl _)).c_erange
      go_wp2_with (go_at_call 64; refine (Hq.out _).mono ?_; rintro e w' ⟨rfl, rfl⟩)
      go_ret
      exact ⟨rfl, hb2⟩
    · rw [copC_ok h1 (inB_true.2 (by omega)) hv]
      rw [hv] at hq
      have Hq := Lib.hid hq; clear hq hv h0 h1 h2
      go_enter Tryz.func68, Tryz.ntmps68
      go_wp2_with fail
      refine Hp.out.mono ?_; rintro e w2 ⟨rfl, hb2⟩
      go_wp2_with (go_at_call 64; refine (Hq.out _).mono ?_; rintro e w' ⟨rfl, rfl⟩)
      go_ret
      exact ⟨rfl, hb2⟩
  · have hx : copC n g x = 1 := by
      rcases hb : prsB g n with _ | _
      · exact copC_bad hb
      · unfold copC at h; rw [hb] at h; simp only [if_true] at h; split at h <;> (try split at h) <;> cases h
    rw [hx]
    rw [h] at hp
    have hp' : Calls Tryz.prog 45 #[.slice A n cap] w fun e w' => e = .returned (errV s.einvalid) ∧ Below w.heap.size w w' := hp
    have Hp := Lib.hid hp'; clear hp hp' hx h hq
    go_enter Tryz.func68, Tryz.ntmps68
    go_wp2_with fail
    refine Hp.out.mono ?_; rintro e w2 ⟨rfl, hb2⟩
    go_wp2_with fail
    go_ret
    exact ⟨rfl, hb2⟩
  · have hx : copC n g x = 2 := by
      rcases hb : prsB g n with _ | _
      · rw [copC_bad hb] at h; cases h
      · rcases hb1 : inB (n : Int) 1 8 with _ | _
        · exact copC_n hb hb1
        · rw [copC_ok hb hb1 (by rfl)] at h; cases h
    rw [hx]
    rw [h] at hp
    have hp' : Calls Tryz.prog 45 #[.slice A n cap] w fun e w' => e = .returned (errV s.erange) ∧ Below w.heap.size w w' := hp
    have Hp := Lib.hid hp'; clear hp hp' hx h hq
    go_enter Tryz.func68, Tryz.ntmps68
    go_wp2_with fail
    refine Hp.out.mono ?_; rintro e w2 ⟨rfl, hb2⟩
    go_wp2_with fail
    go_ret
    exact ⟨rfl, hb2⟩

/-! ### WHERE A PRINT IS DARKER -/
/-- The mask of the cells of which p holds. -/
def mkB (p : Nat → Bool) : BitVec 64 := BitVec.ofNat 64 (maskN p 64)
theorem mkB_bvI (p : Nat → Bool) : bvI (mkB p) = ((maskN p 64 : Nat) : Int) := by
  have := maskN_lt p 64 (Nat.le_refl _)
  unfold bvI mkB
  rw [BitVec.toNat_ofNat]; omega
theorem mkB_bit (p : Nat → Bool) {k : Nat} (hk : k < 64) : (mkB p).getLsbD k = p k := by
  unfold mkB
  rw [BitVec.getLsbD_ofNat, maskN_bit]
  simp [hk]
theorem mkB_ext {p : Nat → Bool} {m : BitVec 64} (h : ∀ k, k < 64 → m.getLsbD k = p k) : m = mkB p := BitVec.eq_of_getLsbD_eq fun i hi => by rw [h i hi, mkB_bit p hi]
def drkP (f g : Nat → Int) (x : Int) (k : Nat) : Bool := decide (x < f k - g k)

theorem bitOfC_any (k : Nat) (hk : k < 64) (w : World) : Calls Tryz.prog 85 #[.int .i64 (k : Int)] w fun e w' => e = .returned (.int .u64 ((2 ^ k : Nat) : Int)) ∧ w = w' := by
  go_enter Tryz.func85, Tryz.ntmps85
  go_wp2_with (refine wpList_shl1 (κ := .i64) (k := k) _ _ rfl rfl rfl rfl hk ?_)
  go_ret
  exact ⟨rfl, rfl⟩

set_option maxRecDepth 100000 in
set_option maxHeartbeats 1000000 in
theorem maskWhere_dark (p : Nat → Bool) (q1 q2 q3 : Nat) (w : World)
    (hcl : ∀ k : Nat, k < 64 → ∀ W, Below w.heap.size w W → Calls Tryz.prog 86 #[.int .i64 (k : Int), .pointer (some ⟨q1, 0, none⟩), .pointer (some ⟨q2, 0, none⟩), .pointer (some ⟨q3, 0, none⟩)] W fun e w' => e = .returned (.bool (p k)) ∧ Below W.heap.size W w') :
    Calls Tryz.prog 65 #[.func (.func 86) #[] #[.pointer (some ⟨q1, 0, none⟩), .pointer (some ⟨q2, 0, none⟩), .pointer (some ⟨q3, 0, none⟩)]] w fun e w' => e = .returned (.int .u64 ((maskN p 64 : Nat) : Int)) ∧ Below w.heap.size w w' := by
  have Hcl := Lib.hid hcl; clear hcl
  have hb := fun k (hk : k < 64) => bitOfC_any k hk
  have Hb := Lib.hid hb; clear hb
  go_enter Tryz.func65, Tryz.ntmps65
  go_wp2_with fail
  go_loopw [3, 5] (fun m i wr => ∃ k : Nat, k ≤ 64 ∧ i = .int .i64 (k : Int) ∧ m = .int .u64 ((maskN p k : Nat) : Int) ∧ Below w.heap.size w wr) (fun _ i _ => 64 - (intOf i).toNat)
  case atStart => exact ⟨0, by omega, rfl, rfl, Below.refl _ _⟩
  case round =>
    obtain ⟨k, hk, rfl, rfl, hB⟩ := hrel
    by_cases hkn : k < 64
    · have hq := Hcl.out k hkn wr hB
      have hlt := maskN_lt p k hk
      have hyes := maskN_yes (p := p) (k := k)
      have hno := maskN_no (p := p) (k := k)
      have h2 := two_pow_lt64 hkn
      have bk := fun W => Hb.out k hkn W
      rcases hv : p k with _ | _
      · rw [hv] at hq
        have HN := Lib.hid (hno hv)
        clear hno hyes hv h2
        generalize maskN p k = m at *
        have Hq := Lib.hid hq; clear hq
        have HL := Lib.hid hlt; clear hlt
        go_wp2_with fail
        refine Hq.out.mono ?_; rintro e w1 ⟨rfl, hb1⟩
        have hB1 := hB.trans (hb1.mono hB.size)
        clear hb1 hB
        go_wp2_with fail
        go_roundw
        case rel => exact ⟨k + 1, by omega, by go_num, by rw [HN.out], hB1⟩
        case measure => simp [intOf]; omega
      · rw [hv] at hq
        have HY := Lib.hid (hyes hv)
        clear hno hyes hv
        generalize maskN p k = m at *
        have Hq := Lib.hid hq; clear hq
        have HL := Lib.hid hlt; clear hlt
        have H2 := Lib.hid h2; clear h2
        have Bk := Lib.hid bk; clear bk
        go_wp2_with fail
        refine Hq.out.mono ?_; rintro e w1 ⟨rfl, hb1⟩
        have hB1 := hB.trans (hb1.mono hB.size)
        clear hb1 hB
        go_wp2_with fail
        refine (Bk.out _).mono ?_; rintro e w2 ⟨rfl, rfl⟩
        go_wp2_with (refine wpList_or _ _ rfl rfl rfl rfl HL.out H2.out ?_)
        go_roundw
        case rel => exact ⟨k + 1, by omega, by go_num, by rw [HY.out], hB1⟩
        case measure => simp [intOf]; omega
    · obtain rfl : k = 64 := by omega
      go_wp2_with fail
      go_ret
      exact ⟨rfl, hB⟩

set_option maxRecDepth 100000 in
set_option maxHeartbeats 1000000 in
theorem darkerIn_one (f g : Nat → Int) (hf : S16 f) (hg : S16 g) (x : Int) (k : Nat) (hk : k < 64) (q1 q2 q3 : Nat) (T1 T2 : TypeId) (w : World) (h1 : HasArr w q1 T1 .i16 64 f) (h2 : HasArr w q2 T2 .i16 64 g) (h3 : w.cell? ⟨q3, 0, none⟩ = some (.int .i64 x)) :
    Calls Tryz.prog 86 #[.int .i64 (k : Int), .pointer (some ⟨q1, 0, none⟩), .pointer (some ⟨q2, 0, none⟩), .pointer (some ⟨q3, 0, none⟩)] w fun e w' => e = .returned (.bool (drkP f g x k)) ∧ Below w.heap.size w w' := by
  have c1 := h1.cell hk
  have c2 := h2.cell hk
  have b1 := hf k hk
  have b2 := hg k hk
  have hk' : (k : Int) < 64 := by omega
  unfold drkP
  generalize f k = F at *
  generalize g k = G at *
  clear h1 h2 hf hg
  have e1 : IntKind.i64.wrap (F - G) = F - G := IntWalk.i64_in _ (by omega)
  go_enter Tryz.func86, Tryz.ntmps86
  go_wp2_with fail
  go_quiet (fail)
  go_wp2
  go_ret
  exact ⟨rfl, below_drewA (Below.refl _ _) nq⟩

set_option maxRecDepth 100000 in
set_option maxHeartbeats 1000000 in
theorem darkerIn_any (f g : Nat → Int) (hf : S16 f) (hg : S16 g) (x : Int) (w : World) :
    Calls Tryz.prog 69 #[.agg (arrV .i16 64 f), .agg (arrV .i16 64 g), .int .i64 x] w fun e w' => e = .returned (.int .u64 (bvI (mkB (drkP f g x)))) ∧ Below w.heap.size w w' := by
  have a1 := ((HasArr.new w 29 .i16 64 f).alloc (.cells (arrV .i16 64 g) 29)).alloc (.cells #[.int .i64 x] 2)
  have a2 : HasArr (((w.alloc (.cells (arrV .i16 64 f) 29)).alloc (.cells (arrV .i16 64 g) 29)).alloc (.cells #[.int .i64 x] 2)) (w.heap.size + 1) 29 .i16 64 g := by
    have h := (HasArr.new (w.alloc (.cells (arrV .i16 64 f) 29)) 29 .i16 64 g).alloc (.cells #[.int .i64 x] 2)
    simpa using h
  have c3 : (((w.alloc (.cells (arrV .i16 64 f) 29)).alloc (.cells (arrV .i16 64 g) 29)).alloc (.cells #[.int .i64 x] 2)).cell? ⟨w.heap.size + 1 + 1, 0, none⟩ = some (.int .i64 x) := by
    have hs : ((w.alloc (.cells (arrV .i16 64 f) 29)).alloc (.cells (arrV .i16 64 g) 29)).heap.size = w.heap.size + 1 + 1 := by rw [World.size_alloc, World.size_alloc]
    rw [← hs, cell_of_row _ _ 0 _ _ _ (heap_alloc_new _ _)]; rfl
  have k0 : Below w.heap.size w (((w.alloc (.cells (arrV .i16 64 f) 29)).alloc (.cells (arrV .i16 64 g) 29)).alloc (.cells #[.int .i64 x] 2)) :=
    (((Below.refl w.heap.size w).alloc (Nat.le_refl _) (.cells (arrV .i16 64 f) 29)).alloc (by rw [World.size_alloc]; omega) (.cells (arrV .i16 64 g) 29)).alloc (by rw [World.size_alloc, World.size_alloc]; omega) (.cells #[.int .i64 x] 2)
  have hm := maskWhere_dark (drkP f g x) w.heap.size (w.heap.size + 1) (w.heap.size + 1 + 1) (((w.alloc (.cells (arrV .i16 64 f) 29)).alloc (.cells (arrV .i16 64 g) 29)).alloc (.cells #[.int .i64 x] 2))
    (fun k hk W hW => darkerIn_one f g hf hg x k hk _ _ _ _ _ W (a1.below hW a1.lt) (a2.below hW a2.lt) (below_cellOf hW c3 (Nat.le_refl _)))
  rw [← mkB_bvI] at hm
  have Hm := Lib.hid hm
  clear hm a1 a2 c3 hf hg
  go_enter Tryz.func69, Tryz.ntmps69
  go_wp2_with fail
  refine Hm.out.mono ?_; rintro e w2 ⟨rfl, hb2⟩
  go_wp2_with fail
  go_ret
  exact ⟨rfl, k0.trans (hb2.mono k0.size)⟩
end Go.Proofs.YtmibinfaafhgdaaGreatDoor

namespace Go.Proofs.YtmibinfaafhgdaaGreatDoor
open Go.RowKit

/-- The cells that are handed back. -/
def mdF (g : Nat → Nat → Int) (n : Nat) (k : Nat) : Int := if copC n g 0 = 0 then medF g n k else 0
theorem mdF_ok {g : Nat → Nat → Int} {n : Nat} (h : copC n g 0 = 0) : mdF g n = medF g n := by funext k; simp [mdF, h]
theorem mdF_no {g : Nat → Nat → Int} {n : Nat} (h : copC n g 0 ≠ 0) : mdF g n = fun _ => 0 := by funext k; simp [mdF, h]
theorem resultsRowTmp1 {P : Program} {fn : Func} {p q : Tmp} {ty : TypeId} (h : fn.results = #[.cell p ty, .tmp q]) (tmps : Array Value) (w : World) (g : Nat) (t : TypeId) (cs : Array Value) (fr : Nat × Nat) (d : TypeDesc)
    (hp : tmps.getD p undef = .pointer (some ⟨g, 0, none⟩)) (hg : w.heap[g]? = some (.cells cs t fr))
    (hu : P.underlying ty = some d) (hd : (match d with | .struct _ | .array _ _ => true | _ => false) = true) (hi : (P.info? ty).map (·.size) = some cs.size) (v : Value) (hq : tmps.getD q undef = v) :
    (results fn tmps).run P w = .ok (.tuple #[.agg cs, v]) w := by
  have hp' : tmps[p]?.getD undef = .pointer (some ⟨g, 0, none⟩) := by simpa using hp
  have hq' : tmps[q]?.getD undef = v := by simpa using hq
  simp [results, h, hp', hq', asAddr, run_loadVar_row w g t ty cs fr d hg hu hd hi]
theorem copC_pos {n : Nat} {g : Nat → Nat → Int} {x : Int} (h : copC n g x = 0) : 1 ≤ n ∧ n ≤ 8 := by
  rcases copC_cases n g x with h1 | h1 | h1
  · exact h1.2.2.1
  · rw [h1] at h; cases h
  · rw [h1] at h; cases h
theorem copE_ne (s : Ers) {n : Nat} {g : Nat → Nat → Int} {x : Int} (hc : copC n g x ≠ 0) : ∃ a, copE s (copC n g x) = errV a := by
  rcases copC_cases n g x with h | h | h
  · exact absurd h.1 hc
  · exact ⟨s.einvalid, by rw [h]; rfl⟩
  · exact ⟨s.erange, by rw [h]; rfl⟩

set_option maxRecDepth 100000 in
set_option maxHeartbeats 2000000 in
theorem specMedianPrint_any (A : Option Addr) (n cap : Nat) (g : Nat → Nat → Int) (hn : n ≤ 1048576) (hs : ∀ i, i < n → S16 (g i)) (w : World) (hr : PrsIn w A n g) :
    Calls Tryz.prog 8 #[.slice A n cap] w fun e w' => e = .returned (.tuple #[.agg (arrV .i16 64 (mdF g n)), .int .i64 (copC n g 0)]) ∧ Below w.heap.size w w' := by
  have a1 := HasArr.zero w 29 (b := w.heap.size) rfl
  have k0 := (Below.refl w.heap.size w).alloc (Nat.le_refl _) (.cells #[.int .i16 0, .int .i16 0, .int .i16 0, .int .i16 0, .int .i16 0, .int .i16 0, .int .i16 0, .int .i16 0, .int .i16 0, .int .i16 0, .int .i16 0, .int .i16 0, .int .i16 0, .int .i16 0, .int .i16 0, .int .i16 0, .int .i16 0, .int .i16 0, .int .i16 0, .int .i16 0, .int .i16 0, .int .i16 0, .int .i16 0, .int .i16 0, .int .i16 0, .int .i16 0, .int .i16 0, .int .i16 0, .int .i16 0, .int .i16 0, .int .i16 0, .int .i16 0, .int .i16 0, .int .i16 0, .int .i16 0, .int .i16 0, .int .i16 0, .int .i16 0, .int .i16 0, .int .i16 0, .int .i16 0, .int .i16 0, .int .i16 0, .int .i16 0, .int .i16 0, .int .i16 0, .int .i16 0, .int .i16 0, .int .i16 0, .int .i16 0, .int .i16 0, .int .i16 0, .int .i16 0, .int .i16 0, .int .i16 0, .int .i16 0, .int .i16 0, .int .i16 0, .int .i16 0, .int .i16 0, .int .i16 0, .int .i16 0, .int .i16 0, .int .i16 0] 29)
  have hq := l07Copies_any A n cap g 0 hn hs _ (hr.below k0 (Nat.le_refl _))
  have HR := Lib.hid (hr.below k0 (Nat.le_refl _)); clear hr
  by_cases hc : copC n g 0 = 0
  · rw [mdF_ok hc]
    have h8 := copC_pos hc
    have Hm := Lib.hid (fun W h => l07Median_any A n cap g h8.1 h8.2 hs W h)
    rw [hc] at hq ⊢
    have Hq := Lib.hid hq; clear hq hs hc h8
    go_enter Tryz.func8, Tryz.ntmps8
    go_wp2_with fail
    refine Hq.out.mono ?_; rintro e w2 ⟨rfl, hb2⟩
    have a2 := a1.below hb2 a1.lt
    have k2 := k0.trans (hb2.mono k0.size)
    have HR2 := Lib.hid (HR.out.below hb2 (Nat.le_refl _))
    clear hb2 a1 k0 HR Hq
    go_wp2_with fail
    refine (Hm.out _ HR2.out).mono ?_; rintro e w3 ⟨rfl, hb3⟩
    have a3 := a2.below hb3 a2.lt
    have k3 := k2.trans (hb3.mono k2.size)
    clear hb3 a2 k2
    go_wp2_with (refine wpList_store_arr a3 29 (.tmp 2) (.tmp 12) rfl rfl rfl rfl sizePrint ?_)
    refine bodyPost_ret (v := .tuple #[.agg (arrV .i16 64 (medF g n)), .int .i64 0]) ?_ rfl ⟨rfl, below_setRow k3 (b := w.heap.size) (by omega) _⟩
    exact resultsRowTmp1 rfl _ _ _ _ _ _ _ rfl (a3.setRow .i16 (medF g n)) Tryz.underlying29 rfl (by rw [arrV_size]; exact sizePrint) _ rfl
  · rw [mdF_no hc]
    have Hq := Lib.hid hq; clear hq hs
    generalize copC n g 0 = C at *
    go_enter Tryz.func8, Tryz.ntmps8
    go_wp2_with fail
    refine Hq.out.mono ?_; rintro e w2 ⟨rfl, hb2⟩
    have a2 := a1.below hb2 a1.lt
    have k2 := k0.trans (hb2.mono k0.size)
    clear hb2 a1 k0 HR Hq
    go_wp2_with (refine wpList_store_arr (g := fun _ => 0) a2 29 (.tmp 2) (.tmp 9) rfl rfl rfl (by rw [zeroArr16]; rfl) sizePrint ?_)
    refine bodyPost_ret (v := .tuple #[.agg (arrV .i16 64 fun _ => 0), .int .i64 C]) ?_ rfl ⟨rfl, below_setRow k2 (b := w.heap.size) (by omega) _⟩
    exact resultsRowTmp1 rfl _ _ _ _ _ _ _ rfl (a2.setRow .i16 fun _ => 0) Tryz.underlying29 rfl (by rw [arrV_size]; exact sizePrint) _ rfl

set_option maxRecDepth 100000 in
set_option maxHeartbeats 2000000 in
theorem medianPrint_any (s : Ers) (A : Option Addr) (n cap : Nat) (g : Nat → Nat → Int) (hn : n ≤ 1048576) (hs : ∀ i, i < n → S16 (g i)) (w : World) (hr : PrsIn w A n g) (hE : ErrEnv s w) :
    Calls Tryz.prog 26 #[.slice A n cap] w fun e w' => e = .returned (.tuple #[.agg (arrV .i16 64 (mdF g n)), copE s (copC n g 0)]) ∧ Below w.heap.size w w' := by
  have a1 := HasArr.zero w 29 (b := w.heap.size) rfl
  have k0 := (Below.refl w.heap.size w).alloc (Nat.le_refl _) (.cells #[.int .i16 0, .int .i16 0, .int .i16 0, .int .i16 0, .int .i16 0, .int .i16 0, .int .i16 0, .int .i16 0, .int .i16 0, .int .i16 0, .int .i16 0, .int .i16 0, .int .i16 0, .int .i16 0, .int .i16 0, .int .i16 0, .int .i16 0, .int .i16 0, .int .i16 0, .int .i16 0, .int .i16 0, .int .i16 0, .int .i16 0, .int .i16 0, .int .i16 0, .int .i16 0, .int .i16 0, .int .i16 0, .int .i16 0, .int .i16 0, .int .i16 0, .int .i16 0, .int .i16 0, .int .i16 0, .int .i16 0, .int .i16 0, .int .i16 0, .int .i16 0, .int .i16 0, .int .i16 0, .int .i16 0, .int .i16 0, .int .i16 0, .int .i16 0, .int .i16 0, .int .i16 0, .int .i16 0, .int .i16 0, .int .i16 0, .int .i16 0, .int .i16 0, .int .i16 0, .int .i16 0, .int .i16 0, .int .i16 0, .int .i16 0, .int .i16 0, .int .i16 0, .int .i16 0, .int .i16 0, .int .i16 0, .int .i16 0, .int .i16 0, .int .i16 0] 29)
  have hq := checkCopies_any s A n cap g hn _ (hr.below k0 (Nat.le_refl _)) (hE.below k0 (Nat.le_refl _))
  have HR := Lib.hid (hr.below k0 (Nat.le_refl _)); clear hr hE
  by_cases hc : copC n g 0 = 0
  · rw [mdF_ok hc]
    have h8 := copC_pos hc
    have Hm := Lib.hid (fun W h => medianOf_any A n cap g h8.1 h8.2 hs W h)
    rw [hc] at hq ⊢
    have hq' : Calls Tryz.prog 45 #[.slice A n cap] (w.alloc (.cells #[.int .i16 0, .int .i16 0, .int .i16 0, .int .i16 0, .int .i16 0, .int .i16 0, .int .i16 0, .int .i16 0, .int .i16 0, .int .i16 0, .int .i16 0, .int .i16 0, .int .i16 0, .int .i16 0, .int .i16 0, .int .i16 0, .int .i16 0, .int .i16 0, .int .i16 0, .int .i16 0, .int .i16 0, .int .i16 0, .int .i16 0, .int .i16 0, .int .i16 0, .int .i16 0, .int .i16 0, .int .i16 0, .int .i16 0, .int .i16 0, .int .i16 0, .int .i16 0, .int .i16 0, .int .i16 0, .int .i16 0, .int .i16 0, .int .i16 0, .int .i16 0, .int .i16 0, .int .i16 0, .int .i16 0, .int .i16 0, .int .i16 0, .int .i16 0, .int .i16 0, .int .i16 0, .int .i16 0, .int .i16 0, .int .i16 0, .int .i16 0, .int .i16 0, .int .i16 0, .int .i16 0, .int .i16 0, .int .i16 0, .int .i16 0, .int .i16 0, .int .i16 0, .int .i16 0, .int .i16 0, .int .i16 0, .int .i16 0, .int .i16 0, .int .i16 0] 29)) fun e w' => e = .returned .nilIface ∧ Below (w.alloc (.cells #[.int .i16 0, .int .i16 0, .int .i16 0, .int .i16 0, .int .i16 0, .int .i16 0, .int .i16 0, .int .i16 0, .int .i16 0, .int .i16 0, .int .i16 0, .int .i16 0, .int .i16 0, .int .i16 0, .int .i16 0, .int .i16 0, .int .i16 0, .int .i16 0, .int .i16 0, .int .i16 0, .int .i16 0, .int .i16 0, .int .i16 0, .int .i16 0, .int .i16 0, .int .i16 0, .int .i16 0, .int .i16 0, .int .i16 0, .int .i16 0, .int .i16 0, .int .i16 0, .int .i16 0, .int .i16 0, .int .i16 0, .int .i16 0, .int .i16 0, .int .i16 0, .int .i16 0, .int .i16 0, .int .i16 0, .int .i16 0, .int .i16 0, .int .i16 0, .int .i16 0, .int .i16 0, .int .i16 0, .int .i16 0, .int .i16 0, .int .i16 0, .int .i16 0, .int .i16 0, .int .i16 0, .int .i16 0, .int .i16 0, .int .i16 0, .int .i16 0, .int .i16 0, .int .i16 0, .int .i16 0, .int .i16 0, .int .i16 0, .int .i16 0, .int .i16 0] 29)).heap.size (w.alloc (.cells #[.int .i16 0, .int .i16 0, .int .i16 0, .int .i16 0, .int .i16 0, .int .i16 0, .int .i16 0, .int .i16 0, .int .i16 0, .int .i16 0, .int .i16 0, .int .i16 0, .int .i16 0, .int .i16 0, .int .i16 0, .int .i16 0, .int .i16 0, .int .i16 0, .int .i16 0, .int .i16 0, .int .i16 0, .int .i16 0, .int .i16 0, .int .i16 0, .int .i16 0, .int .i16 0, .int .i16 0, .int .i16 0, .int .i16 0, .int .i16 0, .int .i16 0, .int .i16 0, .int .i16 0, .int .i16 0, .int .i16 0, .int .i16 0, .int .i16 0, .int .i16 0, .int .i16 0, .int .i16 0, .int .i16 0, .int .i16 0, .int .i16 0, .int .i16 0, .int .i16 0, .int .i16 0, .int .i16 0, .int .i16 0, .int .i16 0, .int .i16 0, .int .i16 0, .int .i16 0, .int .i16 0, .int .i16 0, .int .i16 0, .int .i16 0, .int .i16 0, .int .i16 0, .int .i16 0, .int .i16 0, .int .i16 0, .int .i16 0, .int .i16 0, .int .i16 0] 29)) w' := hq
    show Calls _ _ _ _ fun e w' => e = .returned (.tuple #[.agg (arrV .i16 64 (medF g n)), .nilIface]) ∧ _
    have Hq := Lib.hid hq'; clear hq hq' hs hc h8
    go_enter Tryz.func26, Tryz.ntmps26
    go_wp2_with fail
    refine Hq.out.mono ?_; rintro e w2 ⟨rfl, hb2⟩
    have a2 := a1.below hb2 a1.lt
    have k2 := k0.trans (hb2.mono k0.size)
    have HR2 := Lib.hid (HR.out.below hb2 (Nat.le_refl _))
    clear hb2 a1 k0 HR Hq
    go_wp2_with fail
    refine (Hm.out _ HR2.out).mono ?_; rintro e w3 ⟨rfl, hb3⟩
    have a3 := a2.below hb3 a2.lt
    have k3 := k2.trans (hb3.mono k2.size)
    clear hb3 a2 k2
    go_wp2_with (refine wpList_store_arr a3 29 (.tmp 2) (.tmp 12) rfl rfl rfl rfl sizePrint ?_)
    refine bodyPost_ret (v := .tuple #[.agg (arrV .i16 64 (medF g n)), .nilIface]) ?_ rfl ⟨rfl, below_setRow k3 (b := w.heap.size) (by omega) _⟩
    exact resultsRowTmp1 rfl _ _ _ _ _ _ _ rfl (a3.setRow .i16 (medF g n)) Tryz.underlying29 rfl (by rw [arrV_size]; exact sizePrint) _ rfl
  · rw [mdF_no hc]
    obtain ⟨a, ha⟩ := copE_ne s hc
    rw [ha] at hq ⊢
    have Hq := Lib.hid hq; clear hq hs ha hc
    go_enter Tryz.func26, Tryz.ntmps26
    go_wp2_with fail
    refine Hq.out.mono ?_; rintro e w2 ⟨rfl, hb2⟩
    have a2 := a1.below hb2 a1.lt
    have k2 := k0.trans (hb2.mono k0.size)
    clear hb2 a1 k0 HR Hq
    go_wp2_with (refine wpList_store_arr (g := fun _ => 0) a2 29 (.tmp 2) (.tmp 9) rfl rfl rfl (by rw [zeroArr16]; rfl) sizePrint ?_)
    refine bodyPost_ret (v := .tuple #[.agg (arrV .i16 64 fun _ => 0), errV a]) ?_ rfl ⟨rfl, below_setRow k2 (b := w.heap.size) (by omega) _⟩
    exact resultsRowTmp1 rfl _ _ _ _ _ _ _ rfl (a2.setRow .i16 fun _ => 0) Tryz.underlying29 rfl (by rw [arrV_size]; exact sizePrint) _ rfl

set_option maxRecDepth 100000 in
set_option maxHeartbeats 1000000 in
theorem codedPrint_any {s : Ers} {v : Value} {c : Int} (h : IsCode s v c) (f : Nat → Int) (w : World) (hE : ErrEnv s w) :
    Calls Tryz.prog 25 #[.agg (arrV .i16 64 f), v] w fun e w' => e = .returned (.tuple #[.agg (arrV .i16 64 f), .int .i64 c]) ∧ Below w.heap.size w w' := by
  have a1 := (HasArr.new w 29 .i16 64 f).alloc (.cells #[.int .i16 0, .int .i16 0, .int .i16 0, .int .i16 0, .int .i16 0, .int .i16 0, .int .i16 0, .int .i16 0, .int .i16 0, .int .i16 0, .int .i16 0, .int .i16 0, .int .i16 0, .int .i16 0, .int .i16 0, .int .i16 0, .int .i16 0, .int .i16 0, .int .i16 0, .int .i16 0, .int .i16 0, .int .i16 0, .int .i16 0, .int .i16 0, .int .i16 0, .int .i16 0, .int .i16 0, .int .i16 0, .int .i16 0, .int .i16 0, .int .i16 0, .int .i16 0, .int .i16 0, .int .i16 0, .int .i16 0, .int .i16 0, .int .i16 0, .int .i16 0, .int .i16 0, .int .i16 0, .int .i16 0, .int .i16 0, .int .i16 0, .int .i16 0, .int .i16 0, .int .i16 0, .int .i16 0, .int .i16 0, .int .i16 0, .int .i16 0, .int .i16 0, .int .i16 0, .int .i16 0, .int .i16 0, .int .i16 0, .int .i16 0, .int .i16 0, .int .i16 0, .int .i16 0, .int .i16 0, .int .i16 0, .int .i16 0, .int .i16 0, .int .i16 0] 29)
  have a2 := HasArr.zero (w.alloc (.cells (arrV .i16 64 f) 29)) 29 (b := w.heap.size + 1) (by simp)
  have k0 := ((Below.refl w.heap.size w).alloc (Nat.le_refl _) (.cells (arrV .i16 64 f) 29)).alloc (by simp) (.cells #[.int .i16 0, .int .i16 0, .int .i16 0, .int .i16 0, .int .i16 0, .int .i16 0, .int .i16 0, .int .i16 0, .int .i16 0, .int .i16 0, .int .i16 0, .int .i16 0, .int .i16 0, .int .i16 0, .int .i16 0, .int .i16 0, .int .i16 0, .int .i16 0, .int .i16 0, .int .i16 0, .int .i16 0, .int .i16 0, .int .i16 0, .int .i16 0, .int .i16 0, .int .i16 0, .int .i16 0, .int .i16 0, .int .i16 0, .int .i16 0, .int .i16 0, .int .i16 0, .int .i16 0, .int .i16 0, .int .i16 0, .int .i16 0, .int .i16 0, .int .i16 0, .int .i16 0, .int .i16 0, .int .i16 0, .int .i16 0, .int .i16 0, .int .i16 0, .int .i16 0, .int .i16 0, .int .i16 0, .int .i16 0, .int .i16 0, .int .i16 0, .int .i16 0, .int .i16 0, .int .i16 0, .int .i16 0, .int .i16 0, .int .i16 0, .int .i16 0, .int .i16 0, .int .i16 0, .int .i16 0, .int .i16 0, .int .i16 0, .int .i16 0, .int .i16 0] 29)
  go_enter Tryz.func25, Tryz.ntmps25
  go_wp2_with fail
  refine wp_region_quiet_tail 3 (fun w' => ∃ q, w' = ((w.alloc (.cells (arrV .i16 64 f) 29)).alloc (.cells #[.int .i16 0, .int .i16 0, .int .i16 0, .int .i16 0, .int .i16 0, .int .i16 0, .int .i16 0, .int .i16 0, .int .i16 0, .int .i16 0, .int .i16 0, .int .i16 0, .int .i16 0, .int .i16 0, .int .i16 0, .int .i16 0, .int .i16 0, .int .i16 0, .int .i16 0, .int .i16 0, .int .i16 0, .int .i16 0, .int .i16 0, .int .i16 0, .int .i16 0, .int .i16 0, .int .i16 0, .int .i16 0, .int .i16 0, .int .i16 0, .int .i16 0, .int .i16 0, .int .i16 0, .int .i16 0, .int .i16 0, .int .i16 0, .int .i16 0, .int .i16 0, .int .i16 0, .int .i16 0, .int .i16 0, .int .i16 0, .int .i16 0, .int .i16 0, .int .i16 0, .int .i16 0, .int .i16 0, .int .i16 0, .int .i16 0, .int .i16 0, .int .i16 0, .int .i16 0, .int .i16 0, .int .i16 0, .int .i16 0, .int .i16 0, .int .i16 0, .int .i16 0, .int .i16 0, .int .i16 0, .int .i16 0, .int .i16 0, .int .i16 0, .int .i16 0] 29)).drewN q) (by kernel_rfl) (by kernel_rfl) ⟨1, rfl⟩ ?_
  simp only [List.take_succ_cons, List.take_zero, List.drop_succ_cons, List.drop_zero]
  refine wpQuiet_load_arr (fun W hW => by obtain ⟨q, rfl⟩ := hW; exact a1.drewN q) 29 (.tmp 2) rfl rfl rfl Tryz.underlying29 sizePrint ?_
  quiet_step (fail)
  refine BigFrame.wpQuiet_want (by rfl) fun K hK => ⟨.int .i64 c, fun W hW => ?_, hK _ ?_⟩
  · obtain ⟨q, rfl⟩ := hW
    go_simp
    exact (codeOf_any h _ (((hE.alloc _).alloc _).drewN q)).mono fun e w' ⟨he, hw⟩ => ⟨he, q, hw.symm⟩
  refine wpQuiet_nil ?_
  rintro _ ⟨q, rfl⟩
  go_wp2_with (refine wpList_store_arr (a2.drewN q) _ _ _ rfl rfl rfl rfl sizePrint ?_)
  refine bodyPost_ret (v := .tuple #[.agg (arrV .i16 64 f), .int .i64 c]) ?_ rfl ⟨rfl, below_setRow (below_drewA k0 q) (by omega) _⟩
  exact resultsRowTmp1 rfl _ _ _ _ _ _ _ rfl ((a2.drewN q).setRow .i16 f) Tryz.underlying29 rfl (by rw [arrV_size]; exact sizePrint) _ rfl

set_option maxRecDepth 100000 in
set_option maxHeartbeats 2000000 in
theorem MedianPrint_any (s : Ers) (A : Option Addr) (n cap : Nat) (g : Nat → Nat → Int) (hn : n ≤ 1048576) (hs : ∀ i, i < n → S16 (g i)) (w : World) (hr : PrsIn w A n g) (hE : ErrEnv s w) :
    Calls Tryz.prog 7 #[.slice A n cap] w fun e w' => e = .returned (.tuple #[.agg (arrV .i16 64 (mdF g n)), .int .i64 (copC n g 0)]) ∧ Below w.heap.size w w' := by
  have a1 := HasArr.zero w 29 (b := w.heap.size) rfl
  have k0 := (Below.refl w.heap.size w).alloc (Nat.le_refl _) (.cells #[.int .i16 0, .int .i16 0, .int .i16 0, .int .i16 0, .int .i16 0, .int .i16 0, .int .i16 0, .int .i16 0, .int .i16 0, .int .i16 0, .int .i16 0, .int .i16 0, .int .i16 0, .int .i16 0, .int .i16 0, .int .i16 0, .int .i16 0, .int .i16 0, .int .i16 0, .int .i16 0, .int .i16 0, .int .i16 0, .int .i16 0, .int .i16 0, .int .i16 0, .int .i16 0, .int .i16 0, .int .i16 0, .int .i16 0, .int .i16 0, .int .i16 0, .int .i16 0, .int .i16 0, .int .i16 0, .int .i16 0, .int .i16 0, .int .i16 0, .int .i16 0, .int .i16 0, .int .i16 0, .int .i16 0, .int .i16 0, .int .i16 0, .int .i16 0, .int .i16 0, .int .i16 0, .int .i16 0, .int .i16 0, .int .i16 0, .int .i16 0, .int .i16 0, .int .i16 0, .int .i16 0, .int .i16 0, .int .i16 0, .int .i16 0, .int .i16 0, .int .i16 0, .int .i16 0, .int .i16 0, .int .i16 0, .int .i16 0, .int .i16 0, .int .i16 0] 29)
  have Hq := Lib.hid (medianPrint_any s A n cap g hn hs _ (hr.below k0 (Nat.le_refl _)) (hE.below k0 (Nat.le_refl _)))
  have hcode := copE_code s n g 0
  have HE := Lib.hid hE; clear hE hr hs
  generalize copE s (copC n g 0) = V at *
  generalize copC n g 0 = C at *
  generalize mdF g n = G at *
  go_enter Tryz.func7, Tryz.ntmps7
  go_wp2_with fail
  refine Hq.out.mono ?_; rintro e w2 ⟨rfl, hb2⟩
  have a2 := a1.below hb2 a1.lt
  have k2 := k0.trans (hb2.mono k0.size)
  have Hcd := Lib.hid (codedPrint_any hcode G _ (HE.out.below k2 (Nat.le_refl _)))
  clear hb2 a1 k0 Hq
  go_wp2_with fail
  refine Hcd.out.mono ?_; rintro e w3 ⟨rfl, hb3⟩
  have a3 := a2.below hb3 a2.lt
  have k3 := k2.trans (hb3.mono k2.size)
  clear hb3 a2 k2
  go_wp2_with (refine wpList_store_arr a3 29 (.tmp 2) (.tmp 9) rfl rfl rfl rfl sizePrint ?_)
  refine bodyPost_ret (v := .tuple #[.agg (arrV .i16 64 G), .int .i64 C]) ?_ rfl ⟨rfl, below_setRow k3 (b := w.heap.size) (by omega) _⟩
  exact resultsRowTmp1 rfl _ _ _ _ _ _ _ rfl (a3.setRow .i16 G) Tryz.underlying29 rfl (by rw [arrV_size]; exact sizePrint) _ rfl
end Go.Proofs.YtmibinfaafhgdaaGreatDoor

/-
  The median of copies: what both sides' functions make of 1 to 8 copies. Condition: numbers of 16 bits.
-/
import Derived.Test.YtmibinfaafhgdaaDoorSrt
import Derived.Test.YtmibinfaafhgdaaDoorPrs
import Derived.Test.YtmibinfaafhgdaaDoorSht
namespace Go.Proofs.YtmibinfaafhgdaaDoor
open Go.RowKit

/-! ### PLAIN -/
/-- The median of the copies in a cell. -/
def medF (g : Nat → Nat → Int) (n k : Nat) : Int := isF (fun i => g i k) n ((n - 1) / 2)
theorem medF_s {g : Nat → Nat → Int} {n : Nat} (h1 : 1 ≤ n) (hs : ∀ i, i < n → S16 (g i)) : S16 (medF g n) := fun k hk => by
  have := isF_bd (x := fun i => g i k) (n := n) (fun j hj => hs j hj k hk) n (Nat.le_refl _) ((n - 1) / 2) (by omega)
  exact this
/-- A list with a number that is still moved to the front. -/
def stF (f : Nat → Int) (v : Int) (i a j : Nat) : Int := if j < a then f j else if j = a then (if a = i then v else f a) else f (j - 1)
theorem stF_start (f : Nat → Int) (v : Int) (i j : Nat) (h : j < i + 1) : (if j = i then v else f j) = stF f v i i j := by
  unfold stF
  by_cases e : j = i
  · subst e; simp
  · have : j < i := by omega
    simp [e, this]
theorem stF_before (f : Nat → Int) (v : Int) (i a : Nat) : stF f v i (a + 1) a = f a := by simp [stF]
theorem stF_step (f : Nat → Int) (v : Int) (i a j : Nat) (h : a + 1 ≤ i) : upd (stF f v i (a + 1)) (a + 1) (f a) j = stF f v i a j := by
  unfold upd stF
  by_cases h1 : j = a + 1
  · subst h1
    have : ¬ a + 1 < a := by omega
    simp [this]
  · by_cases h2 : j = a
    · subst h2
      have : ¬ j = i := by omega
      simp [this]
    · by_cases h3 : j < a
      · have : j < a + 1 := by omega
        simp [h1, h3, this]
      · have : ¬ j < a + 1 := by omega
        simp [h1, h2, h3, this]
theorem stF_end (f : Nat → Int) (v : Int) (i a j : Nat) : upd (stF f v i a) a v j = shF f v a j := by
  unfold upd stF shF
  by_cases h1 : j = a
  · subst h1; simp
  · by_cases h2 : j < a <;> simp [h1, h2]
theorem half_cast (n : Nat) (h : 1 ≤ n) : ((n : Int) - 1).tdiv 2 = (((n - 1) / 2 : Nat) : Int) := by
  rw [Int.tdiv_eq_ediv_of_nonneg (by omega)]; omega
theorem own_belowS {w w' : World} {base size n : Nat} {e : TypeId} {v : Value} {l : List Value} (h : w.ownsRow base e size v n l) (hb : Below w.heap.size w w') : w'.ownsRow base e size v n l :=
  h.kept (row := none) ⟨hb.os, hb.tape, hb.output, hb.size, fun i hi _ => hb.block i hi⟩ (by cases v.ownBlock <;> simp)
theorem own_isSliceS {w : World} {base size n : Nat} {e : TypeId} {v : Value} {l : List Value} (h : w.ownsRow base e size v n l) : ∃ A cap, v = .slice A n cap := by
  rcases h.2 with ⟨h1, h2⟩ | ⟨g, cap, cur, h1, _⟩
  · subst h2; exact ⟨_, _, h1⟩
  · exact ⟨_, _, h1⟩
theorem own16_rowS {w : World} {L n q cap : Nat} {F : Nat → Int} (h : w.ownsRow L 35 1 (.slice (some ⟨q, 0, none⟩) n cap) n (l16 F n)) : L ≤ q ∧ Row16 w q n F := by
  rcases own16_row h with ⟨e, _⟩ | ⟨q', cap', e, h1, h2⟩
  · cases e
  · injection e with e1 e2 e3
    injection e1 with e1
    injection e1 with e1
    subst e1
    exact ⟨h1, h2⟩

/-! ### THE PROGRAM -/
set_option maxRecDepth 100000 in
set_option maxHeartbeats 4000000 in
theorem middle_any (A : Option Addr) (n cap : Nat) (g : Nat → Nat → Int) (k : Nat) (hk : k < 64) (h1 : 1 ≤ n) (hn : n ≤ 8) (hs : ∀ i, i < n → S16 (g i)) (w : World) (hr : PrsIn w A n g) :
    Calls Tryd.prog 49 #[.slice A n cap, .int .i64 (k : Int)] w fun e w' => e = .returned (.int .i16 (medF g n k)) ∧ Below w.heap.size w w' := by
  obtain ⟨i0, hi, hz0, hz1, hz2⟩ := info_parts i16Info
  have hX : ∀ j, j < n → -32768 ≤ (fun i => g i k) j ∧ (fun i => g i k) j ≤ 32767 := fun j hj => hs j hj k hk
  have HX := Lib.hid hX; clear hX hs
  have HR := Lib.hid hr; clear hr
  have hk' : (k : Int) < 64 := by omega
  have hmed : Hid (medF g n k = isF (fun i => g i k) n ((n - 1) / 2)) := Lib.hid rfl
  go_enter Tryd.func49, Tryd.ntmps49
  go_wp2_with (refine wpList_make_own w rfl (.const (.int .i64 0)) (.tmp 9) 54 rfl w.heap.size 35 i0 (.int .i16 0) 1 Tryd.underlying54 hi hz0 hz1 .i64 .i64 (n : Int) n rfl rfl rfl (by rw [hz2]; omega) (by unfold maxLen; omega) (Nat.le_refl _) ?_)
  intro w1 o1 hg1
  have k1 : Below w.heap.size w w1 := Below.grown (Below.refl _ _) hg1 (Nat.le_refl _) (fun _ e => by cases e)
  clear hg1
  have O1 := Lib.hid o1; clear o1
  go_wp2_with fail
  go_loopw [5, 13] (fun sv iv wr => ∃ i : Nat, i ≤ n ∧ iv = .int .i64 (i : Int) ∧ wr.ownsRow w.heap.size 35 1 sv i (l16 (fun j => g j k) i) ∧ Below w.heap.size w wr) (fun _ iv _ => n - (intOf iv).toNat)
  case atStart => exact ⟨0, by omega, rfl, O1.out, k1⟩
  case round =>
    clear O1 k1
    obtain ⟨i, hin, rfl, ho, hB⟩ := hrel
    by_cases hlt : i < n
    · obtain ⟨A2, cap2, rfl⟩ := own_isSliceS ho
      rcases HR.out.below hB (Nat.le_refl _) with h0 | ⟨b, o, rfl, hlb, hc⟩
      · exfalso; omega
      have p0 := hc i hlt
      clear hc
      have hsz := hB.size
      have hlt' : (i : Int) < n := by omega
      have z0 := HasArr.zero wr 37 (b := wr.heap.size) rfl
      have z1 := z0.setRow .i16 (g i)
      have kB := below_setRow ((Below.refl wr.heap.size wr).alloc (Nat.le_refl _) (.cells #[.int .i16 0, .int .i16 0, .int .i16 0, .int .i16 0, .int .i16 0, .int .i16 0, .int .i16 0, .int .i16 0, .int .i16 0, .int .i16 0, .int .i16 0, .int .i16 0, .int .i16 0, .int .i16 0, .int .i16 0, .int .i16 0, .int .i16 0, .int .i16 0, .int .i16 0, .int .i16 0, .int .i16 0, .int .i16 0, .int .i16 0, .int .i16 0, .int .i16 0, .int .i16 0, .int .i16 0, .int .i16 0, .int .i16 0, .int .i16 0, .int .i16 0, .int .i16 0, .int .i16 0, .int .i16 0, .int .i16 0, .int .i16 0, .int .i16 0, .int .i16 0, .int .i16 0, .int .i16 0, .int .i16 0, .int .i16 0, .int .i16 0, .int .i16 0, .int .i16 0, .int .i16 0, .int .i16 0, .int .i16 0, .int .i16 0, .int .i16 0, .int .i16 0, .int .i16 0, .int .i16 0, .int .i16 0, .int .i16 0, .int .i16 0, .int .i16 0, .int .i16 0, .int .i16 0, .int .i16 0, .int .i16 0, .int .i16 0, .int .i16 0, .int .i16 0] 37)) (b := wr.heap.size) (by omega) (arrV .i16 64 (g i))
      have o2 := own_belowS ho kB
      have hB2 := Lib.hid (hB.trans (kB.mono hsz))
      have hz : w.heap.size ≤ ((wr.alloc (.cells #[.int .i16 0, .int .i16 0, .int .i16 0, .int .i16 0, .int .i16 0, .int .i16 0, .int .i16 0, .int .i16 0, .int .i16 0, .int .i16 0, .int .i16 0, .int .i16 0, .int .i16 0, .int .i16 0, .int .i16 0, .int .i16 0, .int .i16 0, .int .i16 0, .int .i16 0, .int .i16 0, .int .i16 0, .int .i16 0, .int .i16 0, .int .i16 0, .int .i16 0, .int .i16 0, .int .i16 0, .int .i16 0, .int .i16 0, .int .i16 0, .int .i16 0, .int .i16 0, .int .i16 0, .int .i16 0, .int .i16 0, .int .i16 0, .int .i16 0, .int .i16 0, .int .i16 0, .int .i16 0, .int .i16 0, .int .i16 0, .int .i16 0, .int .i16 0, .int .i16 0, .int .i16 0, .int .i16 0, .int .i16 0, .int .i16 0, .int .i16 0, .int .i16 0, .int .i16 0, .int .i16 0, .int .i16 0, .int .i16 0, .int .i16 0, .int .i16 0, .int .i16 0, .int .i16 0, .int .i16 0, .int .i16 0, .int .i16 0, .int .i16 0, .int .i16 0] 37)).setRow wr.heap.size (arrV .i16 64 (g i))).heap.size := hB2.out.size
      have c1 := z1.cell hk
      have hsn := Lib.hid (l16_congr (F := fun j => if j = i then g i k else (fun j => g j k) j) (G := fun j => g j k) (n := i + 1) (fun j hj => by
        show (if j = i then g i k else g j k) = g j k
        by_cases e : j = i
        · subst e; simp
        · rw [if_neg e]))
      clear kB ho hB z1
      go_wp2_with (first | (refine wpList_load_part p0 37 (.tmp 15) rfl rfl rfl Tryd.underlying37 sizePrint ?_) | (refine wpList_store_arr z0 37 (.tmp 7) (.tmp 16) rfl rfl rfl rfl sizePrint ?_) | (at_builtin; refine wpList_append_i16 rfl _ _ rfl rfl o2 rfl (by simp) (by omega) hz ?_))
      intro v3 w3 o3 hb3
      have hB3 := hB2.out.trans hb3
      obtain ⟨A3, cap3, rfl⟩ := own_isSliceS o3
      rw [hsn.out] at o3
      clear o2 z0 p0 c1 hB2 hz hb3 hsn
      go_wp2_with fail
      go_roundw
      case rel => exact ⟨i + 1, by omega, by go_num, o3, hB3⟩
      case measure => simp [intOf]; omega
    · obtain rfl : i = n := by omega
      rcases own16_row ho with ⟨_, h0⟩ | ⟨q, cap3, rfl, hq, hR⟩
      · exfalso; omega
      have hS := Lib.hid (sort16_any q i cap3 (fun j => g j k) HX.out (by omega) wr hR)
      have hh := half_cast i h1
      have hB2 := Lib.hid hB; clear hB ho hR
      have hd : (i - 1) / 2 < i := by omega
      have hd' : (((i - 1) / 2 : Nat) : Int) < i := by omega
      go_wp2_with fail
      refine hS.out.mono ?_; rintro e w4 ⟨⟨v, rfl⟩, hR4, hb4⟩
      have c4 := hR4.cell hd
      have k4 := hB2.out.trans (hb4.mono hq)
      clear hR4 hb4 hS
      rw [← hmed.out] at c4
      generalize hM : (i - 1) / 2 = M at *
      go_wp2_with fail
      go_ret
      exact ⟨rfl, k4⟩

set_option maxRecDepth 100000 in
set_option maxHeartbeats 4000000 in
theorem medianOf_any (A : Option Addr) (n cap : Nat) (g : Nat → Nat → Int) (h1 : 1 ≤ n) (hn : n ≤ 8) (hs : ∀ i, i < n → S16 (g i)) (w : World) (hr : PrsIn w A n g) :
    Calls Tryd.prog 38 #[.slice A n cap] w fun e w' => e = .returned (.agg (arrV .i16 64 (medF g n))) ∧ Below w.heap.size w w' := by
  have a1 := (HasArr.zero w 37 (b := w.heap.size) rfl).alloc (.cells #[.int .i16 0, .int .i16 0, .int .i16 0, .int .i16 0, .int .i16 0, .int .i16 0, .int .i16 0, .int .i16 0, .int .i16 0, .int .i16 0, .int .i16 0, .int .i16 0, .int .i16 0, .int .i16 0, .int .i16 0, .int .i16 0, .int .i16 0, .int .i16 0, .int .i16 0, .int .i16 0, .int .i16 0, .int .i16 0, .int .i16 0, .int .i16 0, .int .i16 0, .int .i16 0, .int .i16 0, .int .i16 0, .int .i16 0, .int .i16 0, .int .i16 0, .int .i16 0, .int .i16 0, .int .i16 0, .int .i16 0, .int .i16 0, .int .i16 0, .int .i16 0, .int .i16 0, .int .i16 0, .int .i16 0, .int .i16 0, .int .i16 0, .int .i16 0, .int .i16 0, .int .i16 0, .int .i16 0, .int .i16 0, .int .i16 0, .int .i16 0, .int .i16 0, .int .i16 0, .int .i16 0, .int .i16 0, .int .i16 0, .int .i16 0, .int .i16 0, .int .i16 0, .int .i16 0, .int .i16 0, .int .i16 0, .int .i16 0, .int .i16 0, .int .i16 0] 37)
  have a2 := HasArr.zero (w.alloc (.cells #[.int .i16 0, .int .i16 0, .int .i16 0, .int .i16 0, .int .i16 0, .int .i16 0, .int .i16 0, .int .i16 0, .int .i16 0, .int .i16 0, .int .i16 0, .int .i16 0, .int .i16 0, .int .i16 0, .int .i16 0, .int .i16 0, .int .i16 0, .int .i16 0, .int .i16 0, .int .i16 0, .int .i16 0, .int .i16 0, .int .i16 0, .int .i16 0, .int .i16 0, .int .i16 0, .int .i16 0, .int .i16 0, .int .i16 0, .int .i16 0, .int .i16 0, .int .i16 0, .int .i16 0, .int .i16 0, .int .i16 0, .int .i16 0, .int .i16 0, .int .i16 0, .int .i16 0, .int .i16 0, .int .i16 0, .int .i16 0, .int .i16 0, .int .i16 0, .int .i16 0, .int .i16 0, .int .i16 0, .int .i16 0, .int .i16 0, .int .i16 0, .int .i16 0, .int .i16 0, .int .i16 0, .int .i16 0, .int .i16 0, .int .i16 0, .int .i16 0, .int .i16 0, .int .i16 0, .int .i16 0, .int .i16 0, .int .i16 0, .int .i16 0, .int .i16 0] 37)) 37 (b := w.heap.size + 1) (by simp)
  have k0 := ((Below.refl w.heap.size w).alloc (Nat.le_refl _) (.cells #[.int .i16 0, .int .i16 0, .int .i16 0, .int .i16 0, .int .i16 0, .int .i16 0, .int .i16 0, .int .i16 0, .int .i16 0, .int .i16 0, .int .i16 0, .int .i16 0, .int .i16 0, .int .i16 0, .int .i16 0, .int .i16 0, .int .i16 0, .int .i16 0, .int .i16 0, .int .i16 0, .int .i16 0, .int .i16 0, .int .i16 0, .int .i16 0, .int .i16 0, .int .i16 0, .int .i16 0, .int .i16 0, .int .i16 0, .int .i16 0, .int .i16 0, .int .i16 0, .int .i16 0, .int .i16 0, .int .i16 0, .int .i16 0, .int .i16 0, .int .i16 0, .int .i16 0, .int .i16 0, .int .i16 0, .int .i16 0, .int .i16 0, .int .i16 0, .int .i16 0, .int .i16 0, .int .i16 0, .int .i16 0, .int .i16 0, .int .i16 0, .int .i16 0, .int .i16 0, .int .i16 0, .int .i16 0, .int .i16 0, .int .i16 0, .int .i16 0, .int .i16 0, .int .i16 0, .int .i16 0, .int .i16 0, .int .i16 0, .int .i16 0, .int .i16 0] 37)).alloc (by simp) (.cells #[.int .i16 0, .int .i16 0, .int .i16 0, .int .i16 0, .int .i16 0, .int .i16 0, .int .i16 0, .int .i16 0, .int .i16 0, .int .i16 0, .int .i16 0, .int .i16 0, .int .i16 0, .int .i16 0, .int .i16 0, .int .i16 0, .int .i16 0, .int .i16 0, .int .i16 0, .int .i16 0, .int .i16 0, .int .i16 0, .int .i16 0, .int .i16 0, .int .i16 0, .int .i16 0, .int .i16 0, .int .i16 0, .int .i16 0, .int .i16 0, .int .i16 0, .int .i16 0, .int .i16 0, .int .i16 0, .int .i16 0, .int .i16 0, .int .i16 0, .int .i16 0, .int .i16 0, .int .i16 0, .int .i16 0, .int .i16 0, .int .i16 0, .int .i16 0, .int .i16 0, .int .i16 0, .int .i16 0, .int .i16 0, .int .i16 0, .int .i16 0, .int .i16 0, .int .i16 0, .int .i16 0, .int .i16 0, .int .i16 0, .int .i16 0, .int .i16 0, .int .i16 0, .int .i16 0, .int .i16 0, .int .i16 0, .int .i16 0, .int .i16 0, .int .i16 0] 37)
  have Hm := Lib.hid (fun k hk W hW => middle_any A n cap g k hk h1 hn hs W hW)
  have HR := Lib.hid hr; clear hr hs
  have b1 := a1.rowOther (b' := w.heap.size + 1) (by omega) (arrV .i16 64 fun _ => 0)
  have b2 := a2.setRow .i16 (fun _ => 0)
  have k1 := below_setRow k0 (b := w.heap.size + 1) (by omega) (arrV .i16 64 fun _ => 0)
  go_enter Tryd.func38, Tryd.ntmps38
  go_wp2_with (refine wpList_store_arr (g := fun _ => 0) a2 37 (.tmp 3) (.tmp 5) rfl rfl rfl (by rw [zeroArr16]; rfl) sizePrint ?_)
  clear a1 a2 k0
  generalize (((w.alloc (.cells #[.int .i16 0, .int .i16 0, .int .i16 0, .int .i16 0, .int .i16 0, .int .i16 0, .int .i16 0, .int .i16 0, .int .i16 0, .int .i16 0, .int .i16 0, .int .i16 0, .int .i16 0, .int .i16 0, .int .i16 0, .int .i16 0, .int .i16 0, .int .i16 0, .int .i16 0, .int .i16 0, .int .i16 0, .int .i16 0, .int .i16 0, .int .i16 0, .int .i16 0, .int .i16 0, .int .i16 0, .int .i16 0, .int .i16 0, .int .i16 0, .int .i16 0, .int .i16 0, .int .i16 0, .int .i16 0, .int .i16 0, .int .i16 0, .int .i16 0, .int .i16 0, .int .i16 0, .int .i16 0, .int .i16 0, .int .i16 0, .int .i16 0, .int .i16 0, .int .i16 0, .int .i16 0, .int .i16 0, .int .i16 0, .int .i16 0, .int .i16 0, .int .i16 0, .int .i16 0, .int .i16 0, .int .i16 0, .int .i16 0, .int .i16 0, .int .i16 0, .int .i16 0, .int .i16 0, .int .i16 0, .int .i16 0, .int .i16 0, .int .i16 0, .int .i16 0] 37)).alloc (.cells #[.int .i16 0, .int .i16 0, .int .i16 0, .int .i16 0, .int .i16 0, .int .i16 0, .int .i16 0, .int .i16 0, .int .i16 0, .int .i16 0, .int .i16 0, .int .i16 0, .int .i16 0, .int .i16 0, .int .i16 0, .int .i16 0, .int .i16 0, .int .i16 0, .int .i16 0, .int .i16 0, .int .i16 0, .int .i16 0, .int .i16 0, .int .i16 0, .int .i16 0, .int .i16 0, .int .i16 0, .int .i16 0, .int .i16 0, .int .i16 0, .int .i16 0, .int .i16 0, .int .i16 0, .int .i16 0, .int .i16 0, .int .i16 0, .int .i16 0, .int .i16 0, .int .i16 0, .int .i16 0, .int .i16 0, .int .i16 0, .int .i16 0, .int .i16 0, .int .i16 0, .int .i16 0, .int .i16 0, .int .i16 0, .int .i16 0, .int .i16 0, .int .i16 0, .int .i16 0, .int .i16 0, .int .i16 0, .int .i16 0, .int .i16 0, .int .i16 0, .int .i16 0, .int .i16 0, .int .i16 0, .int .i16 0, .int .i16 0, .int .i16 0, .int .i16 0] 37)).setRow (w.heap.size + 1) (arrV .i16 64 fun _ => 0)) = W1 at *
  have b3 : HasArr W1 (w.heap.size + 1) 37 .i16 64 (mixN (medF g n) 0) := b2.congr fun j _ => by simp [mixN]
  go_loopw [6] (fun iv wr => ∃ i : Nat, i ≤ 64 ∧ iv = .int .i64 (i : Int) ∧ HasArr wr w.heap.size 37 .i16 64 (fun _ => 0) ∧ HasArr wr (w.heap.size + 1) 37 .i16 64 (mixN (medF g n) i) ∧ Below w.heap.size w wr) (fun iv _ => 64 - (intOf iv).toNat)
  case atStart => exact ⟨0, by omega, rfl, b1, b3, k1⟩
  case round =>
    clear b1 b2 b3 k1
    obtain ⟨i, hi, rfl, hz, hm, hB⟩ := hrel
    by_cases hlt : i < 64
    · have hi' : (i : Int) < 64 := by omega
      have hmi := Lib.hid (Hm.out i hlt wr (HR.out.below hB (Nat.le_refl _)))
      have hst := Lib.hid (fun j => mixN_step (medF g n) i j)
      have HZ := Lib.hid hz; have HM := Lib.hid hm; have HB := Lib.hid hB; clear hz hm hB
      generalize hV : medF g n i = V at *
      go_wp2_with fail
      refine hmi.out.mono ?_; rintro e w3 ⟨rfl, hb3⟩
      have m3 := HM.out.below hb3 HM.out.lt
      have z3 := HZ.out.below hb3 HZ.out.lt
      have k3 := HB.out.trans (hb3.mono HB.out.size)
      have c3 := m3.cell hlt
      have f3 := m3.free i
      have m4 := Lib.hid ((m3.set i V).congr fun j _ => hst.out j)
      have z4 := Lib.hid (z3.other (a := ⟨w.heap.size + 1, i, none⟩) (by simp) (.int .i16 V))
      have k4 := Lib.hid (k3.setCell (p := ⟨w.heap.size + 1, i, none⟩) (by simp) (.int .i16 V))
      clear m3 z3 k3 hb3 HZ HM HB hmi
      go_wp2_with fail
      go_roundw
      case rel => exact ⟨i + 1, by omega, by go_num, z4.out, m4.out, k4.out⟩
      case measure => simp [intOf]; omega
    · obtain rfl : i = 64 := by omega
      have hm2 := hm.congr (g := medF g n) fun j hj => by unfold mixN; rw [if_pos hj]
      have KB := Lib.hid hB; clear hB
      go_wp2_with (first | (refine wpList_load_arr hm2 37 (.tmp 3) rfl rfl rfl Tryd.underlying37 sizePrint ?_) | (refine wpList_store_arr hz 37 (.tmp 2) (.tmp 15) rfl rfl rfl rfl sizePrint ?_))
      refine bodyPost_ret (v := .agg (arrV .i16 64 (medF g n))) ?_ rfl ⟨rfl, below_setRow KB.out (b := w.heap.size) (by omega) _⟩
      exact results_cell_row rfl _ _ _ _ _ _ _ rfl (hz.setRow .i16 (medF g n)) Tryd.underlying37 rfl (by rw [arrV_size]; exact sizePrint)
end Go.Proofs.YtmibinfaafhgdaaDoor

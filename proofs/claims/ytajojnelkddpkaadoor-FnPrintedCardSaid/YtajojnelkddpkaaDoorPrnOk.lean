/-
  Prints of valid curves, at places within bounds: what the functions return; a number that depends on some bytes. Condition: each theorem names its own.
-/
import Derived.Test.YtajojnelkddpkaaDoorRng2
import Derived.Test.YtajojnelkddpkaaDoorDrawn
namespace Go.Proofs.YtajojnelkddpkaaDoor
open Go.RowKit

/-- Two valid curves in memory. -/
structure Two (w : World) (b n : Nat) (xs ys : Nat → Int) (b' m : Nat) (us vs : Nat → Int) : Prop where
  c : Crv n xs ys
  hn : n ≤ 6
  c' : Crv m us vs
  hm : m ≤ 6
  hr : PtRow w b n xs ys
  hr' : PtRow w b' m us vs
theorem Two.below {w W : World} {b n : Nat} {xs ys : Nat → Int} {b' m : Nat} {us vs : Nat → Int} (h : Two w b n xs ys b' m us vs) {L : Nat} (hb : Below L w W) (hL : w.heap.size ≤ L) : Two W b n xs ys b' m us vs :=
  ⟨h.c, h.hn, h.c', h.hm, h.hr.below hb (Nat.lt_of_lt_of_le h.hr.lt hL), h.hr'.below hb (Nat.lt_of_lt_of_le h.hr'.lt hL)⟩
theorem two_bth {n : Nat} {xs ys : Nat → Int} {m : Nat} {us vs : Nat → Int} (c : Crv n xs ys) (hn : n ≤ 6) (c' : Crv m us vs) (hm : m ≤ 6) {x l : Int} (hx : -200 ≤ x) (hx' : x ≤ 200) (hl : -200 ≤ l) (hl' : l ≤ 200) : bthC n xs ys m us vs x l = 0 :=
  bth_0 (c.valid (by omega)) (c'.valid (by omega)) (inB_true.2 ⟨hx, hx'⟩) (inB_true.2 ⟨hl, hl'⟩)

section
variable {b n cap : Nat} {xs ys : Nat → Int} {b' m cap' : Nat} {us vs : Nat → Int} {w : World}
theorem okPrintedAt (s : Ers) (x l : Int) (hx : -200 ≤ x) (hx' : x ≤ 200) (hl : -200 ≤ l) (hl' : l ≤ 200) (cap cap' : Nat) (h : Two w b n xs ys b' m us vs) (hE : ErrEnv s w) :
    Calls Tryd.prog 10 #[.slice (some ⟨b, 0, none⟩) n cap, .slice (some ⟨b', 0, none⟩) m cap', .int .i64 x, .int .i64 l] w fun e w' => e = .returned (.tuple #[.int .i64 (prnV n xs ys m us vs x l), .int .i64 0]) ∧ Below w.heap.size w w' := by
  have hn := h.hn
  have hm := h.hm
  have hk := PrintedAt_any s b n cap xs ys b' m cap' us vs x l (by omega) (by omega) h.c.smallP h.c'.smallP w h.hr h.hr' hE
  rw [two_bth h.c h.hn h.c' h.hm hx hx' hl hl', ifOk_0] at hk
  exact hk
theorem okSpecPrintedAt (x l : Int) (hx : -200 ≤ x) (hx' : x ≤ 200) (hl : -200 ≤ l) (hl' : l ≤ 200) (cap cap' : Nat) (h : Two w b n xs ys b' m us vs) :
    Calls Tryd.prog 8 #[.slice (some ⟨b, 0, none⟩) n cap, .slice (some ⟨b', 0, none⟩) m cap', .int .i64 x, .int .i64 l] w fun e w' => e = .returned (.tuple #[.int .i64 (prnV n xs ys m us vs x l), .int .i64 0]) ∧ Below w.heap.size w w' := by
  have hn := h.hn
  have hm := h.hm
  have hk := specPrintedAt_any b n cap xs ys b' m cap' us vs x l (by omega) (by omega) h.c.smallP h.c'.smallP w h.hr h.hr'
  rw [two_bth h.c h.hn h.c' h.hm hx hx' hl hl', ifOk_0] at hk
  exact hk
theorem okRange (s : Ers) (lo hi l : Int) (hx : -200 ≤ lo) (hx' : lo ≤ hi) (hx2 : hi ≤ 200) (hl : -200 ≤ l) (hl' : l ≤ 200) (cap cap' : Nat) (h : Two w b n xs ys b' m us vs) (hE : ErrEnv s w) :
    Calls Tryd.prog 13 #[.slice (some ⟨b, 0, none⟩) n cap, .slice (some ⟨b', 0, none⟩) m cap', .int .i64 lo, .int .i64 hi, .int .i64 l] w fun e w' => e = .returned (.tuple #[.int .i64 (prnV n xs ys m us vs hi l), .int .i64 (prnV n xs ys m us vs lo l), .int .i64 0]) ∧ Below w.heap.size w w' := by
  have hn := h.hn
  have hm := h.hm
  have hk := PrintedRange_any s b n cap xs ys b' m cap' us vs lo hi l (by omega) (by omega) h.c.smallP h.c'.smallP w h.hr h.hr' hE
  rw [prg_ok (two_bth h.c h.hn h.c' h.hm hx (by omega) hl hl') (inB_true.2 ⟨by omega, hx2⟩) hx', ifOk_0, ifOk_0] at hk
  exact hk
theorem okSpecRange (lo hi l : Int) (hx : -200 ≤ lo) (hx' : lo ≤ hi) (hx2 : hi ≤ 200) (hl : -200 ≤ l) (hl' : l ≤ 200) (cap cap' : Nat) (h : Two w b n xs ys b' m us vs) :
    Calls Tryd.prog 12 #[.slice (some ⟨b, 0, none⟩) n cap, .slice (some ⟨b', 0, none⟩) m cap', .int .i64 lo, .int .i64 hi, .int .i64 l] w fun e w' => e = .returned (.tuple #[.int .i64 (prnV n xs ys m us vs hi l), .int .i64 (prnV n xs ys m us vs lo l), .int .i64 0]) ∧ Below w.heap.size w w' := by
  have hn := h.hn
  have hm := h.hm
  have hk := specPrintedRange_any b n cap xs ys b' m cap' us vs lo hi l (by omega) (by omega) h.c.smallP h.c'.smallP w h.hr h.hr'
  rw [prg_ok (two_bth h.c h.hn h.c' h.hm hx (by omega) hl hl') (inB_true.2 ⟨by omega, hx2⟩) hx', ifOk_0, ifOk_0] at hk
  exact hk
theorem okLight (s : Ers) (x y : Int) (hx : -200 ≤ x) (hx' : x ≤ 200) (hl : 0 ≤ y) (hl' : y ≤ 400) (cap cap' : Nat) (h : Two w b n xs ys b' m us vs) (hE : ErrEnv s w) :
    Calls Tryd.prog 15 #[.slice (some ⟨b, 0, none⟩) n cap, .slice (some ⟨b', 0, none⟩) m cap', .int .i64 x, .int .i64 y] w fun e w' => e = .returned (.tuple #[.int .i64 (ifOk (lstC (prnV n xs ys m us vs x) y) (forX (prnV n xs ys m us vs x) y)), .int .i64 (lstC (prnV n xs ys m us vs x) y)]) ∧ Below w.heap.size w w' := by
  have hn := h.hn
  have hm := h.hm
  have hk := LightFor_any s b n cap xs ys b' m cap' us vs x y (by omega) (by omega) h.c.smallP h.c'.smallP w h.hr h.hr' hE
  rw [lgt_0 (h.c.valid (by omega)) (h.c'.valid (by omega)) (inB_true.2 ⟨hx, hx'⟩) (inB_true.2 ⟨hl, hl'⟩)] at hk
  exact hk
theorem okSpecLight (x y : Int) (hx : -200 ≤ x) (hx' : x ≤ 200) (hl : 0 ≤ y) (hl' : y ≤ 400) (cap cap' : Nat) (h : Two w b n xs ys b' m us vs) :
    Calls Tryd.prog 14 #[.slice (some ⟨b, 0, none⟩) n cap, .slice (some ⟨b', 0, none⟩) m cap', .int .i64 x, .int .i64 y] w fun e w' => e = .returned (.tuple #[.int .i64 (ifOk (lstC (prnV n xs ys m us vs x) y) (forX (prnV n xs ys m us vs x) y)), .int .i64 (lstC (prnV n xs ys m us vs x) y)]) ∧ Below w.heap.size w w' := by
  have hn := h.hn
  have hm := h.hm
  have hk := specLightFor_any b n cap xs ys b' m cap' us vs x y (by omega) (by omega) h.c.smallP h.c'.smallP w h.hr h.hr'
  rw [lgt_0 (h.c.valid (by omega)) (h.c'.valid (by omega)) (inB_true.2 ⟨hx, hx'⟩) (inB_true.2 ⟨hl, hl'⟩)] at hk
  exact hk
end

/-- A number below m. -/
def AtOut (m : Int) (w : World) (e : Ending) (w' : World) : Prop := ∃ r : Int, e = .returned (.int .i64 r) ∧ 0 ≤ r ∧ r < m ∧ w = w'
theorem a2At_any (A : Option Addr) (n cap : Nat) (bs : Nat → Int) (k : Nat) (m : Int) (hk : k ≤ 10) (hm : 1 ≤ m) (hm' : m ≤ 1000) (hn : n ≤ 1048576) (hbs : ∀ j, j < n → 0 ≤ bs j ∧ bs j ≤ 255) (w : World) (hB : BytesIn w A n bs) :
    Calls Tryd.prog 18 #[.slice A n cap, .int .i64 k, .int .i64 m] w (AtOut m w) := by
  by_cases h : k < n
  · rcases hB with h0 | ⟨b, o, rfl, hlt, hc⟩
    · omega
    have c0 := hc k h
    have hb := hbs k h
    clear hc hbs
    generalize bs k = B at *
    have h1 : decide ((n : Int) ≤ (k : Int)) = false := decide_eq_false (by omega)
    have h2 : decide (m < 1) = false := decide_eq_false (by omega)
    have h3 : (k : Int) < n := by omega
    have hr0 := Int.emod_nonneg B (show m ≠ 0 by omega)
    have hr1 := Int.emod_lt_of_pos B (show 0 < m by omega)
    have h4 : ¬ m = 0 := by omega
    go_enter Tryd.func18, Tryd.ntmps18
    go_wp2
    go_ret
    exact ⟨_, rfl, hr0, hr1, rfl⟩
  · have h1 : (n : Int) ≤ (k : Int) := by omega
    go_enter Tryd.func18, Tryd.ntmps18
    go_wp2
    go_ret
    exact ⟨0, rfl, by omega, by omega, rfl⟩
theorem a2Long_any (A : Option Addr) (n cap : Nat) (A' : Option Addr) (m cap' : Nat) (hn : n ≤ 9223372036854775807) (hm : m ≤ 9223372036854775807) (w : World) :
    Calls Tryd.prog 16 #[.slice A n cap, .slice A' m cap'] w fun e w' => e = .returned (.bool (decide (3000 < n) || decide (3000 < m))) ∧ w = w' := by
  by_cases h : 3000 < n
  · go_enter Tryd.func16, Tryd.ntmps16
    go_wp2
    go_ret
    exact ⟨ret_bool (by simp [h] <;> omega), rfl⟩
  · have h1 : decide ((3000 : Int) < (n : Int)) = false := decide_eq_false (by omega)
    go_enter Tryd.func16, Tryd.ntmps16
    go_wp2
    go_ret
    exact ⟨ret_bool (by simp [h] <;> omega), rfl⟩
end Go.Proofs.YtajojnelkddpkaaDoor

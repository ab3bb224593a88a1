/-
  The exposures for a density, with their codes: what the program's and the reference's functions return, for every list of at most 1048576 points. Condition of the program's: its variables hold their own errors.
-/
import Derived.Test.YtajojnelkddpkaaDoorCurA
namespace Go.Proofs.YtajojnelkddpkaaDoor
open Go.RowKit

/-- What is found: the least place, 201 if there is none; the code. -/
def lstC (f : Int → Int) (y : Int) : Int := if forX f y = 201 then 6 else 0
theorem lst_no {f : Int → Int} {y : Int} (h : forX f y = 201) : lstC f y = 6 := by simp [lstC, h]
theorem lst_yes {f : Int → Int} {y : Int} (h : forX f y ≠ 201) : lstC f y = 0 := by simp [lstC, h]
/-- All places ahead of z have less. -/
def AllLess (f : Int → Int) (y z : Int) : Prop := ∀ u, -200 ≤ u → u < z → f u < y
theorem AllLess.start (f : Int → Int) (y : Int) : AllLess f y (-200) := fun u h h' => by omega
theorem AllLess.next {f : Int → Int} {y z : Int} (h : AllLess f y z) (hz : f z < y) : AllLess f y (z + 1) := fun u h1 h2 => by
  by_cases e : u = z
  · rw [e]; exact hz
  · exact h u h1 (by omega)
theorem AllLess.found {f : Int → Int} {y z : Int} (h : AllLess f y z) (h0 : -200 ≤ z) (h1 : z ≤ 200) (hz : ¬ f z < y) : forX f y = z := forX_eq h0 (by omega) h (.inr (by omega))
theorem AllLess.none {f : Int → Int} {y : Int} (h : AllLess f y 201) : forX f y = 201 := forX_eq (by omega) (by omega) h (.inl rfl)

set_option maxRecDepth 100000 in
set_option maxHeartbeats 1000000 in
theorem leastAt_any (s : Ers) (b n cap : Nat) (xs ys : Nat → Int) (hn : n ≤ 1048576) (c : Crv n xs ys) (y : Int) (hy : -1000000 ≤ y) (hy' : y ≤ 1000000) (w : World) (hr : PtRow w b n xs ys) (hE : ErrEnv s w) :
    Calls Tryd.prog 42 #[.func (.func 48) #[.slice (some ⟨b, 0, none⟩) n cap] #[], .int .i64 y] w (CodedX s (.int .i64 (ifOk (lstC (dens n xs ys) y) (forX (dens n xs ys) y))) (lstC (dens n xs ys) y) w.heap.size w) := by
  have hlt := hr.lt
  have hat := fun (x : Int) (h : -1000000 ≤ x) (h' : x ≤ 1000000) W hW => at_any b n cap xs ys hn c x h h' W hW
  have hbd := fun x => dens_400 c x
  generalize dens n xs ys = f at hat hbd ⊢
  have Hat := Lib.hid hat; clear hat
  have Hbd := Lib.hid hbd; clear hbd
  go_enter Tryd.func42, Tryd.ntmps42
  go_wp2
  go_loopw [6] (fun i wr => ∃ z : Int, i = .int .i64 z ∧ -200 ≤ z ∧ z ≤ 201 ∧ AllLess f y z ∧ Below w.heap.size w wr) (fun i _ => (201 - intOf i).toNat)
  case atStart => exact ⟨-200, rfl, by omega, by omega, AllLess.start _ _, Below.refl _ _⟩
  case round =>
    obtain ⟨z, rfl, hz0, hz1, ha, hB⟩ := hrel
    have Ha := Lib.hid ha; clear ha
    have hsz := hB.size
    by_cases h2 : z ≤ 200
    · have hk := Hat.out z (by omega) (by omega) wr (hr.below hB hlt)
      have hb := Hbd.out z
      by_cases hl : f z < y
      · have hN := Ha.out.next hl
        generalize f z = V at hk hl hb
        have HN := Lib.hid hN; clear hN
        have Hk := Lib.hid hk; clear hk
        have dl : decide (y ≤ V) = false := decide_eq_false (by omega)
        go_wp2_with fail
        refine Hk.out.mono ?_; rintro e w1 ⟨rfl, hb1⟩
        go_wp2_with fail
        go_roundw
        case rel => exact ⟨z + 1, rfl, by omega, by omega, HN.out, hB.trans (hb1.mono hsz)⟩
        case measure => simp [intOf]; omega
      · have hF := Ha.out.found hz0 h2 hl
        have hC := lst_yes (f := f) (y := y) (by omega)
        generalize f z = V at hk hl hb
        have HF := Lib.hid hF; clear hF
        have HC := Lib.hid hC; clear hC
        have Hk := Lib.hid hk; clear hk
        have dl : y ≤ V := by omega
        go_wp2_with fail
        refine Hk.out.mono ?_; rintro e w1 ⟨rfl, hb1⟩
        go_wp2_with fail
        go_ret2
        rw [HC.out, HF.out, ifOk_0]
        exact ⟨_, .ok, rfl, hB.trans (hb1.mono hsz)⟩
    · obtain rfl : z = 201 := by omega
      have hF := Ha.out.none
      have hC := lst_no hF
      have HC := Lib.hid hC; clear hC hF
      have ce := (hE.below hB (Nat.le_refl _)).c_enotfound
      go_wp2_with fail
      go_quiet (fail)
      go_wp2
      go_ret2
      rw [HC.out, ifOk_6]
      exact ⟨_, .enotfound, rfl, below_drewL hB _⟩

/-- The code of the least exposure for a density. -/
def expC (n : Nat) (xs ys : Nat → Int) (y : Int) : Int := if denC n xs ys y = 0 then lstC (dens n xs ys) y else denC n xs ys y
theorem exp_bad {n : Nat} {xs ys : Nat → Int} {y : Int} (h : validC n xs ys = false) : expC n xs ys y = 1 := by simp [expC, den_bad h]
theorem exp_far {n : Nat} {xs ys : Nat → Int} {y : Int} (h : validC n xs ys = true) (h2 : inB y 0 400 = false) : expC n xs ys y = 2 := by simp [expC, den_far h h2]
theorem exp_yes {n : Nat} {xs ys : Nat → Int} {y : Int} (h : validC n xs ys = true) (h2 : inB y 0 400 = true) : expC n xs ys y = lstC (dens n xs ys) y := by simp [expC, den_yes h h2]

end Go.Proofs.YtajojnelkddpkaaDoor

/-
  The greatest gap of two curves, with its code: what the program's and the reference's functions return, for every two lists of at most 1048576 points. No other condition.
-/
import Derived.Test.YtpombpphicmhmabGap2
namespace Go.Proofs.Ytpombpphicmhmab
open Go.RowKit

def gpC (n : Nat) (xs ys : Nat → Int) (m : Nat) (us vs : Nat → Int) : Int := if (validC n xs ys && validC m us vs) = true then 0 else 1
def gpR (n : Nat) (xs ys : Nat → Int) (m : Nat) (us vs : Nat → Int) (v : Int) : Int := if (validC n xs ys && validC m us vs) = true then v else 0
theorem gp_1 {n : Nat} {xs ys : Nat → Int} {m : Nat} {us vs : Nat → Int} (h : validC n xs ys = false) : (∀ v, gpR n xs ys m us vs v = 0) ∧ gpC n xs ys m us vs = 1 := by simp [gpC, gpR, h]
theorem gp_2 {n : Nat} {xs ys : Nat → Int} {m : Nat} {us vs : Nat → Int} (h : validC m us vs = false) : (∀ v, gpR n xs ys m us vs v = 0) ∧ gpC n xs ys m us vs = 1 := by simp [gpC, gpR, h]
theorem gp_0 {n : Nat} {xs ys : Nat → Int} {m : Nat} {us vs : Nat → Int} (h : validC n xs ys = true) (h2 : validC m us vs = true) : (∀ v, gpR n xs ys m us vs v = v) ∧ gpC n xs ys m us vs = 0 := by simp [gpC, gpR, h, h2]

set_option maxRecDepth 100000 in
set_option maxHeartbeats 1000000 in
theorem specGreatestGap_any (b0 n c0 : Nat) (xs ys : Nat → Int) (b1 m c1 : Nat) (us vs : Nat → Int) (hn : n ≤ 1048576) (hm : m ≤ 1048576) (hs : SmallP n xs ys) (hs' : SmallP m us vs) (w : World) (hr : PtRow w b0 n xs ys) (hr' : PtRow w b1 m us vs) :
    Calls Try.prog 5 #[.slice (some ⟨b0, 0, none⟩) n c0, .slice (some ⟨b1, 0, none⟩) m c1] w fun e w' => e = .returned (.tuple #[.int .i64 (gpR n xs ys m us vs (gapS (gapD n xs ys m us vs) 401).1), .int .i64 (gpR n xs ys m us vs (gapS (gapD n xs ys m us vs) 401).2), .int .i64 (gpC n xs ys m us vs)]) ∧ Below w.heap.size w w' := by
  have hk := l02Ok_any b0 n c0 xs ys hn hs
  have hl := l02Ok_any b1 m c1 us vs hm hs'
  rcases h1 : validC n xs ys with _ | _
  · obtain ⟨e1, e2⟩ := gp_1 (m := m) (us := us) (vs := vs) h1
    rw [e1, e1, e2]
    rw [h1] at hk
    have Hk := Lib.hid hk; clear hk hl h1 e1 e2
    go_enter Try.func5, Try.ntmps5
    go_wp2_with fail
    refine (Hk.out _ hr).mono ?_; rintro e w1 ⟨rfl, hb1⟩
    go_wp2_with fail
    go_ret3
    exact ⟨rfl, hb1⟩
  · rw [h1] at hk
    rcases h2 : validC m us vs with _ | _
    · obtain ⟨e1, e2⟩ := gp_2 (n := n) (xs := xs) (ys := ys) h2
      rw [e1, e1, e2]
      rw [h2] at hl
      have Hk := Lib.hid hk; clear hk
      have Hl := Lib.hid hl; clear hl h1 h2 e1 e2
      go_enter Try.func5, Try.ntmps5
      go_wp2_with fail
      refine (Hk.out _ hr).mono ?_; rintro e w1 ⟨rfl, hb1⟩
      go_wp2_with fail
      refine (Hl.out _ (hr'.below hb1 hr'.lt)).mono ?_; rintro e w2 ⟨rfl, hb2⟩
      have k2 := hb1.trans (hb2.mono hb1.size)
      go_wp2_with fail
      go_ret3
      exact ⟨rfl, k2⟩
    · obtain ⟨e1, e2⟩ := gp_0 h1 h2
      rw [e1, e1, e2]
      rw [h2] at hl
      have hg := fun W h h' => l02Gap_any b0 n c0 xs ys b1 m c1 us vs hn hm (validC_crv h1).1 (validC_crv h2).1 W h h'
      generalize (gapS (gapD n xs ys m us vs) 401).1 = X at *
      generalize (gapS (gapD n xs ys m us vs) 401).2 = Y at *
      have Hk := Lib.hid hk; clear hk
      have Hl := Lib.hid hl; clear hl h1 h2 e1 e2
      have Hg := Lib.hid hg; clear hg
      go_enter Try.func5, Try.ntmps5
      go_wp2_with fail
      refine (Hk.out _ hr).mono ?_; rintro e w1 ⟨rfl, hb1⟩
      go_wp2_with fail
      refine (Hl.out _ (hr'.below hb1 hr'.lt)).mono ?_; rintro e w2 ⟨rfl, hb2⟩
      have k2 := hb1.trans (hb2.mono hb1.size)
      go_wp2_with fail
      refine (Hg.out _ (hr.below k2 hr.lt) (hr'.below k2 hr'.lt)).mono ?_; rintro e w3 ⟨rfl, hb3⟩
      have k3 := k2.trans (hb3.mono k2.size)
      go_wp2_with fail
      go_ret3
      exact ⟨rfl, k3⟩

set_option maxRecDepth 100000 in
set_option maxHeartbeats 1000000 in
theorem GreatestGap_any (b0 n c0 : Nat) (xs ys : Nat → Int) (b1 m c1 : Nat) (us vs : Nat → Int) (hn : n ≤ 1048576) (hm : m ≤ 1048576) (hs : SmallP n xs ys) (hs' : SmallP m us vs) (w : World) (hr : PtRow w b0 n xs ys) (hr' : PtRow w b1 m us vs) :
    Calls Try.prog 7 #[.slice (some ⟨b0, 0, none⟩) n c0, .slice (some ⟨b1, 0, none⟩) m c1] w fun e w' => e = .returned (.tuple #[.int .i64 (gpR n xs ys m us vs (gapS (gapD n xs ys m us vs) 401).1), .int .i64 (gpR n xs ys m us vs (gapS (gapD n xs ys m us vs) 401).2), .int .i64 (gpC n xs ys m us vs)]) ∧ Below w.heap.size w w' := by
  have hk := ValidCurve_any b0 n c0 xs ys hn hs
  have hl := ValidCurve_any b1 m c1 us vs hm hs'
  rcases h1 : validC n xs ys with _ | _
  · obtain ⟨e1, e2⟩ := gp_1 (m := m) (us := us) (vs := vs) h1
    rw [e1, e1, e2]
    rw [h1] at hk
    have Hk := Lib.hid hk; clear hk hl h1 e1 e2
    go_enter Try.func7, Try.ntmps7
    go_wp2_with fail
    refine (Hk.out _ hr).mono ?_; rintro e w1 ⟨rfl, hb1⟩
    go_wp2_with fail
    go_ret3
    exact ⟨rfl, hb1⟩
  · rw [h1] at hk
    rcases h2 : validC m us vs with _ | _
    · obtain ⟨e1, e2⟩ := gp_2 (n := n) (xs := xs) (ys := ys) h2
      rw [e1, e1, e2]
      rw [h2] at hl
      have Hk := Lib.hid hk; clear hk
      have Hl := Lib.hid hl; clear hl h1 h2 e1 e2
      go_enter Try.func7, Try.ntmps7
      go_wp2_with fail
      refine (Hk.out _ hr).mono ?_; rintro e w1 ⟨rfl, hb1⟩
      go_wp2_with fail
      refine (Hl.out _ (hr'.below hb1 hr'.lt)).mono ?_; rintro e w2 ⟨rfl, hb2⟩
      have k2 := hb1.trans (hb2.mono hb1.size)
      go_wp2_with fail
      go_ret3
      exact ⟨rfl, k2⟩
    · obtain ⟨e1, e2⟩ := gp_0 h1 h2
      rw [e1, e1, e2]
      rw [h2] at hl
      have hg := fun W h h' => greatestGap_any b0 n c0 xs ys b1 m c1 us vs hn hm (validC_crv h1).1 (validC_crv h2).1 W h h'
      generalize (gapS (gapD n xs ys m us vs) 401).1 = X at *
      generalize (gapS (gapD n xs ys m us vs) 401).2 = Y at *
      have Hk := Lib.hid hk; clear hk
      have Hl := Lib.hid hl; clear hl h1 h2 e1 e2
      have Hg := Lib.hid hg; clear hg
      go_enter Try.func7, Try.ntmps7
      go_wp2_with fail
      refine (Hk.out _ hr).mono ?_; rintro e w1 ⟨rfl, hb1⟩
      go_wp2_with fail
      refine (Hl.out _ (hr'.below hb1 hr'.lt)).mono ?_; rintro e w2 ⟨rfl, hb2⟩
      have k2 := hb1.trans (hb2.mono hb1.size)
      go_wp2_with fail
      refine (Hg.out _ (hr.below k2 hr.lt) (hr'.below k2 hr'.lt)).mono ?_; rintro e w3 ⟨rfl, hb3⟩
      have k3 := k2.trans (hb3.mono k2.size)
      go_wp2_with fail
      go_quiet (fail)
      go_wp2_with fail
      go_ret3
      exact ⟨rfl, below_drewL (k3.alloc k3.size _) _⟩
end Go.Proofs.Ytpombpphicmhmab

/-
  The greatest gap of two curves: what the program's and the reference's functions return. Condition: the points are two curves' (with the codes: at most 1048576 points each).
-/
import Derived.Test.YtpombpphicmhmabAt
import Derived.Test.YtpombpphicmhmabAtS
import Derived.Lib.MinMax
namespace Go.Proofs.Ytpombpphicmhmab
open Go.RowKit

/-- The size of a number. -/
def aSize (z : Int) : Int := if z < 0 then -z else z
theorem aSize_bd {z : Int} (h : -400 ≤ z) (h' : z ≤ 400) : 0 ≤ aSize z ∧ aSize z ≤ 400 := by unfold aSize; split <;> omega
/-- What has been found at the first k places. -/
def gapS (d : Int → Int) : Nat → Int × Int
  | 0 => (-200, 0)
  | k + 1 => if aSize (gapS d k).2 < aSize (d (-200 + k)) then (-200 + k, d (-200 + k)) else gapS d k
theorem gapS_yes {d : Int → Int} {k : Nat} (h : aSize (gapS d k).2 < aSize (d (-200 + k))) : gapS d (k + 1) = (-200 + (k : Int), d (-200 + k)) := by simp [gapS, h]
theorem gapS_no {d : Int → Int} {k : Nat} (h : ¬ aSize (gapS d k).2 < aSize (d (-200 + k))) : gapS d (k + 1) = gapS d k := by simp [gapS, h]
theorem gapS_one (d : Int → Int) : gapS d 1 = (-200, d (-200)) := by
  by_cases h : aSize (gapS d 0).2 < aSize (d (-200 + (0 : Nat)))
  · rw [gapS_yes h]; simp
  · rw [gapS_no h]
    have e : d (-200) = 0 := by
      simp only [gapS, aSize] at h
      simp at h
      split at h <;> omega
    rw [e]; rfl
theorem gapS_bd {d : Int → Int} (hd : ∀ x, -400 ≤ d x ∧ d x ≤ 400) : ∀ k, (-400 ≤ (gapS d k).2 ∧ (gapS d k).2 ≤ 400) ∧ -200 ≤ (gapS d k).1 ∧ (gapS d k).1 ≤ -200 + k
  | 0 => by simp [gapS]
  | k + 1 => by
    have ih := gapS_bd hd k
    have h := hd (-200 + k)
    by_cases h1 : aSize (gapS d k).2 < aSize (d (-200 + k))
    · rw [gapS_yes h1]; exact ⟨h, by show -200 ≤ -200 + (k : Int); omega, by show -200 + (k : Int) ≤ _; omega⟩
    · rw [gapS_no h1]; exact ⟨ih.1, ih.2.1, by omega⟩
/-- The gap of two curves at a place. -/
def gapD (n : Nat) (xs ys : Nat → Int) (m : Nat) (us vs : Nat → Int) (x : Int) : Int := dens m us vs x - dens n xs ys x
theorem gapD_bd {n : Nat} {xs ys : Nat → Int} {m : Nat} {us vs : Nat → Int} (c : Crv n xs ys) (c' : Crv m us vs) (x : Int) : -400 ≤ gapD n xs ys m us vs x ∧ gapD n xs ys m us vs x ≤ 400 := by
  have h1 := dens_400 c x
  have h2 := dens_400 c' x
  unfold gapD
  omega

theorem l01Size_any (z : Int) (h : -1000 ≤ z) (h' : z ≤ 1000) (w : World) : Calls Try.prog 17 #[.int .i64 z] w fun e w' => e = .returned (.int .i64 (aSize z)) ∧ w = w' := by
  unfold aSize
  by_cases h0 : z < 0
  · rw [if_pos h0]
    go_enter Try.func17, Try.ntmps17
    go_wp2
    go_ret
    exact ⟨rfl, rfl⟩
  · rw [if_neg h0]
    go_enter Try.func17, Try.ntmps17
    go_wp2
    go_ret
    exact ⟨rfl, rfl⟩

theorem distance0_any (z : Int) (h : -1000 ≤ z) (h' : z ≤ 1000) (w : World) : Calls Try.prog 20 #[.int .i64 z, .int .i64 0] w fun e w' => e = .returned (.int .i64 (aSize z)) ∧ w = w' := by
  unfold aSize
  by_cases h0 : z < 0
  · rw [if_pos h0]
    have e1 : max z (-z) = -z := by omega
    go_enter Try.func20, Try.ntmps20
    go_wp2
    go_ret
    exact ⟨ret_int (by omega), rfl⟩
  · rw [if_neg h0]
    have e1 : max z (-z) = z := by omega
    go_enter Try.func20, Try.ntmps20
    go_wp2
    go_ret
    exact ⟨ret_int (by omega), rfl⟩

set_option maxRecDepth 100000 in
set_option maxHeartbeats 1000000 in
theorem l02Gap_any (b n cap : Nat) (xs ys : Nat → Int) (b' m cap' : Nat) (us vs : Nat → Int) (hn : n ≤ 1048576) (hm : m ≤ 1048576) (c : Crv n xs ys) (c' : Crv m us vs) (w : World) (hr : PtRow w b n xs ys) (hr' : PtRow w b' m us vs) :
    Calls Try.prog 10 #[.slice (some ⟨b, 0, none⟩) n cap, .slice (some ⟨b', 0, none⟩) m cap'] w fun e w' => e = .returned (.tuple #[.int .i64 (gapS (gapD n xs ys m us vs) 401).1, .int .i64 (gapS (gapD n xs ys m us vs) 401).2]) ∧ Below w.heap.size w w' := by
  have hlt := hr.lt
  have hlt' := hr'.lt
  have hA := fun (x : Int) (h : -1000 ≤ x) (h' : x ≤ 1000) W hW => l02At_any b n cap xs ys hn c x (by omega) (by omega) W hW
  have hB := fun (x : Int) (h : -1000 ≤ x) (h' : x ≤ 1000) W hW => l02At_any b' m cap' us vs hm c' x (by omega) (by omega) W hW
  have b1 := fun x => dens_400 c x
  have b2 := fun x => dens_400 c' x
  have hbd := gapS_bd (gapD_bd c c')
  have hone := gapS_one (gapD n xs ys m us vs)
  have hdd : ∀ x, gapD n xs ys m us vs x = dens m us vs x - dens n xs ys x := fun _ => rfl
  generalize gapD n xs ys m us vs = d at *
  generalize dens n xs ys = f at *
  generalize dens m us vs = g at *
  have HA := Lib.hid hA; clear hA
  have HB := Lib.hid hB; clear hB
  have B1 := Lib.hid b1; clear b1
  have B2 := Lib.hid b2; clear b2
  have Hbd := Lib.hid hbd; clear hbd
  have Hone := Lib.hid hone; clear hone
  have Hdd := Lib.hid hdd; clear hdd
  have x1 := B1.out (-200)
  have x2 := B2.out (-200)
  go_enter Try.func10, Try.ntmps10
  go_wp2_with fail
  refine (HB.out _ (by omega) (by omega) _ hr').mono ?_; rintro e w1 ⟨rfl, hb1⟩
  go_wp2_with fail
  refine (HA.out _ (by omega) (by omega) _ (hr.below hb1 hlt)).mono ?_; rintro e w2 ⟨rfl, hb2⟩
  have k2 := hb1.trans (hb2.mono hb1.size)
  go_wp2_with fail
  go_loopw [6, 7, 8] (fun a o i wr => ∃ k : Nat, 1 ≤ k ∧ k ≤ 401 ∧ i = .int .i64 (-200 + (k : Int)) ∧ a = .int .i64 (gapS d k).1 ∧ o = .int .i64 (gapS d k).2 ∧ Below w.heap.size w wr) (fun _ _ i _ => (201 - intOf i).toNat)
  case atStart => exact ⟨1, by omega, by omega, by simp, by rw [Hone.out], by rw [Hone.out, Hdd.out], k2⟩
  case round =>
    obtain ⟨k, hk1, hk, rfl, rfl, rfl, hB⟩ := hrel
    have hsz := hB.size
    have bk := Hbd.out k
    by_cases h2 : k < 401
    · have q1 := B1.out (-200 + k)
      have q2 := B2.out (-200 + k)
      have e1 := Hdd.out (-200 + k)
      have hA := HA.out (-200 + k) (by omega) (by omega)
      have hB2 := HB.out (-200 + k) (by omega) (by omega) wr (hr'.below hB hlt')
      have hy := gapS_yes (d := d) (k := k)
      have hno := gapS_no (d := d) (k := k)
      rw [e1] at hy hno
      clear e1
      generalize g (-200 + k) = G at *
      generalize f (-200 + k) = F at *
      generalize hg1 : (gapS d k).1 = at0 at *
      generalize hg2 : (gapS d k).2 = by0 at *
      have hs1 := fun W => l01Size_any (G - F) (by omega) (by omega) W
      have hs2 := fun W => l01Size_any by0 (by omega) (by omega) W
      have z1 := aSize_bd (z := G - F) (by omega) (by omega)
      have z2 := aSize_bd (z := by0) (by omega) (by omega)
      have HA2 := Lib.hid hA; clear hA
      have HB2 := Lib.hid hB2; clear hB2
      by_cases hc : aSize by0 < aSize (G - F)
      · have hy := hy hc
        clear hno
        have Hy := Lib.hid hy; clear hy hg2 hg1
        generalize aSize (G - F) = S1 at *
        generalize aSize by0 = S2 at *
        have Hs1 := Lib.hid hs1; clear hs1
        have Hs2 := Lib.hid hs2; clear hs2
        go_wp2_with fail
        refine HB2.out.mono ?_; rintro e w3 ⟨rfl, hb3⟩
        have k3 := hB.trans (hb3.mono hsz)
        go_wp2_with fail
        refine (HA2.out _ (hr.below k3 hlt)).mono ?_; rintro e w4 ⟨rfl, hb4⟩
        have k4 := k3.trans (hb4.mono k3.size)
        go_wp2_with fail
        refine (Hs1.out _).mono ?_; rintro e w5 ⟨rfl, rfl⟩
        go_wp2_with fail
        refine (Hs2.out _).mono ?_; rintro e w5 ⟨rfl, rfl⟩
        go_wp2_with fail
        go_roundw
        case rel => exact ⟨k + 1, by omega, by omega, congrArg (Value.int .i64) (by omega), by rw [Hy.out], by rw [Hy.out], k4⟩
        case measure => simp [intOf]; omega
      · have hno := hno hc
        clear hy
        have Hno := Lib.hid hno; clear hno
        have Hg2 := Lib.hid hg2; clear hg2
        have Hg1 := Lib.hid hg1; clear hg1
        generalize aSize (G - F) = S1 at *
        generalize aSize by0 = S2 at *
        have dc : decide (S2 < S1) = false := decide_eq_false hc
        have Hs1 := Lib.hid hs1; clear hs1
        have Hs2 := Lib.hid hs2; clear hs2
        go_wp2_with fail
        refine HB2.out.mono ?_; rintro e w3 ⟨rfl, hb3⟩
        have k3 := hB.trans (hb3.mono hsz)
        go_wp2_with fail
        refine (HA2.out _ (hr.below k3 hlt)).mono ?_; rintro e w4 ⟨rfl, hb4⟩
        have k4 := k3.trans (hb4.mono k3.size)
        go_wp2_with fail
        refine (Hs1.out _).mono ?_; rintro e w5 ⟨rfl, rfl⟩
        go_wp2_with fail
        refine (Hs2.out _).mono ?_; rintro e w5 ⟨rfl, rfl⟩
        go_wp2_with fail
        go_roundw
        case rel => exact ⟨k + 1, by omega, by omega, congrArg (Value.int .i64) (by omega), by rw [Hno.out, Hg1.out], by rw [Hno.out, Hg2.out], k4⟩
        case measure => simp [intOf]; omega
    · obtain rfl : k = 401 := by omega
      go_wp2_with fail
      go_ret2
      exact ⟨rfl, hB⟩
end Go.Proofs.Ytpombpphicmhmab

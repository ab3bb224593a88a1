/-
  The parts of a curve, by the program: one part's numbers; whether points lie on the scale. Condition: the numbers are int16's.
-/
import Derived.Test.YtnlcjbobfhmnmaaDoorPlainCurves
import Derived.Test.YtnlcjbobfhmnmaaDoorPts
import Derived.Test.YtnlcjbobfhmnmaaDoorQuietD
namespace Go.Proofs.YtnlcjbobfhmnmaaDoor
open Go.RowKit

theorem isPlace_any (x : Int) (w : World) : Calls Tryd.prog 85 #[.int .i64 x] w fun e w' => e = .returned (.bool (inB x (-200) 200)) ∧ w = w' := by
  go_enter Tryd.func85, Tryd.ntmps85
  go_wp2_with fail
  refine (inRange_any _ _ _ _).mono ?_; rintro e w1 ⟨rfl, rfl⟩
  go_wp2_with fail
  go_ret
  exact ⟨rfl, rfl⟩

theorem isDensity_any (x : Int) (w : World) : Calls Tryd.prog 86 #[.int .i64 x] w fun e w' => e = .returned (.bool (inB x 0 400)) ∧ w = w' := by
  go_enter Tryd.func86, Tryd.ntmps86
  go_wp2_with fail
  refine (inRange_any _ _ _ _).mono ?_; rintro e w1 ⟨rfl, rfl⟩
  go_wp2_with fail
  go_ret
  exact ⟨rfl, rfl⟩

theorem isPoint_any (x y : Int) (w : World) : Calls Tryd.prog 74 #[.int .i64 x, .int .i64 y] w fun e w' => e = .returned (.bool (ptOk x y)) ∧ w = w' := by
  have hp := fun W => isPlace_any x W
  rcases h1 : inB x (-200) 200 with _ | _
  · have e : ptOk x y = false := by simp [ptOk, h1]
    rw [e]; rw [h1] at hp
    have Hp := Lib.hid hp; clear hp h1 e
    go_enter Tryd.func74, Tryd.ntmps74
    go_wp2_with fail
    refine (Hp.out _).mono ?_; rintro e w1 ⟨rfl, rfl⟩
    go_wp2_with fail
    go_ret
    exact ⟨rfl, rfl⟩
  · have e : ptOk x y = inB y 0 400 := by simp [ptOk, h1]
    rw [e]; rw [h1] at hp
    have Hp := Lib.hid hp; clear hp h1 e
    go_enter Tryd.func74, Tryd.ntmps74
    go_wp2_with fail
    refine (Hp.out _).mono ?_; rintro e w1 ⟨rfl, rfl⟩
    go_wp2_with fail
    refine (isDensity_any y _).mono ?_; rintro e w1 ⟨rfl, rfl⟩
    go_wp2_with fail
    go_ret
    exact ⟨rfl, rfl⟩

theorem hasPoints_any (A : Option Addr) (n cap : Nat) (w : World) : Calls Tryd.prog 65 #[.slice A n cap] w fun e w' => e = .returned (.bool (decide (0 < n))) ∧ w = w' := by
  go_enter Tryd.func65, Tryd.ntmps65
  go_wp2
  go_ret
  exact ⟨ret_bool (by simp), rfl⟩

/-- A part of a curve as a value. -/
def partV (x0 y0 x1 y1 : Int) : Value := .agg #[.int .i16 x0, .int .i16 y0, .int .i16 x1, .int .i16 y1]

set_option maxHeartbeats 1000000 in
theorem partRun_any (x0 y0 x1 y1 : Int) (h0 : -32768 ≤ x0 ∧ x0 ≤ 32767) (h1 : -32768 ≤ x1 ∧ x1 ≤ 32767) (w : World) :
    Calls Tryd.prog 76 #[partV x0 y0 x1 y1] w fun e w' => e = .returned (.int .i64 (x1 - x0)) ∧ Below w.heap.size w w' := by
  unfold partV
  go_enter Tryd.func76, Tryd.ntmps76
  go_wp2
  go_ret
  exact ⟨rfl, by (repeat (first | exact Below.refl _ _ | assumption | apply Below.drew | apply below_drewL | apply below_drewP | (refine Below.alloc ?_ (by first | omega | (simp; done) | (simp; omega)) _) | (refine Below.setCell ?_ (by first | omega | (simp; done) | (simp; omega)) _)))⟩

set_option maxHeartbeats 1000000 in
theorem partRise_any (x0 y0 x1 y1 : Int) (h0 : -32768 ≤ y0 ∧ y0 ≤ 32767) (h1 : -32768 ≤ y1 ∧ y1 ≤ 32767) (w : World) :
    Calls Tryd.prog 77 #[partV x0 y0 x1 y1] w fun e w' => e = .returned (.int .i64 (y1 - y0)) ∧ Below w.heap.size w w' := by
  unfold partV
  go_enter Tryd.func77, Tryd.ntmps77
  go_wp2
  go_ret
  exact ⟨rfl, by (repeat (first | exact Below.refl _ _ | assumption | apply Below.drew | apply below_drewL | apply below_drewP | (refine Below.alloc ?_ (by first | omega | (simp; done) | (simp; omega)) _) | (refine Below.setCell ?_ (by first | omega | (simp; done) | (simp; omega)) _)))⟩

set_option maxHeartbeats 1000000 in
theorem isOnScale_any (b n cap : Nat) (xs ys : Nat → Int) (hn : n ≤ 1048576) (hs : SmallP n xs ys) (w : World) (hr : PtRow w b n xs ys) :
    Calls Tryd.prog 66 #[.slice (some ⟨b, 0, none⟩) n cap] w fun e w' => e = .returned (.bool (scaleB xs ys n)) ∧ Below w.heap.size w w' := by
  go_enter Tryd.func66, Tryd.ntmps66
  go_wp2
  go_loopw [7] (fun i wr => ∃ k : Nat, k ≤ n ∧ i = .int .i64 k ∧ scaleB xs ys k = true ∧ Below w.heap.size w wr) (fun i _ => n - (intOf i).toNat)
  case atStart => exact ⟨0, Nat.zero_le _, rfl, rfl, Below.refl _ _⟩
  case round =>
    obtain ⟨k, hk, rfl, hp, hB⟩ := hrel
    have Hp := Lib.hid hp; clear hp
    by_cases hkn : k < n
    · have hR := hr.below hB hr.lt
      have hz := hB.size
      have c0 := hR.cell0 hkn
      have c1 := hR.cell1 hkn
      have hsk := hs k hkn
      have hq := fun W => isPoint_any (xs k) (ys k) W
      rcases h1 : ptOk (xs k) (ys k) with _ | _
      · have hno : scaleB xs ys n = false := by
          rcases h : scaleB xs ys n with _ | _
          · rfl
          · rw [scaleB_iff.1 h k hkn] at h1; cases h1
        rw [h1] at hq
        have Hno := Lib.hid hno; clear hno
        have Hq := Lib.hid hq; clear hq h1
        go_wp2_with fail
        refine (Hq.out _).mono ?_; rintro e w2 ⟨rfl, rfl⟩
        go_wp2_with fail
        go_ret
        exact ⟨ret_bool Hno.out.symm, by (repeat (first | exact Below.refl _ _ | assumption | apply Below.drew | apply below_drewL | apply below_drewP | (refine Below.alloc ?_ (by first | omega | (simp; done) | (simp; omega)) _) | (refine Below.setCell ?_ (by first | omega | (simp; done) | (simp; omega)) _)))⟩
      · have hy : scaleB xs ys (k + 1) = true := by rw [scaleB, Hp.out, h1]; rfl
        rw [h1] at hq
        have Hy := Lib.hid hy; clear hy
        have Hq := Lib.hid hq; clear hq h1
        go_wp2_with fail
        refine (Hq.out _).mono ?_; rintro e w2 ⟨rfl, rfl⟩
        go_wp2_with fail
        go_roundw
        case rel => exact ⟨k + 1, by omega, by go_num, Hy.out, by (repeat (first | exact Below.refl _ _ | assumption | apply Below.drew | apply below_drewL | apply below_drewP | (refine Below.alloc ?_ (by first | omega | (simp; done) | (simp; omega)) _) | (refine Below.setCell ?_ (by first | omega | (simp; done) | (simp; omega)) _)))⟩
        case measure => simp [intOf]; omega
    · have e : k = n := by omega
      subst e
      go_wp2
      go_ret
      exact ⟨ret_bool Hp.out.symm, hB⟩
end Go.Proofs.YtnlcjbobfhmnmaaDoor

/-
  The density at an exposure, its rise, and the least and greatest density, with their codes: what the program's and the reference's functions return, for every list of at most 1048576 points. Condition of the program's: its variables hold their own errors.
-/
import Derived.Test.YtpombpphicmhmaaDoorAt
import Derived.Test.YtpombpphicmhmaaDoorAtS
import Derived.Test.YtpombpphicmhmaaDoorErrs
namespace Go.Proofs.YtpombpphicmhmaaDoor
open Go.RowKit

/-- The code of a curve and an exposure; of a curve and a density. -/
def askC (n : Nat) (xs ys : Nat → Int) (x : Int) : Int := if validC n xs ys = true then (if inB x (-200) 200 = true then 0 else 2) else 1
def denC (n : Nat) (xs ys : Nat → Int) (y : Int) : Int := if validC n xs ys = true then (if inB y 0 400 = true then 0 else 2) else 1
theorem ask_bad {n : Nat} {xs ys : Nat → Int} {x : Int} (h : validC n xs ys = false) : askC n xs ys x = 1 := by simp [askC, h]
theorem ask_far {n : Nat} {xs ys : Nat → Int} {x : Int} (h : validC n xs ys = true) (h2 : inB x (-200) 200 = false) : askC n xs ys x = 2 := by simp [askC, h, h2]
theorem ask_yes {n : Nat} {xs ys : Nat → Int} {x : Int} (h : validC n xs ys = true) (h2 : inB x (-200) 200 = true) : askC n xs ys x = 0 := by simp [askC, h, h2]
theorem den_bad {n : Nat} {xs ys : Nat → Int} {x : Int} (h : validC n xs ys = false) : denC n xs ys x = 1 := by simp [denC, h]
theorem den_far {n : Nat} {xs ys : Nat → Int} {x : Int} (h : validC n xs ys = true) (h2 : inB x 0 400 = false) : denC n xs ys x = 2 := by simp [denC, h, h2]
theorem den_yes {n : Nat} {xs ys : Nat → Int} {x : Int} (h : validC n xs ys = true) (h2 : inB x 0 400 = true) : denC n xs ys x = 0 := by simp [denC, h, h2]
/-- A number where the code is 0, else 0. -/
def ifOk (c v : Int) : Int := if c = 0 then v else 0
theorem ifOk_0 (v : Int) : ifOk 0 v = v := rfl
theorem ifOk_1 (v : Int) : ifOk 1 v = 0 := rfl
theorem ifOk_2 (v : Int) : ifOk 2 v = 0 := rfl
theorem ifOk_6 (v : Int) : ifOk 6 v = 0 := rfl

set_option maxHeartbeats 1000000 in
theorem l02Asked_any (b n cap : Nat) (xs ys : Nat → Int) (x : Int) (hn : n ≤ 1048576) (hs : SmallP n xs ys) (w : World) (hr : PtRow w b n xs ys) :
    Calls Tryd.prog 35 #[.slice (some ⟨b, 0, none⟩) n cap, .int .i64 x] w fun e w' => e = .returned (.int .i64 (askC n xs ys x)) ∧ Below w.heap.size w w' := by
  have hk := l02Ok_any b n cap xs ys hn hs
  rcases h1 : validC n xs ys with _ | _
  · rw [ask_bad h1]
    rw [h1] at hk
    have Hk := Lib.hid hk; clear hk h1
    go_enter Tryd.func35, Tryd.ntmps35
    go_wp2_with fail
    refine (Hk.out _ hr).mono ?_; rintro e w1 ⟨rfl, hb1⟩
    go_wp2_with fail
    go_ret
    exact ⟨rfl, hb1⟩
  · rw [h1] at hk
    have Hk := Lib.hid hk; clear hk
    rcases h2 : inB x (-200) 200 with _ | _
    all_goals
      first | rw [ask_far h1 h2] | rw [ask_yes h1 h2]
      have hp := fun W => l02Place_any x W
      rw [h2] at hp
      have Hp := Lib.hid hp; clear hp h1 h2
      go_enter Tryd.func35, Tryd.ntmps35
      go_wp2_with fail
      refine (Hk.out _ hr).mono ?_; rintro e w1 ⟨rfl, hb1⟩
      go_wp2_with fail
      refine (Hp.out _).mono ?_; rintro e w2 ⟨rfl, rfl⟩
      go_wp2_with fail
      go_ret
      exact ⟨rfl, hb1⟩

set_option maxHeartbeats 1000000 in
theorem l02Dense_any (b n cap : Nat) (xs ys : Nat → Int) (x : Int) (hn : n ≤ 1048576) (hs : SmallP n xs ys) (w : World) (hr : PtRow w b n xs ys) :
    Calls Tryd.prog 41 #[.slice (some ⟨b, 0, none⟩) n cap, .int .i64 x] w fun e w' => e = .returned (.int .i64 (denC n xs ys x)) ∧ Below w.heap.size w w' := by
  have hk := l02Ok_any b n cap xs ys hn hs
  rcases h1 : validC n xs ys with _ | _
  · rw [den_bad h1]
    rw [h1] at hk
    have Hk := Lib.hid hk; clear hk h1
    go_enter Tryd.func41, Tryd.ntmps41
    go_wp2_with fail
    refine (Hk.out _ hr).mono ?_; rintro e w1 ⟨rfl, hb1⟩
    go_wp2_with fail
    go_ret
    exact ⟨rfl, hb1⟩
  · rw [h1] at hk
    have Hk := Lib.hid hk; clear hk
    rcases h2 : inB x 0 400 with _ | _
    all_goals
      first | rw [den_far h1 h2] | rw [den_yes h1 h2]
      have hp := fun W => l02Density_any x W
      rw [h2] at hp
      have Hp := Lib.hid hp; clear hp h1 h2
      go_enter Tryd.func41, Tryd.ntmps41
      go_wp2_with fail
      refine (Hk.out _ hr).mono ?_; rintro e w1 ⟨rfl, hb1⟩
      go_wp2_with fail
      refine (Hp.out _).mono ?_; rintro e w2 ⟨rfl, rfl⟩
      go_wp2_with fail
      go_ret
      exact ⟨rfl, hb1⟩

set_option maxHeartbeats 1000000 in
theorem specCurveAt_any (b n cap : Nat) (xs ys : Nat → Int) (x : Int) (hn : n ≤ 1048576) (hs : SmallP n xs ys) (w : World) (hr : PtRow w b n xs ys) :
    Calls Tryd.prog 13 #[.slice (some ⟨b, 0, none⟩) n cap, .int .i64 x] w fun e w' => e = .returned (.tuple #[.int .i64 (ifOk (askC n xs ys x) (dens n xs ys x)), .int .i64 (askC n xs ys x)]) ∧ Below w.heap.size w w' := by
  have ha := l02Asked_any b n cap xs ys x hn hs
  rcases h1 : validC n xs ys with _ | _
  · rw [ask_bad h1] at ha ⊢
    rw [ifOk_1]
    have Ha := Lib.hid ha; clear ha h1
    go_enter Tryd.func13, Tryd.ntmps13
    go_wp2_with fail
    refine (Ha.out _ hr).mono ?_; rintro e w1 ⟨rfl, hb1⟩
    go_wp2_with fail
    go_ret2
    exact ⟨rfl, hb1⟩
  · rcases h2 : inB x (-200) 200 with _ | _
    · rw [ask_far h1 h2] at ha ⊢
      rw [ifOk_2]
      have Ha := Lib.hid ha; clear ha h1 h2
      go_enter Tryd.func13, Tryd.ntmps13
      go_wp2_with fail
      refine (Ha.out _ hr).mono ?_; rintro e w1 ⟨rfl, hb1⟩
      go_wp2_with fail
      go_ret2
      exact ⟨rfl, hb1⟩
    · rw [ask_yes h1 h2] at ha ⊢
      rw [ifOk_0]
      have hx := inB_true.1 h2
      have hv := fun W h => l02At_any b n cap xs ys hn (validC_crv h1).1 x (by omega) (by omega) W h
      have Ha := Lib.hid ha; clear ha h1 h2
      have Hv := Lib.hid hv; clear hv
      go_enter Tryd.func13, Tryd.ntmps13
      go_wp2_with fail
      refine (Ha.out _ hr).mono ?_; rintro e w1 ⟨rfl, hb1⟩
      go_wp2_with fail
      refine (Hv.out _ (hr.below hb1 hr.lt)).mono ?_; rintro e w2 ⟨rfl, hb2⟩
      go_wp2_with fail
      go_ret2
      exact ⟨rfl, hb1.trans (hb2.mono hb1.size)⟩

/-- What a function of the program's own gives back: a value, and an error that stands for a code. -/
def CodedX (s : Ers) (x : Value) (c : Int) (B : Nat) (w : World) (e : Ending) (w' : World) : Prop := ∃ v, IsCode s v c ∧ e = .returned (.tuple #[x, v]) ∧ Below B w w'

set_option maxHeartbeats 1000000 in
theorem curveAt_any (s : Ers) (b n cap : Nat) (xs ys : Nat → Int) (x : Int) (hn : n ≤ 1048576) (hs : SmallP n xs ys) (w : World) (hr : PtRow w b n xs ys) (hE : ErrEnv s w) :
    Calls Tryd.prog 39 #[.slice (some ⟨b, 0, none⟩) n cap, .int .i64 x] w (CodedX s (.int .i64 (ifOk (askC n xs ys x) (dens n xs ys x))) (askC n xs ys x) w.heap.size w) := by
  have hk := ValidCurve_any b n cap xs ys hn hs
  rcases h1 : validC n xs ys with _ | _
  · rw [ask_bad h1, ifOk_1]
    rw [h1] at hk
    have Hk := Lib.hid hk; clear hk h1
    go_enter Tryd.func39, Tryd.ntmps39
    go_wp2_with fail
    refine (Hk.out _ hr).mono ?_; rintro e w1 ⟨rfl, hb1⟩
    have ce := (hE.below hb1 (Nat.le_refl _)).c_einvalid
    go_wp2_with fail
    go_quiet (fail)
    go_wp2
    go_ret2
    exact ⟨_, .einvalid, rfl, below_drewL hb1 _⟩
  · rw [h1] at hk
    have Hk := Lib.hid hk; clear hk
    have hp := fun W => isPlace_any x W
    rcases h2 : inB x (-200) 200 with _ | _
    · rw [ask_far h1 h2, ifOk_2]
      rw [h2] at hp
      have Hp := Lib.hid hp; clear hp h1 h2
      go_enter Tryd.func39, Tryd.ntmps39
      go_wp2_with fail
      refine (Hk.out _ hr).mono ?_; rintro e w1 ⟨rfl, hb1⟩
      have ce := (hE.below hb1 (Nat.le_refl _)).c_erange
      go_wp2_with fail
      refine (Hp.out _).mono ?_; rintro e w2 ⟨rfl, rfl⟩
      go_wp2_with fail
      go_quiet (fail)
      go_wp2
      go_ret2
      exact ⟨_, .erange, rfl, below_drewL hb1 _⟩
    · rw [ask_yes h1 h2, ifOk_0]
      rw [h2] at hp
      have hx := inB_true.1 h2
      have hv := fun W h => at_any b n cap xs ys hn (validC_crv h1).1 x (by omega) (by omega) W h
      have Hp := Lib.hid hp; clear hp h1 h2
      have Hv := Lib.hid hv; clear hv
      go_enter Tryd.func39, Tryd.ntmps39
      go_wp2_with fail
      refine (Hk.out _ hr).mono ?_; rintro e w1 ⟨rfl, hb1⟩
      go_wp2_with fail
      refine (Hp.out _).mono ?_; rintro e w2 ⟨rfl, rfl⟩
      go_wp2_with fail
      refine (Hv.out _ (hr.below hb1 hr.lt)).mono ?_; rintro e w2 ⟨rfl, hb2⟩
      go_wp2_with fail
      go_ret2
      exact ⟨_, .ok, rfl, hb1.trans (hb2.mono hb1.size)⟩

set_option maxHeartbeats 1000000 in
theorem CurveAt_any (s : Ers) (b n cap : Nat) (xs ys : Nat → Int) (x : Int) (hn : n ≤ 1048576) (hs : SmallP n xs ys) (w : World) (hr : PtRow w b n xs ys) (hE : ErrEnv s w) :
    Calls Tryd.prog 15 #[.slice (some ⟨b, 0, none⟩) n cap, .int .i64 x] w fun e w' => e = .returned (.tuple #[.int .i64 (ifOk (askC n xs ys x) (dens n xs ys x)), .int .i64 (askC n xs ys x)]) ∧ Below w.heap.size w w' := by
  have hk := curveAt_any s b n cap xs ys x hn hs
  generalize ifOk (askC n xs ys x) (dens n xs ys x) = V at hk ⊢
  generalize askC n xs ys x = C at hk ⊢
  have Hk := Lib.hid hk; clear hk
  go_enter Tryd.func15, Tryd.ntmps15
  go_wp2_with fail
  refine (Hk.out _ hr hE).mono ?_; rintro e w1 ⟨v, hv, rfl, hb1⟩
  go_wp2_with fail
  refine (codedInt_any hv _ _ (hE.below hb1 (Nat.le_refl _))).mono ?_; rintro e w2 ⟨rfl, rfl⟩
  go_wp2_with fail
  go_ret2
  exact ⟨rfl, hb1⟩

/-! ### HOW MUCH MORE IT IS ONE STEP FURTHER -/
def riseV (n : Nat) (xs ys : Nat → Int) (x : Int) : Int := dens n xs ys (x + 1) - dens n xs ys x

set_option maxHeartbeats 1000000 in
theorem riseAt_any (s : Ers) (b n cap : Nat) (xs ys : Nat → Int) (x : Int) (hn : n ≤ 1048576) (hs : SmallP n xs ys) (w : World) (hr : PtRow w b n xs ys) (hE : ErrEnv s w) :
    Calls Tryd.prog 49 #[.slice (some ⟨b, 0, none⟩) n cap, .int .i64 x] w (CodedX s (.int .i64 (ifOk (askC n xs ys x) (riseV n xs ys x))) (askC n xs ys x) w.heap.size w) := by
  have hk := curveAt_any s b n cap xs ys x hn hs
  rcases h1 : validC n xs ys with _ | _
  · rw [ask_bad h1] at hk ⊢
    rw [ifOk_1] at hk ⊢
    have Hk := Lib.hid hk; clear hk h1
    go_enter Tryd.func49, Tryd.ntmps49
    go_wp2_with fail
    refine (Hk.out _ hr hE).mono ?_; rintro e w1 ⟨v, hv, rfl, hb1⟩
    cases hv
    go_wp2_with fail
    go_ret2
    exact ⟨_, .einvalid, rfl, hb1⟩
  · rcases h2 : inB x (-200) 200 with _ | _
    · rw [ask_far h1 h2] at hk ⊢
      rw [ifOk_2] at hk ⊢
      have Hk := Lib.hid hk; clear hk h1 h2
      go_enter Tryd.func49, Tryd.ntmps49
      go_wp2_with fail
      refine (Hk.out _ hr hE).mono ?_; rintro e w1 ⟨v, hv, rfl, hb1⟩
      cases hv
      go_wp2_with fail
      go_ret2
      exact ⟨_, .erange, rfl, hb1⟩
    · rw [ask_yes h1 h2] at hk ⊢
      rw [ifOk_0] at hk ⊢
      have hx := inB_true.1 h2
      have hc := (validC_crv h1).1
      have hv := fun W h => at_any b n cap xs ys hn hc (x + 1) (by omega) (by omega) W h
      have b1 := dens_400 hc x
      have b2 := dens_400 hc (x + 1)
      unfold riseV
      generalize dens n xs ys x = V at hk b1 ⊢
      generalize dens n xs ys (x + 1) = V1 at hv b2 ⊢
      have Hk := Lib.hid hk; clear hk h1 h2
      have Hv := Lib.hid hv; clear hv
      go_enter Tryd.func49, Tryd.ntmps49
      go_wp2_with fail
      refine (Hk.out _ hr hE).mono ?_; rintro e w1 ⟨v, hv, rfl, hb1⟩
      cases hv
      go_wp2_with fail
      refine (Hv.out _ (hr.below hb1 hr.lt)).mono ?_; rintro e w2 ⟨rfl, hb2⟩
      go_wp2_with fail
      go_ret2
      exact ⟨_, .ok, rfl, hb1.trans (hb2.mono hb1.size)⟩

set_option maxHeartbeats 1000000 in
theorem RiseAt_any (s : Ers) (b n cap : Nat) (xs ys : Nat → Int) (x : Int) (hn : n ≤ 1048576) (hs : SmallP n xs ys) (w : World) (hr : PtRow w b n xs ys) (hE : ErrEnv s w) :
    Calls Tryd.prog 24 #[.slice (some ⟨b, 0, none⟩) n cap, .int .i64 x] w fun e w' => e = .returned (.tuple #[.int .i64 (ifOk (askC n xs ys x) (riseV n xs ys x)), .int .i64 (askC n xs ys x)]) ∧ Below w.heap.size w w' := by
  have hk := riseAt_any s b n cap xs ys x hn hs
  generalize ifOk (askC n xs ys x) (riseV n xs ys x) = V at hk ⊢
  generalize askC n xs ys x = C at hk ⊢
  have Hk := Lib.hid hk; clear hk
  go_enter Tryd.func24, Tryd.ntmps24
  go_wp2_with fail
  refine (Hk.out _ hr hE).mono ?_; rintro e w1 ⟨v, hv, rfl, hb1⟩
  go_wp2_with fail
  refine (codedInt_any hv _ _ (hE.below hb1 (Nat.le_refl _))).mono ?_; rintro e w2 ⟨rfl, rfl⟩
  go_wp2_with fail
  go_ret2
  exact ⟨rfl, hb1⟩

set_option maxHeartbeats 1000000 in
theorem specRiseAt_any (b n cap : Nat) (xs ys : Nat → Int) (x : Int) (hn : n ≤ 1048576) (hs : SmallP n xs ys) (w : World) (hr : PtRow w b n xs ys) :
    Calls Tryd.prog 23 #[.slice (some ⟨b, 0, none⟩) n cap, .int .i64 x] w fun e w' => e = .returned (.tuple #[.int .i64 (ifOk (askC n xs ys x) (riseV n xs ys x)), .int .i64 (askC n xs ys x)]) ∧ Below w.heap.size w w' := by
  have ha := l02Asked_any b n cap xs ys x hn hs
  rcases h1 : validC n xs ys with _ | _
  · rw [ask_bad h1] at ha ⊢
    rw [ifOk_1]
    have Ha := Lib.hid ha; clear ha h1
    go_enter Tryd.func23, Tryd.ntmps23
    go_wp2_with fail
    refine (Ha.out _ hr).mono ?_; rintro e w1 ⟨rfl, hb1⟩
    go_wp2_with fail
    go_ret2
    exact ⟨rfl, hb1⟩
  · rcases h2 : inB x (-200) 200 with _ | _
    · rw [ask_far h1 h2] at ha ⊢
      rw [ifOk_2]
      have Ha := Lib.hid ha; clear ha h1 h2
      go_enter Tryd.func23, Tryd.ntmps23
      go_wp2_with fail
      refine (Ha.out _ hr).mono ?_; rintro e w1 ⟨rfl, hb1⟩
      go_wp2_with fail
      go_ret2
      exact ⟨rfl, hb1⟩
    · rw [ask_yes h1 h2] at ha ⊢
      rw [ifOk_0]
      have hx := inB_true.1 h2
      have hc := (validC_crv h1).1
      have hv := fun W h => l02At_any b n cap xs ys hn hc x (by omega) (by omega) W h
      have hv1 := fun W h => l02At_any b n cap xs ys hn hc (x + 1) (by omega) (by omega) W h
      have b1 := dens_400 hc x
      have b2 := dens_400 hc (x + 1)
      unfold riseV
      generalize dens n xs ys x = V at hv b1 ⊢
      generalize dens n xs ys (x + 1) = V1 at hv1 b2 ⊢
      have Ha := Lib.hid ha; clear ha h1 h2
      have Hv := Lib.hid hv; clear hv
      have Hv1 := Lib.hid hv1; clear hv1
      go_enter Tryd.func23, Tryd.ntmps23
      go_wp2_with fail
      refine (Ha.out _ hr).mono ?_; rintro e w1 ⟨rfl, hb1⟩
      go_wp2_with fail
      have hr1 := hr.below hb1 hr.lt
      refine (Hv1.out _ hr1).mono ?_; rintro e w2 ⟨rfl, hb2⟩
      go_wp2_with fail
      refine (Hv.out _ (hr1.below hb2 hr1.lt)).mono ?_; rintro e w3 ⟨rfl, hb3⟩
      go_wp2_with fail
      go_ret2
      exact ⟨rfl, hb1.trans ((hb2.trans (hb3.mono hb2.size)).mono hb1.size)⟩

end Go.Proofs.YtpombpphicmhmaaDoor

/-
  Placements and zones: what both sides' tests and sums return, for every placement. No condition of ours.
-/
import Derived.Test.YtmphmpddlgcofaaDoorFlr
import Derived.BigQuiet
namespace Go.Proofs.YtmphmpddlgcofaaDoor
open Go.RowKit

theorem below_drewP {B : Nat} {a w : World} (h : Below B a w) (n : Nat) : Below B a (w.drewN n) := ⟨h.os, h.tape, h.output, h.size, h.block⟩
/-- A placement as a value. -/
abbrev plcV (r z : Int) : Value := .agg #[.int .i8 r, .int .i8 z]
/-- Is it valid? -/
def plcB (r z : Int) : Bool := inB r 0 60 && inB z 0 10
theorem plcB_bd {r z : Int} (h : plcB r z = true) : (0 ≤ r ∧ r ≤ 60) ∧ 0 ≤ z ∧ z ≤ 10 := by
  simp only [plcB, Bool.and_eq_true] at h
  exact ⟨inB_true.1 h.1, inB_true.1 h.2⟩
/-- The zone of a reading. -/
def zonZ (r z x : Int) : Int := z + (x - r + 1) / 3
theorem zonZ_bd {r z x : Int} (hr : 0 ≤ r) (hr' : r ≤ 60) (hz : 0 ≤ z) (hz' : z ≤ 10) (hx : 0 ≤ x) (hx' : x ≤ 60) : -20 ≤ zonZ r z x ∧ zonZ r z x ≤ 30 := by
  unfold zonZ; omega
/-- A value that goes with the code 0 alone. -/
def ifS (c v : Int) : Int := if c = 0 then v else 0
theorem ifS_0 (v : Int) : ifS 0 v = v := rfl
theorem ifS_1 (v : Int) : ifS 1 v = 0 := rfl
theorem ifS_2 (v : Int) : ifS 2 v = 0 := rfl
theorem ifS_4 (v : Int) : ifS 4 v = 0 := rfl
theorem ifS_6 (v : Int) : ifS 6 v = 0 := rfl
def zonC (r z x : Int) : Int := if plcB r z = true then (if inB x 0 60 = true then 0 else 2) else 1

theorem eqPlacement_same (r z : Int) (w : World) :
    Calls Tryd.prog 13 #[plcV r z, plcV r z] w fun e w' => e = .returned (.bool true) ∧ Below w.heap.size w w' := by
  go_enter Tryd.func13, Tryd.ntmps13
  go_wp2
  go_ret
  exact ⟨rfl, ((Below.refl _ _).alloc (Nat.le_refl _) _).alloc (by simp) _⟩

theorem l06Reading_any (x : Int) (w : World) : Calls Tryd.prog 53 #[.int .i64 x] w fun e w' => e = .returned (.bool (inB x 0 60)) ∧ w = w' := by
  go_enter Tryd.func53, Tryd.ntmps53
  go_wp2_with (go_at_call 86; refine (l00In_any _ _ _ _).mono ?_; rintro e w' ⟨rfl, rfl⟩)
  go_ret
  exact ⟨rfl, rfl⟩

theorem isReading_any (x : Int) (w : World) : Calls Tryd.prog 100 #[.int .i64 x] w fun e w' => e = .returned (.bool (inB x 0 60)) ∧ w = w' := by
  go_enter Tryd.func100, Tryd.ntmps100
  go_wp2_with (go_at_call 127; refine (inRange_any _ _ _ _).mono ?_; rintro e w' ⟨rfl, rfl⟩)
  go_ret
  exact ⟨rfl, rfl⟩

theorem isZone_any (x : Int) (w : World) : Calls Tryd.prog 124 #[.int .i64 x] w fun e w' => e = .returned (.bool (inB x 0 10)) ∧ w = w' := by
  go_enter Tryd.func124, Tryd.ntmps124
  go_wp2_with (go_at_call 127; refine (inRange_any _ _ _ _).mono ?_; rintro e w' ⟨rfl, rfl⟩)
  go_ret
  exact ⟨rfl, rfl⟩

set_option maxHeartbeats 400000 in
theorem l06Placement_any (r z : Int) (hr : -128 ≤ r) (hr' : r ≤ 127) (hz : -128 ≤ z) (hz' : z ≤ 127) (w : World) :
    Calls Tryd.prog 85 #[plcV r z] w fun e w' => e = .returned (.bool (plcB r z)) ∧ Below w.heap.size w w' := by
  have ha := fun W => l06Reading_any r W
  have hb := fun W => l00In_any z 0 10 W
  unfold plcB
  generalize inB r 0 60 = A at *
  generalize inB z 0 10 = B at *
  rcases A with _ | _
  · have Ha := Lib.hid ha; clear ha hb
    go_enter Tryd.func85, Tryd.ntmps85
    go_wp2_with fail
    refine (Ha.out _).mono ?_; rintro e w1 ⟨rfl, rfl⟩
    go_wp2_with fail
    go_ret
    exact ⟨rfl, by (repeat (first | exact Below.refl _ _ | assumption | apply Below.drew | apply below_drewL | apply below_drewP | (refine Below.alloc ?_ (by first | omega | (simp; done) | (simp; omega)) _) | (refine Below.setCell ?_ (by first | omega | (simp; done) | (simp; omega)) _)))⟩
  · have Ha := Lib.hid ha; have Hb := Lib.hid hb; clear ha hb
    go_enter Tryd.func85, Tryd.ntmps85
    go_wp2_with fail
    refine (Ha.out _).mono ?_; rintro e w1 ⟨rfl, rfl⟩
    go_wp2_with fail
    refine (Hb.out _).mono ?_; rintro e w1 ⟨rfl, rfl⟩
    go_wp2_with fail
    go_ret
    exact ⟨rfl, by (repeat (first | exact Below.refl _ _ | assumption | apply Below.drew | apply below_drewL | apply below_drewP | (refine Below.alloc ?_ (by first | omega | (simp; done) | (simp; omega)) _) | (refine Below.setCell ?_ (by first | omega | (simp; done) | (simp; omega)) _)))⟩

set_option maxHeartbeats 400000 in
theorem isValid8_any (r z : Int) (hr : -128 ≤ r) (hr' : r ≤ 127) (hz : -128 ≤ z) (hz' : z ≤ 127) (w : World) :
    Calls Tryd.prog 125 #[plcV r z] w fun e w' => e = .returned (.bool (plcB r z)) ∧ Below w.heap.size w w' := by
  have ha := fun W => isReading_any r W
  have hb := fun W => isZone_any z W
  unfold plcB
  generalize inB r 0 60 = A at *
  generalize inB z 0 10 = B at *
  rcases A with _ | _
  · have Ha := Lib.hid ha; clear ha hb
    go_enter Tryd.func125, Tryd.ntmps125
    go_wp2_with fail
    refine (Ha.out _).mono ?_; rintro e w1 ⟨rfl, rfl⟩
    go_wp2_with fail
    go_ret
    exact ⟨rfl, by (repeat (first | exact Below.refl _ _ | assumption | apply Below.drew | apply below_drewL | apply below_drewP | (refine Below.alloc ?_ (by first | omega | (simp; done) | (simp; omega)) _) | (refine Below.setCell ?_ (by first | omega | (simp; done) | (simp; omega)) _)))⟩
  · have Ha := Lib.hid ha; have Hb := Lib.hid hb; clear ha hb
    go_enter Tryd.func125, Tryd.ntmps125
    go_wp2_with fail
    refine (Ha.out _).mono ?_; rintro e w1 ⟨rfl, rfl⟩
    go_wp2_with fail
    refine (Hb.out _).mono ?_; rintro e w1 ⟨rfl, rfl⟩
    go_wp2_with fail
    go_ret
    exact ⟨rfl, by (repeat (first | exact Below.refl _ _ | assumption | apply Below.drew | apply below_drewL | apply below_drewP | (refine Below.alloc ?_ (by first | omega | (simp; done) | (simp; omega)) _) | (refine Below.setCell ?_ (by first | omega | (simp; done) | (simp; omega)) _)))⟩

set_option maxHeartbeats 400000 in
theorem isPlacement_any (r z : Int) (hr : -128 ≤ r) (hr' : r ≤ 127) (hz : -128 ≤ z) (hz' : z ≤ 127) (w : World) :
    Calls Tryd.prog 88 #[plcV r z] w fun e w' => e = .returned (.bool (plcB r z)) ∧ Below w.heap.size w w' := by
  have ha := fun W => isValid8_any r z hr hr' hz hz' W
  generalize plcB r z = B at *
  have Ha := Lib.hid ha; clear ha
  have k0 := (Below.refl w.heap.size w).alloc (Nat.le_refl _) (.cells #[.int .i8 r, .int .i8 z] 25)
  have K0 := Lib.hid k0; clear k0
  go_enter Tryd.func88, Tryd.ntmps88
  go_wp2_with fail
  refine (Ha.out _).mono ?_; rintro e w1 ⟨rfl, hb1⟩
  go_wp2_with fail
  go_ret
  exact ⟨rfl, K0.out.trans (hb1.mono K0.out.size)⟩

set_option maxHeartbeats 400000 in
theorem zonesIn_any (x : Int) (hx : -900 ≤ x) (hx' : x ≤ 900) (w : World) : Calls Tryd.prog 114 #[.int .i64 x] w fun e w' => e = .returned (.int .i64 ((x + 1) / 3)) ∧ w = w' := by
  have hd := fun W => floored_any (x + 1) 3 (by omega) (by omega) (by omega) W
  have hb : -1000 ≤ (x + 1) / 3 ∧ (x + 1) / 3 ≤ 1000 := by omega
  generalize (x + 1) / 3 = Z at *
  have Hd := Lib.hid hd; clear hd
  go_enter Tryd.func114, Tryd.ntmps114
  go_wp2_with fail
  refine (Hd.out _).mono ?_; rintro e w1 ⟨rfl, rfl⟩
  go_wp2_with fail
  go_ret
  exact ⟨rfl, rfl⟩

set_option maxHeartbeats 1000000 in
theorem l06Zone_any (r z x : Int) (hr : 0 ≤ r) (hr' : r ≤ 60) (hz : 0 ≤ z) (hz' : z ≤ 10) (hx : 0 ≤ x) (hx' : x ≤ 60) (w : World) :
    Calls Tryd.prog 79 #[plcV r z, .int .i64 x] w fun e w' => e = .returned (.int .i64 (zonZ r z x)) ∧ Below w.heap.size w w' := by
  have hd := fun W => l04Down_any (x - r + 1) 3 (by omega) (by omega) (by omega) W
  unfold zonZ
  have hb : -20 ≤ (x - r + 1) / 3 ∧ (x - r + 1) / 3 ≤ 21 := by omega
  generalize (x - r + 1) / 3 = Z at *
  have e1 : IntKind.i64.wrap (x - r) = x - r := IntWalk.i64_in _ (by omega)
  have e2 : IntKind.i64.wrap (x - r + 1) = x - r + 1 := IntWalk.i64_in _ (by omega)
  have e3 : IntKind.i64.wrap (z + Z) = z + Z := IntWalk.i64_in _ (by omega)
  have e4 : IntKind.i64.wrap r = r := IntWalk.i64_in _ (by omega)
  have e5 : IntKind.i64.wrap z = z := IntWalk.i64_in _ (by omega)
  have Hd := Lib.hid hd; clear hd
  go_enter Tryd.func79, Tryd.ntmps79
  go_wp2_with fail
  go_quiet ((go_at_call 119; exact (Hd.out _).mono fun e w' ⟨he, hw⟩ => ⟨he, _, hw.symm⟩))
  go_wp2
  go_ret
  exact ⟨rfl, by (repeat (first | exact Below.refl _ _ | assumption | apply Below.drew | apply below_drewL | apply below_drewP | (refine Below.alloc ?_ (by first | omega | (simp; done) | (simp; omega)) _) | (refine Below.setCell ?_ (by first | omega | (simp; done) | (simp; omega)) _)))⟩

set_option maxHeartbeats 1000000 in
theorem zoneOfP_any (r z x : Int) (hr : 0 ≤ r) (hr' : r ≤ 60) (hz : 0 ≤ z) (hz' : z ≤ 10) (hx : 0 ≤ x) (hx' : x ≤ 60) (w : World) :
    Calls Tryd.prog 117 #[plcV r z, .int .i64 x] w fun e w' => e = .returned (.int .i64 (zonZ r z x)) ∧ Below w.heap.size w w' := by
  have hd := fun W => zonesIn_any (x - r) (by omega) (by omega) W
  unfold zonZ
  have hb : -20 ≤ (x - r + 1) / 3 ∧ (x - r + 1) / 3 ≤ 21 := by omega
  generalize (x - r + 1) / 3 = Z at *
  have e1 : IntKind.i64.wrap (x - r) = x - r := IntWalk.i64_in _ (by omega)
  have e2 : IntKind.i64.wrap (x - r + 1) = x - r + 1 := IntWalk.i64_in _ (by omega)
  have e3 : IntKind.i64.wrap (z + Z) = z + Z := IntWalk.i64_in _ (by omega)
  have e4 : IntKind.i64.wrap r = r := IntWalk.i64_in _ (by omega)
  have e5 : IntKind.i64.wrap z = z := IntWalk.i64_in _ (by omega)
  have Hd := Lib.hid hd; clear hd
  go_enter Tryd.func117, Tryd.ntmps117
  go_wp2_with fail
  go_quiet ((go_at_call 114; exact (Hd.out _).mono fun e w' ⟨he, hw⟩ => ⟨he, _, hw.symm⟩))
  go_wp2
  go_ret
  exact ⟨rfl, by (repeat (first | exact Below.refl _ _ | assumption | apply Below.drew | apply below_drewL | apply below_drewP | (refine Below.alloc ?_ (by first | omega | (simp; done) | (simp; omega)) _) | (refine Below.setCell ?_ (by first | omega | (simp; done) | (simp; omega)) _)))⟩

set_option maxHeartbeats 400000 in
theorem moreThirds_any (r z : Int) (hz : -128 ≤ z) (hz' : z ≤ 127) (w : World) :
    Calls Tryd.prog 89 #[plcV r z] w fun e w' => e = .returned (.int .i64 (3 * (z - 5))) ∧ Below w.heap.size w w' := by
  go_enter Tryd.func89, Tryd.ntmps89
  go_wp2_with fail
  go_ret
  exact ⟨rfl, by (repeat (first | exact Below.refl _ _ | assumption | apply Below.drew | apply below_drewL | apply below_drewP | (refine Below.alloc ?_ (by first | omega | (simp; done) | (simp; omega)) _) | (refine Below.setCell ?_ (by first | omega | (simp; done) | (simp; omega)) _)))⟩
end Go.Proofs.YtmphmpddlgcofaaDoor

/-
  Placements: ZoneOf of both sides, for every placement and reading. Condition of the program's: its variables hold their own errors.
-/
import Derived.Test.YtmphmpddlgcofaaDoorPlc
import Derived.Test.YtmphmpddlgcofaaDoorErrs
namespace Go.Proofs.YtmphmpddlgcofaaDoor
open Go.RowKit

/-- What a function of the program's own gives back: a value, and an error that stands for a code. -/
def CodedP (s : Ers) (x : Value) (c : Int) (B : Nat) (w : World) (e : Ending) (w' : World) : Prop := ∃ v, IsCode s v c ∧ e = .returned (.tuple #[x, v]) ∧ Below B w w'

set_option maxHeartbeats 1000000 in
theorem zoneOf_any (s : Ers) (r z x : Int) (hr : -128 ≤ r) (hr' : r ≤ 127) (hz : -128 ≤ z) (hz' : z ≤ 127) (w : World) (hE : ErrEnv s w) :
    Calls Tryd.prog 75 #[plcV r z, .int .i64 x] w (CodedP s (.int .i64 (ifS (zonC r z x) (zonZ r z x))) (zonC r z x) w.heap.size w) := by
  have k0 := (Below.refl w.heap.size w).alloc (Nat.le_refl _) (.cells #[.int .i8 r, .int .i8 z] 25)
  have hp := fun W => isPlacement_any r z hr hr' hz hz' W
  have hx := fun W => isReading_any x W
  unfold zonC
  rcases h1 : plcB r z with _ | _
  · simp only [Bool.false_eq_true, if_false, ifS_1]
    rw [h1] at hp
    have Hp := Lib.hid hp; clear hp hx h1
    have HE := Lib.hid hE; clear hE
    go_enter Tryd.func75, Tryd.ntmps75
    go_wp2_with fail
    refine (Hp.out _).mono ?_; rintro e w1 ⟨rfl, hb1⟩
    have k1 := k0.trans (hb1.mono k0.size)
    have ce := (HE.out.below k1 (Nat.le_refl _)).c_einvalid
    go_wp2_with fail
    go_quiet (fail)
    go_wp2
    go_ret2
    exact ⟨_, .einvalid, rfl, by (repeat (first | exact Below.refl _ _ | assumption | apply Below.drew | apply below_drewL | apply below_drewP | (refine Below.alloc ?_ (by first | omega | (simp; done) | (simp; omega)) _) | (refine Below.setCell ?_ (by first | omega | (simp; done) | (simp; omega)) _)))⟩
  have b := plcB_bd h1
  rw [h1] at hp
  have Hp := Lib.hid hp; clear hp
  rcases h2 : inB x 0 60 with _ | _
  · simp only [Bool.false_eq_true, if_false, if_true, ifS_2]
    rw [h2] at hx
    have Hx := Lib.hid hx; clear hx h1 h2 b
    have HE := Lib.hid hE; clear hE
    go_enter Tryd.func75, Tryd.ntmps75
    go_wp2_with fail
    refine (Hp.out _).mono ?_; rintro e w1 ⟨rfl, hb1⟩
    have k1 := k0.trans (hb1.mono k0.size)
    go_wp2_with fail
    refine (Hx.out _).mono ?_; rintro e w2 ⟨rfl, rfl⟩
    have ce := (HE.out.below k1 (Nat.le_refl _)).c_erange
    go_wp2_with fail
    go_quiet (fail)
    go_wp2
    go_ret2
    exact ⟨_, .erange, rfl, by (repeat (first | exact Below.refl _ _ | assumption | apply Below.drew | apply below_drewL | apply below_drewP | (refine Below.alloc ?_ (by first | omega | (simp; done) | (simp; omega)) _) | (refine Below.setCell ?_ (by first | omega | (simp; done) | (simp; omega)) _)))⟩
  · simp only [if_true, ifS_0]
    have bx := inB_true.1 h2
    rw [h2] at hx
    have hzn := fun W => zoneOfP_any r z x b.1.1 b.1.2 b.2.1 b.2.2 bx.1 bx.2 W
    generalize zonZ r z x = Z at *
    have Hx := Lib.hid hx; have Hz := Lib.hid hzn; clear hx hzn h1 h2
    have q0 : (w.alloc (.cells #[.int .i8 r, .int .i8 z] 25)).cell? ⟨w.heap.size, 0, none⟩ = some (.int .i8 r) := by simp
    have q1 : (w.alloc (.cells #[.int .i8 r, .int .i8 z] 25)).cell? ⟨w.heap.size, 1, none⟩ = some (.int .i8 z) := by simp
    have Q := Lib.hid (And.intro q0 q1); clear q0 q1
    go_enter Tryd.func75, Tryd.ntmps75
    go_wp2_with fail
    refine (Hp.out _).mono ?_; rintro e w1 ⟨rfl, hb1⟩
    have k1 := k0.trans (hb1.mono k0.size)
    have c0 := below_cellOf hb1 Q.out.1 (Nat.le_refl _)
    have c1 := below_cellOf hb1 Q.out.2 (Nat.le_refl _)
    clear hb1 k0
    go_wp2_with fail
    refine (Hx.out _).mono ?_; rintro e w2 ⟨rfl, rfl⟩
    go_wp2_with fail
    refine (Hz.out _).mono ?_; rintro e w3 ⟨rfl, hb3⟩
    go_wp2_with fail
    go_ret2
    exact ⟨_, .ok, rfl, k1.trans (hb3.mono k1.size)⟩

set_option maxHeartbeats 1000000 in
theorem ZoneOf_any (s : Ers) (r z x : Int) (hr : -128 ≤ r) (hr' : r ≤ 127) (hz : -128 ≤ z) (hz' : z ≤ 127) (w : World) (hE : ErrEnv s w) :
    Calls Tryd.prog 32 #[plcV r z, .int .i64 x] w fun e w' => e = .returned (.tuple #[.int .i64 (ifS (zonC r z x) (zonZ r z x)), .int .i64 (zonC r z x)]) ∧ Below w.heap.size w w' := by
  have k0 := (Below.refl w.heap.size w).alloc (Nat.le_refl _) (.cells #[.int .i8 r, .int .i8 z] 25)
  have hk := fun W h => zoneOf_any s r z x hr hr' hz hz' W h
  generalize ifS (zonC r z x) (zonZ r z x) = V at *
  generalize zonC r z x = C at *
  have Hk := Lib.hid hk; clear hk
  have HE := Lib.hid hE; clear hE
  go_enter Tryd.func32, Tryd.ntmps32
  go_wp2_with fail
  refine (Hk.out _ (HE.out.below k0 (Nat.le_refl _))).mono ?_; rintro e w1 ⟨v, hv, rfl, hb1⟩
  have k1 := k0.trans (hb1.mono k0.size)
  go_wp2_with fail
  refine (codedInt_any hv _ _ (HE.out.below k1 (Nat.le_refl _))).mono ?_; rintro e w2 ⟨rfl, rfl⟩
  go_wp2_with fail
  go_ret2
  exact ⟨rfl, k1⟩
end Go.Proofs.YtmphmpddlgcofaaDoor

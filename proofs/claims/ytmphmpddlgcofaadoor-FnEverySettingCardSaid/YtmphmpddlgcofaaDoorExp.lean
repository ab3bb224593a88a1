/-
  How many thirds more light: what both sides return, for every placement; and the walk of the law FnExactExposureThirds. No condition.
-/
import Derived.Test.YtmphmpddlgcofaaDoorPlc
namespace Go.Proofs.YtmphmpddlgcofaaDoor
open Go.RowKit

def exC (r z : Int) : Int := if plcB r z = true then 0 else 1

set_option maxHeartbeats 1000000 in
theorem ExposureThirds_any (r z : Int) (hr : -128 ≤ r) (hr' : r ≤ 127) (hz : -128 ≤ z) (hz' : z ≤ 127) (w : World) :
    Calls Tryd.prog 43 #[plcV r z] w fun e w' => e = .returned (.tuple #[.int .i64 (ifS (exC r z) (3 * (z - 5))), .int .i64 (exC r z)]) ∧ Below w.heap.size w w' := by
  have k0 := (Below.refl w.heap.size w).alloc (Nat.le_refl _) (.cells #[.int .i8 r, .int .i8 z] 25)
  have hp := fun W => isPlacement_any r z hr hr' hz hz' W
  have q0 : (w.alloc (.cells #[.int .i8 r, .int .i8 z] 25)).cell? ⟨w.heap.size, 0, none⟩ = some (.int .i8 r) := by simp
  have q1 : (w.alloc (.cells #[.int .i8 r, .int .i8 z] 25)).cell? ⟨w.heap.size, 1, none⟩ = some (.int .i8 z) := by simp
  have Q := Lib.hid (And.intro q0 q1); clear q0 q1
  have K0 := Lib.hid k0; clear k0
  unfold exC
  rcases h1 : plcB r z with _ | _
  · simp only [Bool.false_eq_true, if_false, ifS_1]
    rw [h1] at hp
    have Hp := Lib.hid hp; clear hp h1
    go_enter Tryd.func43, Tryd.ntmps43
    go_wp2_with fail
    refine (Hp.out _).mono ?_; rintro e w1 ⟨rfl, hb1⟩
    go_wp2_with fail
    go_ret2
    exact ⟨rfl, K0.out.trans (hb1.mono K0.out.size)⟩
  · simp only [if_true, ifS_0]
    rw [h1] at hp
    have Hp := Lib.hid hp; clear hp h1
    go_enter Tryd.func43, Tryd.ntmps43
    go_wp2_with fail
    refine (Hp.out _).mono ?_; rintro e w1 ⟨rfl, hb1⟩
    have k1 := K0.out.trans (hb1.mono K0.out.size)
    have c0 := below_cellOf hb1 Q.out.1 (Nat.le_refl _)
    have c1 := below_cellOf hb1 Q.out.2 (Nat.le_refl _)
    clear hb1
    go_wp2_with fail
    refine (moreThirds_any r z hz hz' _).mono ?_; rintro e w2 ⟨rfl, hb2⟩
    have k2 := k1.trans (hb2.mono k1.size)
    clear c0 c1 k1 hb2
    go_wp2_with fail
    go_ret2
    exact ⟨rfl, by (repeat (first | exact Below.refl _ _ | assumption | apply Below.drew | apply below_drewL | apply below_drewP | (refine Below.alloc ?_ (by first | omega | (simp; done) | (simp; omega)) _) | (refine Below.setCell ?_ (by first | omega | (simp; done) | (simp; omega)) _)))⟩

end Go.Proofs.YtmphmpddlgcofaaDoor

/-
  A reading of a cell: what both sides return, for every scene and numbers. Condition of the program's: its variables hold their own errors.
-/
import Derived.Test.YtaanboedhabheaaDoorScn
import Derived.Test.YtaanboedhabheaaDoorPlcI
namespace Go.Proofs.YtaanboedhabheaaDoor
open Go.RowKit

def rdC (f : Nat → Int) (x y : Int) : Int := if scnB f = true then (if inB x 0 5 = true then (if inB y 0 3 = true then 0 else 2) else 2) else 1

set_option maxRecDepth 100000 in
set_option maxHeartbeats 1000000 in
theorem specReadingAt_any (f : Nat → Int) (hf : S8 f) (x y : Int) (w : World) :
    Calls Tryd.prog 15 #[.agg (arrV .i8 24 f), .int .i64 x, .int .i64 y] w fun e w' => e = .returned (.tuple #[.int .i64 (ifS (rdC f x y) (f (x + 6 * y).toNat)), .int .i64 (rdC f x y)]) ∧ Below w.heap.size w w' := by
  have a1 := HasArr.new w 26 .i8 24 f
  have k0 := (Below.refl w.heap.size w).alloc (Nat.le_refl _) (.cells (arrV .i8 24 f) 26)
  have hok := fun W h => l06Ok_any w.heap.size 26 f hf W h
  have hx := fun W => l00In_any x 0 5 W
  have hy := fun W => l00In_any y 0 3 W
  unfold rdC
  rcases hv : scnB f with _ | _
  · simp only [Bool.false_eq_true, if_false, ifS_1]
    rw [hv] at hok
    have Hok := Lib.hid hok; clear hok hv hx hy
    go_enter Tryd.func15, Tryd.ntmps15
    go_wp2_with fail
    refine (Hok.out _ a1).mono ?_; rintro e w1 ⟨rfl, rfl⟩
    go_wp2_with fail
    go_ret2
    exact ⟨rfl, k0⟩
  rw [hv] at hok
  have Hok := Lib.hid hok; clear hok hv
  rcases h1 : inB x 0 5 with _ | _
  · simp only [Bool.false_eq_true, if_false, if_true, ifS_2]
    rw [h1] at hx
    have Hx := Lib.hid hx; clear hx h1 hy
    go_enter Tryd.func15, Tryd.ntmps15
    go_wp2_with fail
    refine (Hok.out _ a1).mono ?_; rintro e w1 ⟨rfl, rfl⟩
    go_wp2_with fail
    refine (Hx.out _).mono ?_; rintro e w2 ⟨rfl, rfl⟩
    go_wp2_with fail
    go_ret2
    exact ⟨rfl, k0⟩
  rcases h2 : inB y 0 3 with _ | _
  · simp only [Bool.false_eq_true, if_false, if_true, ifS_2]
    rw [h1] at hx
    rw [h2] at hy
    have Hx := Lib.hid hx; have Hy := Lib.hid hy; clear hx h1 hy h2
    go_enter Tryd.func15, Tryd.ntmps15
    go_wp2_with fail
    refine (Hok.out _ a1).mono ?_; rintro e w1 ⟨rfl, rfl⟩
    go_wp2_with fail
    refine (Hx.out _).mono ?_; rintro e w2 ⟨rfl, rfl⟩
    go_wp2_with fail
    refine (Hy.out _).mono ?_; rintro e w2 ⟨rfl, rfl⟩
    go_wp2_with fail
    go_ret2
    exact ⟨rfl, k0⟩
  · simp only [if_true, ifS_0]
    have bx := inB_true.1 h1
    have bby := inB_true.1 h2
    rw [h1] at hx
    rw [h2] at hy
    clear h1 h2
    obtain ⟨X, rfl⟩ := Int.eq_ofNat_of_zero_le bx.1
    obtain ⟨Y, rfl⟩ := Int.eq_ofNat_of_zero_le bby.1
    have hlt : X + 6 * Y < 24 := by omega
    rw [show ((X : Int) + 6 * (Y : Int)).toNat = X + 6 * Y by omega]
    have c := a1.cell hlt
    have bc := hf _ hlt
    generalize f (X + 6 * Y) = V at *
    have Hx := Lib.hid hx; have Hy := Lib.hid hy; clear hx hy
    go_enter Tryd.func15, Tryd.ntmps15
    go_wp2_with fail
    refine (Hok.out _ a1).mono ?_; rintro e w1 ⟨rfl, rfl⟩
    go_wp2_with fail
    refine (Hx.out _).mono ?_; rintro e w2 ⟨rfl, rfl⟩
    go_wp2_with fail
    refine (Hy.out _).mono ?_; rintro e w2 ⟨rfl, rfl⟩
    go_wp2_with fail
    go_ret2
    exact ⟨rfl, k0⟩

set_option maxRecDepth 100000 in
set_option maxHeartbeats 1000000 in
theorem readingAt_any (s : Ers) (f : Nat → Int) (hf : S8 f) (x y : Int) (w : World) (hE : ErrEnv s w) :
    Calls Tryd.prog 49 #[.agg (arrV .i8 24 f), .int .i64 x, .int .i64 y] w (CodedP s (.int .i64 (ifS (rdC f x y) (f (x + 6 * y).toNat))) (rdC f x y) w.heap.size w) := by
  have a1 := HasArr.new w 26 .i8 24 f
  have k0 := (Below.refl w.heap.size w).alloc (Nat.le_refl _) (.cells (arrV .i8 24 f) 26)
  have hok := fun W => ValidScene_any f W
  have hx := fun W => inRange_any x 0 5 W
  have hy := fun W => inRange_any y 0 3 W
  have HE := Lib.hid hE; clear hE
  unfold rdC
  rcases hv : scnB f with _ | _
  · simp only [Bool.false_eq_true, if_false, ifS_1]
    rw [hv] at hok
    have Hok := Lib.hid hok; clear hok hv hx hy
    go_enter Tryd.func49, Tryd.ntmps49
    go_wp2_with (refine wpList_load_arr a1 _ _ rfl rfl rfl Tryd.underlying26 sizeScn ?_)
    refine (Hok.out _).mono ?_; rintro e w1 ⟨rfl, hb1⟩
    have k1 := k0.trans (hb1.mono k0.size)
    clear a1 hb1 k0
    have ce := (HE.out.below k1 (Nat.le_refl _)).c_einvalid
    go_wp2_with fail
    go_quiet (fail)
    go_wp2
    go_ret2
    exact ⟨_, .einvalid, rfl, by (repeat (first | exact Below.refl _ _ | assumption | apply Below.drew | apply below_drewL | apply below_drewP | (refine Below.alloc ?_ (by first | omega | (simp; done) | (simp; omega)) _) | (refine Below.setCell ?_ (by first | omega | (simp; done) | (simp; omega)) _)))⟩
  rw [hv] at hok
  have Hok := Lib.hid hok; clear hok hv
  rcases h1 : inB x 0 5 with _ | _
  · simp only [Bool.false_eq_true, if_false, if_true, ifS_2]
    rw [h1] at hx
    have Hx := Lib.hid hx; clear hx h1 hy
    go_enter Tryd.func49, Tryd.ntmps49
    go_wp2_with (refine wpList_load_arr a1 _ _ rfl rfl rfl Tryd.underlying26 sizeScn ?_)
    refine (Hok.out _).mono ?_; rintro e w1 ⟨rfl, hb1⟩
    have k1 := k0.trans (hb1.mono k0.size)
    clear a1 hb1 k0
    go_wp2_with fail
    refine (Hx.out _).mono ?_; rintro e w2 ⟨rfl, rfl⟩
    have ce := (HE.out.below k1 (Nat.le_refl _)).c_erange
    go_wp2_with fail
    go_quiet (fail)
    go_wp2
    go_ret2
    exact ⟨_, .erange, rfl, by (repeat (first | exact Below.refl _ _ | assumption | apply Below.drew | apply below_drewL | apply below_drewP | (refine Below.alloc ?_ (by first | omega | (simp; done) | (simp; omega)) _) | (refine Below.setCell ?_ (by first | omega | (simp; done) | (simp; omega)) _)))⟩
  rcases h2 : inB y 0 3 with _ | _
  · simp only [Bool.false_eq_true, if_false, if_true, ifS_2]
    rw [h1] at hx
    rw [h2] at hy
    have Hx := Lib.hid hx; have Hy := Lib.hid hy; clear hx h1 hy h2
    go_enter Tryd.func49, Tryd.ntmps49
    go_wp2_with (refine wpList_load_arr a1 _ _ rfl rfl rfl Tryd.underlying26 sizeScn ?_)
    refine (Hok.out _).mono ?_; rintro e w1 ⟨rfl, hb1⟩
    have k1 := k0.trans (hb1.mono k0.size)
    clear a1 hb1 k0
    go_wp2_with fail
    refine (Hx.out _).mono ?_; rintro e w2 ⟨rfl, rfl⟩
    go_wp2_with fail
    refine (Hy.out _).mono ?_; rintro e w2 ⟨rfl, rfl⟩
    have ce := (HE.out.below k1 (Nat.le_refl _)).c_erange
    go_wp2_with fail
    go_quiet (fail)
    go_wp2
    go_ret2
    exact ⟨_, .erange, rfl, by (repeat (first | exact Below.refl _ _ | assumption | apply Below.drew | apply below_drewL | apply below_drewP | (refine Below.alloc ?_ (by first | omega | (simp; done) | (simp; omega)) _) | (refine Below.setCell ?_ (by first | omega | (simp; done) | (simp; omega)) _)))⟩
  · simp only [if_true, ifS_0]
    have bx := inB_true.1 h1
    have bby := inB_true.1 h2
    rw [h1] at hx
    rw [h2] at hy
    clear h1 h2
    obtain ⟨X, rfl⟩ := Int.eq_ofNat_of_zero_le bx.1
    obtain ⟨Y, rfl⟩ := Int.eq_ofNat_of_zero_le bby.1
    have hlt : X + 6 * Y < 24 := by omega
    rw [show ((X : Int) + 6 * (Y : Int)).toNat = X + 6 * Y by omega]
    have hrd := fun W => readingS_any f (X + 6 * Y) hlt hf W
    push_cast at hrd
    generalize f (X + 6 * Y) = V at *
    have Hrd := Lib.hid hrd; clear hrd
    have Hx := Lib.hid hx; have Hy := Lib.hid hy; clear hx hy
    go_enter Tryd.func49, Tryd.ntmps49
    go_wp2_with (refine wpList_load_arr a1 _ _ rfl rfl rfl Tryd.underlying26 sizeScn ?_)
    refine (Hok.out _).mono ?_; rintro e w1 ⟨rfl, hb1⟩
    have k1 := k0.trans (hb1.mono k0.size)
    have b1 := a1.below hb1 a1.lt
    clear a1 hb1 k0
    go_wp2_with fail
    refine (Hx.out _).mono ?_; rintro e w2 ⟨rfl, rfl⟩
    go_wp2_with fail
    refine (Hy.out _).mono ?_; rintro e w2 ⟨rfl, rfl⟩
    go_wp2_with (refine wpList_load_arr b1 _ _ rfl rfl rfl Tryd.underlying26 sizeScn ?_)
    refine (Hrd.out _).mono ?_; rintro e w4 ⟨rfl, hb4⟩
    go_wp2_with fail
    go_ret2
    exact ⟨_, .ok, rfl, k1.trans (hb4.mono k1.size)⟩

set_option maxRecDepth 100000 in
set_option maxHeartbeats 1000000 in
theorem ReadingAt_any (s : Ers) (f : Nat → Int) (hf : S8 f) (x y : Int) (w : World) (hE : ErrEnv s w) :
    Calls Tryd.prog 17 #[.agg (arrV .i8 24 f), .int .i64 x, .int .i64 y] w fun e w' => e = .returned (.tuple #[.int .i64 (ifS (rdC f x y) (f (x + 6 * y).toNat)), .int .i64 (rdC f x y)]) ∧ Below w.heap.size w w' := by
  have a1 := HasArr.new w 26 .i8 24 f
  have k0 := (Below.refl w.heap.size w).alloc (Nat.le_refl _) (.cells (arrV .i8 24 f) 26)
  have hk := fun W h => readingAt_any s f hf x y W h
  generalize ifS (rdC f x y) (f (x + 6 * y).toNat) = V at *
  generalize rdC f x y = C at *
  have Hk := Lib.hid hk; clear hk
  have HE := Lib.hid hE; clear hE
  go_enter Tryd.func17, Tryd.ntmps17
  go_wp2_with (refine wpList_load_arr a1 _ _ rfl rfl rfl Tryd.underlying26 sizeScn ?_)
  refine (Hk.out _ (HE.out.below k0 (Nat.le_refl _))).mono ?_; rintro e w1 ⟨v, hv, rfl, hb1⟩
  have k1 := k0.trans (hb1.mono k0.size)
  go_wp2_with fail
  refine (codedInt_any hv _ _ (HE.out.below k1 (Nat.le_refl _))).mono ?_; rintro e w2 ⟨rfl, rfl⟩
  go_wp2_with fail
  go_ret2
  exact ⟨rfl, k1⟩
end Go.Proofs.YtaanboedhabheaaDoor

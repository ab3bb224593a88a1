/-
  The light for another paper, for one light and for all: by the program and by the reference, for every two lists of at most 1048576 points. Condition of the program's: its variables hold their own errors.
-/
import Derived.Test.YtkhahffdacopdaaDoorShade
import Derived.Test.YtkhahffdacopdaaDoorStrip
namespace Go.Proofs.YtkhahffdacopdaaDoor
open Go.RowKit

/-- The code of two papers, and of a light beside. -/
def twoC (n : Nat) (xs ys : Nat → Int) (m : Nat) (us vs : Nat → Int) : Int := if (validC n xs ys && validC m us vs) = true then 0 else 1
def cvtC (n : Nat) (xs ys : Nat → Int) (m : Nat) (us vs : Nat → Int) (x : Int) : Int := if (validC n xs ys && validC m us vs) = true then (if inB x 0 36 = true then leaC (shdF m us vs 0) (dens n xs ys x) else 2) else 1
theorem two_1 {n : Nat} {xs ys : Nat → Int} {m : Nat} {us vs : Nat → Int} (h : validC n xs ys = false) : twoC n xs ys m us vs = 1 := by simp [twoC, h]
theorem two_1' {n : Nat} {xs ys : Nat → Int} {m : Nat} {us vs : Nat → Int} (h : validC m us vs = false) : twoC n xs ys m us vs = 1 := by simp [twoC, h]
theorem two_0 {n : Nat} {xs ys : Nat → Int} {m : Nat} {us vs : Nat → Int} (h : validC n xs ys = true) (h2 : validC m us vs = true) : twoC n xs ys m us vs = 0 := by simp [twoC, h, h2]
theorem cvt_1 {n : Nat} {xs ys : Nat → Int} {m : Nat} {us vs : Nat → Int} {x : Int} (h : validC n xs ys = false) : cvtC n xs ys m us vs x = 1 := by simp [cvtC, h]
theorem cvt_1' {n : Nat} {xs ys : Nat → Int} {m : Nat} {us vs : Nat → Int} {x : Int} (h : validC m us vs = false) : cvtC n xs ys m us vs x = 1 := by simp [cvtC, h]
theorem cvt_2 {n : Nat} {xs ys : Nat → Int} {m : Nat} {us vs : Nat → Int} {x : Int} (h : validC n xs ys = true) (h2 : validC m us vs = true) (h3 : inB x 0 36 = false) : cvtC n xs ys m us vs x = 2 := by simp [cvtC, h, h2, h3]
theorem cvt_0 {n : Nat} {xs ys : Nat → Int} {m : Nat} {us vs : Nat → Int} {x : Int} (h : validC n xs ys = true) (h2 : validC m us vs = true) (h3 : inB x 0 36 = true) : cvtC n xs ys m us vs x = leaC (shdF m us vs 0) (dens n xs ys x) := by simp [cvtC, h, h2, h3]
/-- The least light as the reference tells it. -/
theorem leaR_bd (f : Nat → Int) (y : Int) : -1 ≤ leaR f y ∧ leaR f y ≤ 36 := by
  have := leaK_le f y
  unfold leaR
  split <;> omega
theorem lea_or (f : Nat → Int) (y : Int) : (leaC f y = 6 ∧ leaR f y = -1) ∨ (leaC f y = 0 ∧ leaR f y = (leaK f y : Nat) ∧ 0 ≤ leaR f y) := by
  rcases Nat.lt_or_ge (leaK f y) 37 with h | h
  · refine .inr ⟨leaC_0 h, leaR_yes rfl h, ?_⟩
    rw [leaR_yes rfl h]; omega
  · have h2 : leaK f y = 37 := by have := leaK_le f y; omega
    exact .inl ⟨leaC_6 h2, leaR_no h2⟩

section
variable (g n cap : Nat) (xs ys : Nat → Int) (g' m cap' : Nat) (us vs : Nat → Int)
set_option maxRecDepth 100000 in
set_option maxHeartbeats 2000000 in
theorem specConvertLight_any (x : Int) (hn : n ≤ 1048576) (hs : SmallP n xs ys) (hm : m ≤ 1048576) (hs' : SmallP m us vs) (w : World) (hr : PtRow w g n xs ys) (hr' : PtRow w g' m us vs) :
    Calls Tryd.prog 42 #[.slice (some ⟨g, 0, none⟩) n cap, .slice (some ⟨g', 0, none⟩) m cap', .int .i64 x] w fun e w' => e = .returned (.tuple #[.int .i64 (ifOk (cvtC n xs ys m us vs x) (leaK (shdF m us vs 0) (dens n xs ys x) : Nat)), .int .i64 (cvtC n xs ys m us vs x)]) ∧ Below w.heap.size w w' := by
  have hlt := hr.lt
  have hlt' := hr'.lt
  have hk := fun W hW => l02Ok_any g n cap xs ys hn hs W hW
  have hk' := fun W hW => l02Ok_any g' m cap' us vs hm hs' W hW
  rcases h : validC n xs ys with _ | _
  · rw [cvt_1 h, ifOk_1]
    rw [h] at hk
    have Hk := Lib.hid hk; clear hk h
    go_enter Tryd.func42, Tryd.ntmps42
    go_wp2_with fail
    refine (Hk.out _ hr).mono ?_; rintro e w1 ⟨rfl, hb1⟩
    go_wp2_with fail
    go_ret2
    exact ⟨rfl, hb1⟩
  rw [h] at hk
  have Hk := Lib.hid hk; clear hk
  rcases h2 : validC m us vs with _ | _
  · rw [cvt_1' h2, ifOk_1]
    rw [h2] at hk'
    have Hk' := Lib.hid hk'; clear hk' h h2
    go_enter Tryd.func42, Tryd.ntmps42
    go_wp2_with fail
    refine (Hk.out _ hr).mono ?_; rintro e w1 ⟨rfl, hb1⟩
    go_wp2_with fail
    refine (Hk'.out _ (hr'.below hb1 hlt')).mono ?_; rintro e w2 ⟨rfl, hb2⟩
    go_wp2_with fail
    go_ret2
    exact ⟨rfl, hb1.trans (hb2.mono hb1.size)⟩
  rw [h2] at hk'
  have Hk' := Lib.hid hk'; clear hk'
  have hp := fun W => thirdsT_any x W
  rcases h3 : inB x 0 36 with _ | _
  · rw [cvt_2 h h2 h3, ifOk_2]
    rw [h3] at hp
    have Hp := Lib.hid hp; clear hp h h2 h3
    go_enter Tryd.func42, Tryd.ntmps42
    go_wp2_with fail
    refine (Hk.out _ hr).mono ?_; rintro e w1 ⟨rfl, hb1⟩
    go_wp2_with fail
    refine (Hk'.out _ (hr'.below hb1 hlt')).mono ?_; rintro e w2 ⟨rfl, hb2⟩
    have k2 := hb1.trans (hb2.mono hb1.size)
    go_wp2_with fail
    refine (Hp.out _).mono ?_; rintro e w3 ⟨rfl, rfl⟩
    go_wp2_with fail
    go_ret2
    exact ⟨rfl, k2⟩
  rw [cvt_0 h h2 h3]
  rw [h3] at hp
  have hx := inB_true.1 h3
  have Hp := Lib.hid hp; clear hp
  have hat := fun W hW => l02At_any g n cap xs ys hn (validC_crv h).1 x (by omega) (by omega) W hW
  have hle := fun y W hW => l05Least_any g' m cap' us vs 0 y hm (validC_crv h2).1 (by omega) (by omega) W hW
  generalize dens n xs ys x = D at *
  have hle := hle D
  have hor := lea_or (shdF m us vs 0) D
  generalize leaC (shdF m us vs 0) D = C at *
  generalize leaR (shdF m us vs 0) D = R at *
  generalize leaK (shdF m us vs 0) D = K at *
  have Hat := Lib.hid hat; clear hat
  have Hle := Lib.hid hle; clear hle h h2 h3
  rcases hor with ⟨rfl, rfl⟩ | ⟨rfl, rfl, hK⟩
  · rw [ifOk_6]
    go_enter Tryd.func42, Tryd.ntmps42
    go_wp2_with fail
    refine (Hk.out _ hr).mono ?_; rintro e w1 ⟨rfl, hb1⟩
    go_wp2_with fail
    refine (Hk'.out _ (hr'.below hb1 hlt')).mono ?_; rintro e w2 ⟨rfl, hb2⟩
    have k2 := hb1.trans (hb2.mono hb1.size)
    go_wp2_with fail
    refine (Hp.out _).mono ?_; rintro e w3 ⟨rfl, rfl⟩
    go_wp2_with fail
    refine (Hat.out _ (hr.below k2 hlt)).mono ?_; rintro e w3 ⟨rfl, hb3⟩
    have k3 := k2.trans (hb3.mono k2.size)
    go_wp2_with fail
    refine (Hle.out _ (hr'.below k3 hlt')).mono ?_; rintro e w4 ⟨rfl, hb4⟩
    go_wp2_with fail
    go_ret2
    exact ⟨rfl, k3.trans (hb4.mono k3.size)⟩
  · rw [ifOk_0]
    have hK2 : decide ((K : Int) < 0) = false := decide_eq_false (by omega)
    go_enter Tryd.func42, Tryd.ntmps42
    go_wp2_with fail
    refine (Hk.out _ hr).mono ?_; rintro e w1 ⟨rfl, hb1⟩
    go_wp2_with fail
    refine (Hk'.out _ (hr'.below hb1 hlt')).mono ?_; rintro e w2 ⟨rfl, hb2⟩
    have k2 := hb1.trans (hb2.mono hb1.size)
    go_wp2_with fail
    refine (Hp.out _).mono ?_; rintro e w3 ⟨rfl, rfl⟩
    go_wp2_with fail
    refine (Hat.out _ (hr.below k2 hlt)).mono ?_; rintro e w3 ⟨rfl, hb3⟩
    have k3 := k2.trans (hb3.mono k2.size)
    go_wp2_with fail
    refine (Hle.out _ (hr'.below k3 hlt')).mono ?_; rintro e w4 ⟨rfl, hb4⟩
    go_wp2_with fail
    go_ret2
    exact ⟨rfl, k3.trans (hb4.mono k3.size)⟩

set_option maxRecDepth 100000 in
set_option maxHeartbeats 2000000 in
theorem convertLight_any (s : Ers) (x : Int) (hn : n ≤ 1048576) (hs : SmallP n xs ys) (hm : m ≤ 1048576) (hs' : SmallP m us vs) (w : World) (hr : PtRow w g n xs ys) (hr' : PtRow w g' m us vs) (hE : ErrEnv s w) :
    Calls Tryd.prog 77 #[.slice (some ⟨g, 0, none⟩) n cap, .slice (some ⟨g', 0, none⟩) m cap', .int .i64 x] w (CodedX s (.int .i64 (ifOk (cvtC n xs ys m us vs x) (leaK (shdF m us vs 0) (dens n xs ys x) : Nat))) (cvtC n xs ys m us vs x) w.heap.size w) := by
  have hlt := hr.lt
  have hlt' := hr'.lt
  have hk := fun W hW => ValidCurve_any g n cap xs ys hn hs W hW
  have hk' := fun W hW => ValidCurve_any g' m cap' us vs hm hs' W hW
  rcases h : validC n xs ys with _ | _
  · rw [cvt_1 h, ifOk_1]
    rw [h] at hk
    have Hk := Lib.hid hk; clear hk h
    go_enter Tryd.func77, Tryd.ntmps77
    go_wp2_with fail
    refine (Hk.out _ hr).mono ?_; rintro e w1 ⟨rfl, hb1⟩
    have ce := (hE.below hb1 (Nat.le_refl _)).c_einvalid
    go_wp2_with fail
    go_quiet (fail)
    go_wp2
    go_ret2
    exact ⟨_, .einvalid, rfl, below_drewL hb1 _⟩
  rw [h] at hk
  have Hk := Lib.hid hk; clear hk
  rcases h2 : validC m us vs with _ | _
  · rw [cvt_1' h2, ifOk_1]
    rw [h2] at hk'
    have Hk' := Lib.hid hk'; clear hk' h h2
    go_enter Tryd.func77, Tryd.ntmps77
    go_wp2_with fail
    refine (Hk.out _ hr).mono ?_; rintro e w1 ⟨rfl, hb1⟩
    go_wp2_with fail
    refine (Hk'.out _ (hr'.below hb1 hlt')).mono ?_; rintro e w2 ⟨rfl, hb2⟩
    have k2 := hb1.trans (hb2.mono hb1.size)
    have ce := (hE.below k2 (Nat.le_refl _)).c_einvalid
    go_wp2_with fail
    go_quiet (fail)
    go_wp2
    go_ret2
    exact ⟨_, .einvalid, rfl, below_drewL k2 _⟩
  rw [h2] at hk'
  have Hk' := Lib.hid hk'; clear hk'
  have hp := fun W => isLightT_any x W
  rcases h3 : inB x 0 36 with _ | _
  · rw [cvt_2 h h2 h3, ifOk_2]
    rw [h3] at hp
    have Hp := Lib.hid hp; clear hp h h2 h3
    go_enter Tryd.func77, Tryd.ntmps77
    go_wp2_with fail
    refine (Hk.out _ hr).mono ?_; rintro e w1 ⟨rfl, hb1⟩
    go_wp2_with fail
    refine (Hk'.out _ (hr'.below hb1 hlt')).mono ?_; rintro e w2 ⟨rfl, hb2⟩
    have k2 := hb1.trans (hb2.mono hb1.size)
    go_wp2_with fail
    refine (Hp.out _).mono ?_; rintro e w3 ⟨rfl, rfl⟩
    have ce := (hE.below k2 (Nat.le_refl _)).c_erange
    go_wp2_with fail
    go_quiet (fail)
    go_wp2
    go_ret2
    exact ⟨_, .erange, rfl, below_drewL k2 _⟩
  rw [cvt_0 h h2 h3]
  rw [h3] at hp
  have hx := inB_true.1 h3
  have Hp := Lib.hid hp; clear hp
  have hat := fun W hW => at_any g n cap xs ys hn (validC_crv h).1 x (by omega) (by omega) W hW
  have hsh := fun W hW => shadesOf_any g' m cap' us vs 0 hm (validC_crv h2).1 (by omega) (by omega) W hW
  generalize dens n xs ys x = D at *
  generalize shdF m us vs 0 = f at *
  have hle := fun W hE => leastLight_any s f D W hE
  generalize ifOk (leaC f D) (leaK f D : Nat) = V at *
  generalize leaC f D = C at *
  have Hat := Lib.hid hat; clear hat
  have Hsh := Lib.hid hsh; clear hsh
  have Hle := Lib.hid hle; clear hle h h2 h3
  go_enter Tryd.func77, Tryd.ntmps77
  go_wp2_with fail
  refine (Hk.out _ hr).mono ?_; rintro e w1 ⟨rfl, hb1⟩
  go_wp2_with fail
  refine (Hk'.out _ (hr'.below hb1 hlt')).mono ?_; rintro e w2 ⟨rfl, hb2⟩
  have k2 := hb1.trans (hb2.mono hb1.size)
  go_wp2_with fail
  refine (Hp.out _).mono ?_; rintro e w3 ⟨rfl, rfl⟩
  go_wp2_with fail
  refine (Hsh.out _ (hr'.below k2 hlt')).mono ?_; rintro e w3 ⟨rfl, hb3⟩
  have k3 := k2.trans (hb3.mono k2.size)
  go_wp2_with fail
  refine (Hat.out _ (hr.below k3 hlt)).mono ?_; rintro e w4 ⟨rfl, hb4⟩
  have k4 := k3.trans (hb4.mono k3.size)
  go_wp2_with fail
  refine (Hle.out _ (hE.below k4 (Nat.le_refl _))).mono ?_; rintro e w5 ⟨v, hv, rfl, hb5⟩
  go_wp2_with fail
  go_ret2
  exact ⟨_, hv, rfl, k4.trans (hb5.mono k4.size)⟩

set_option maxHeartbeats 1000000 in
theorem ConvertLight_any (s : Ers) (x : Int) (hn : n ≤ 1048576) (hs : SmallP n xs ys) (hm : m ≤ 1048576) (hs' : SmallP m us vs) (w : World) (hr : PtRow w g n xs ys) (hr' : PtRow w g' m us vs) (hE : ErrEnv s w) :
    Calls Tryd.prog 43 #[.slice (some ⟨g, 0, none⟩) n cap, .slice (some ⟨g', 0, none⟩) m cap', .int .i64 x] w fun e w' => e = .returned (.tuple #[.int .i64 (ifOk (cvtC n xs ys m us vs x) (leaK (shdF m us vs 0) (dens n xs ys x) : Nat)), .int .i64 (cvtC n xs ys m us vs x)]) ∧ Below w.heap.size w w' := by
  have hk := fun W h h' hE => convertLight_any g n cap xs ys g' m cap' us vs s x hn hs hm hs' W h h' hE
  generalize ifOk (cvtC n xs ys m us vs x) (leaK (shdF m us vs 0) (dens n xs ys x) : Nat) = V at hk ⊢
  generalize cvtC n xs ys m us vs x = C at hk ⊢
  have Hk := Lib.hid hk; clear hk
  go_enter Tryd.func43, Tryd.ntmps43
  go_wp2_with fail
  refine (Hk.out _ hr hr' hE).mono ?_; rintro e w1 ⟨v, hv, rfl, hb1⟩
  go_wp2_with fail
  refine (codedInt_any hv _ _ (hE.below hb1 (Nat.le_refl _))).mono ?_; rintro e w2 ⟨rfl, rfl⟩
  go_wp2_with fail
  go_ret2
  exact ⟨rfl, hb1⟩

theorem specConvertLight_ex (b0 n0 c0 : Nat) (xs ys : Nat → Int) (b1 m0 c1 : Nat) (us vs : Nat → Int) (x : Int) (hn : n0 ≤ 1048576) (hm : m0 ≤ 1048576) (hs : SmallP n0 xs ys) (hs' : SmallP m0 us vs) (w : World) (hr : PtRow w b0 n0 xs ys) (hr' : PtRow w b1 m0 us vs) :
    Calls Tryd.prog 42 #[.slice (some ⟨b0, 0, none⟩) n0 c0, .slice (some ⟨b1, 0, none⟩) m0 c1, .int .i64 x] w fun e w' => e = .returned (.tuple #[.int .i64 (ifOk (cvtC n0 xs ys m0 us vs x) (leaK (shdF m0 us vs 0) (dens n0 xs ys x) : Nat)), .int .i64 (cvtC n0 xs ys m0 us vs x)]) ∧ Below w.heap.size w w' := specConvertLight_any b0 n0 c0 xs ys b1 m0 c1 us vs x hn hs hm hs' w hr hr'
theorem ConvertLight_ex (s : Ers) (b0 n0 c0 : Nat) (xs ys : Nat → Int) (b1 m0 c1 : Nat) (us vs : Nat → Int) (x : Int) (hn : n0 ≤ 1048576) (hm : m0 ≤ 1048576) (hs : SmallP n0 xs ys) (hs' : SmallP m0 us vs) (w : World) (hr : PtRow w b0 n0 xs ys) (hr' : PtRow w b1 m0 us vs) (hE : ErrEnv s w) :
    Calls Tryd.prog 43 #[.slice (some ⟨b0, 0, none⟩) n0 c0, .slice (some ⟨b1, 0, none⟩) m0 c1, .int .i64 x] w fun e w' => e = .returned (.tuple #[.int .i64 (ifOk (cvtC n0 xs ys m0 us vs x) (leaK (shdF m0 us vs 0) (dens n0 xs ys x) : Nat)), .int .i64 (cvtC n0 xs ys m0 us vs x)]) ∧ Below w.heap.size w w' := ConvertLight_any b0 n0 c0 xs ys b1 m0 c1 us vs s x hn hs hm hs' w hr hr' hE
end
end Go.Proofs.YtkhahffdacopdaaDoor

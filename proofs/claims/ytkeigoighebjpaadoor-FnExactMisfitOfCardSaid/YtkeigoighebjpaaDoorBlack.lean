/-
  The time that makes a paper black: by the program and by the reference, for every list of at most 1048576 points. Condition of the program's: its variables hold their own errors.
-/
import Derived.Test.YtkeigoighebjpaaDoorMapS
namespace Go.Proofs.YtkeigoighebjpaaDoor
open Go.RowKit

/-- The code of a paper, of a density that holds back, and of a light. -/
def blaC (n : Nat) (xs ys : Nat → Int) (d : Int) : Int := if validC n xs ys = true then (if inB d 0 400 = true then leaC (shdF n xs ys d) (dens n xs ys 36) else 2) else 1
theorem bla_1 {n : Nat} {xs ys : Nat → Int} {d : Int} (h : validC n xs ys = false) : blaC n xs ys d = 1 := by simp [blaC, h]
theorem bla_2 {n : Nat} {xs ys : Nat → Int} {d : Int} (h : validC n xs ys = true) (h2 : inB d 0 400 = false) : blaC n xs ys d = 2 := by simp [blaC, h, h2]
theorem bla_0 {n : Nat} {xs ys : Nat → Int} {d : Int} (h : validC n xs ys = true) (h2 : inB d 0 400 = true) : blaC n xs ys d = leaC (shdF n xs ys d) (dens n xs ys 36) := by simp [blaC, h, h2]
theorem leaB_or (f : Nat → Int) (y : Int) : (leaC f y = 6 ∧ leaR f y = -1) ∨ (leaC f y = 0 ∧ leaR f y = (leaK f y : Nat) ∧ 0 ≤ leaR f y) := by
  rcases Nat.lt_or_ge (leaK f y) 37 with h | h
  · refine .inr ⟨leaC_0 h, leaR_yes rfl h, ?_⟩
    rw [leaR_yes rfl h]; omega
  · have h2 : leaK f y = 37 := by have := leaK_le f y; omega
    exact .inl ⟨leaC_6 h2, leaR_no h2⟩
/-- A list of two numbers. -/
def twoS (x y : Int) (j : Nat) : Int := if j = 0 then x else y
theorem twoS_row (w : World) (x y : Int) : IRow (w.alloc (.cells #[.int .i64 x, .int .i64 y] 2)) w.heap.size 2 (twoS x y) := by
  have h := World.rowIs_alloc w #[.int .i64 x, .int .i64 y] 2 (fun j => .int .i64 (twoS x y j)) (fun i hi => by
    have h2 : i = 0 ∨ i = 1 := by simp at hi; omega
    rcases h2 with rfl | rfl <;> rfl)
  exact .of_row h
theorem shd36 (n : Nat) (xs ys : Nat → Int) : shdF n xs ys 0 36 = dens n xs ys 36 := darkV_0 n xs ys ((36 : Nat) : Int)

section
variable (g n cap : Nat) (xs ys : Nat → Int)
set_option maxRecDepth 100000 in
set_option maxHeartbeats 2000000 in
theorem specBlackTime_any (d : Int) (hn : n ≤ 1048576) (hs : SmallP n xs ys) (w : World) (hr : PtRow w g n xs ys) :
    Calls Tryd.prog 13 #[.slice (some ⟨g, 0, none⟩) n cap, .int .i64 d] w fun e w' => e = .returned (.tuple #[.int .i64 (ifOk (blaC n xs ys d) (leaK (shdF n xs ys d) (dens n xs ys 36) : Nat)), .int .i64 (blaC n xs ys d)]) ∧ Below w.heap.size w w' := by
  have hlt := hr.lt
  have hk := fun W hW => l02Ok_any g n cap xs ys hn hs W hW
  rcases h : validC n xs ys with _ | _
  · rw [bla_1 h, ifOk_1]
    rw [h] at hk
    have Hk := Lib.hid hk; clear hk h
    go_enter Tryd.func13, Tryd.ntmps13
    go_wp2_with fail
    refine (Hk.out _ hr).mono ?_; rintro e w1 ⟨rfl, hb1⟩
    go_wp2_with fail
    go_ret2
    exact ⟨rfl, hb1⟩
  rw [h] at hk
  have Hk := Lib.hid hk; clear hk
  have hp := fun W => l02Density_any d W
  rcases h3 : inB d 0 400 with _ | _
  · rw [bla_2 h h3, ifOk_2]
    rw [h3] at hp
    have Hp := Lib.hid hp; clear hp h h3
    go_enter Tryd.func13, Tryd.ntmps13
    go_wp2_with fail
    refine (Hk.out _ hr).mono ?_; rintro e w1 ⟨rfl, hb1⟩
    go_wp2_with fail
    refine (Hp.out _).mono ?_; rintro e w3 ⟨rfl, rfl⟩
    go_wp2_with fail
    go_ret2
    exact ⟨rfl, hb1⟩
  rw [bla_0 h h3]
  rw [h3] at hp
  have hx := inB_true.1 h3
  have Hp := Lib.hid hp; clear hp
  have hat := fun W hW => l02At_any g n cap xs ys hn (validC_crv h).1 36 (by omega) (by omega) W hW
  have hle := fun y W hW => l05Least_any g n cap xs ys d y hn (validC_crv h).1 hx.1 hx.2 W hW
  generalize dens n xs ys 36 = D at *
  have hle := hle D
  have hor := leaB_or (shdF n xs ys d) D
  generalize leaC (shdF n xs ys d) D = C at *
  generalize leaR (shdF n xs ys d) D = R at *
  generalize leaK (shdF n xs ys d) D = K at *
  have Hat := Lib.hid hat; clear hat
  have Hle := Lib.hid hle; clear hle h h3
  rcases hor with ⟨rfl, rfl⟩ | ⟨rfl, rfl, hK⟩
  · rw [ifOk_6]
    go_enter Tryd.func13, Tryd.ntmps13
    go_wp2_with fail
    refine (Hk.out _ hr).mono ?_; rintro e w1 ⟨rfl, hb1⟩
    go_wp2_with fail
    refine (Hp.out _).mono ?_; rintro e w3 ⟨rfl, rfl⟩
    go_wp2_with fail
    refine (Hat.out _ (hr.below hb1 hlt)).mono ?_; rintro e w3 ⟨rfl, hb3⟩
    have k3 := hb1.trans (hb3.mono hb1.size)
    go_wp2_with fail
    refine (Hle.out _ (hr.below k3 hlt)).mono ?_; rintro e w4 ⟨rfl, hb4⟩
    go_wp2_with fail
    go_ret2
    exact ⟨rfl, k3.trans (hb4.mono k3.size)⟩
  · rw [ifOk_0]
    have hK2 : decide ((K : Int) < 0) = false := decide_eq_false (by omega)
    go_enter Tryd.func13, Tryd.ntmps13
    go_wp2_with fail
    refine (Hk.out _ hr).mono ?_; rintro e w1 ⟨rfl, hb1⟩
    go_wp2_with fail
    refine (Hp.out _).mono ?_; rintro e w3 ⟨rfl, rfl⟩
    go_wp2_with fail
    refine (Hat.out _ (hr.below hb1 hlt)).mono ?_; rintro e w3 ⟨rfl, hb3⟩
    have k3 := hb1.trans (hb3.mono hb1.size)
    go_wp2_with fail
    refine (Hle.out _ (hr.below k3 hlt)).mono ?_; rintro e w4 ⟨rfl, hb4⟩
    go_wp2_with fail
    go_ret2
    exact ⟨rfl, k3.trans (hb4.mono k3.size)⟩

set_option maxRecDepth 100000 in
set_option maxHeartbeats 4000000 in
theorem blackTime_any (s : Ers) (d : Int) (hn : n ≤ 1048576) (hs : SmallP n xs ys) (w : World) (hr : PtRow w g n xs ys) (hE : ErrEnv s w) :
    Calls Tryd.prog 41 #[.slice (some ⟨g, 0, none⟩) n cap, .int .i64 d] w (CodedX s (.int .i64 (ifOk (blaC n xs ys d) (leaK (shdF n xs ys d) (dens n xs ys 36) : Nat))) (blaC n xs ys d) w.heap.size w) := by
  have hlt := hr.lt
  have hk := fun W hW => ValidCurve_any g n cap xs ys hn hs W hW
  rcases h : validC n xs ys with _ | _
  · rw [bla_1 h, ifOk_1]
    rw [h] at hk
    have Hk := Lib.hid hk; clear hk h
    go_enter Tryd.func41, Tryd.ntmps41
    go_wp2_with fail
    refine (Hk.out _ hr).mono ?_; rintro e w1 ⟨rfl, hb1⟩
    have ce := (hE.below hb1 (Nat.le_refl _)).c_einvalid
    go_wp2_with fail
    go_quiet (fail)
    go_wp2
    go_ret2
    exact ⟨_, .einvalid, rfl, below_drewL hb1 _⟩
  rw [h] at hk
  have Hk := Lib.hid hk; clear hk
  have hp := fun W => isDensity_any d W
  rcases h3 : inB d 0 400 with _ | _
  · rw [bla_2 h h3, ifOk_2]
    rw [h3] at hp
    have Hp := Lib.hid hp; clear hp h h3
    go_enter Tryd.func41, Tryd.ntmps41
    go_wp2_with fail
    refine (Hk.out _ hr).mono ?_; rintro e w1 ⟨rfl, hb1⟩
    go_wp2_with fail
    refine (Hp.out _).mono ?_; rintro e w3 ⟨rfl, rfl⟩
    have ce := (hE.below hb1 (Nat.le_refl _)).c_erange
    go_wp2_with fail
    go_quiet (fail)
    go_wp2
    go_ret2
    exact ⟨_, .erange, rfl, below_drewL hb1 _⟩
  rw [bla_0 h h3]
  rw [h3] at hp
  have hx := inB_true.1 h3
  have Hp := Lib.hid hp; clear hp
  have hsb := fun g2 W h1 h2 => shadesBehind_any g n cap xs ys hn (validC_crv h).1 g2 2 2 (twoS 0 d) (by omega) (fun j _ => by unfold twoS; split <;> omega) W h1 h2
  have e36 := shd36 n xs ys
  generalize dens n xs ys 36 = D at *
  generalize shdF n xs ys = F at *
  have hat : ∀ W : World, Calls Tryd.prog 66 #[.agg (arrV .i64 37 (F 0)), .int .i64 36] W fun e w' => e = .returned (.int .i64 D) ∧ Below W.heap.size W w' := fun W => by
    have h := shAt_any (F 0) 36 (by omega) W
    rw [e36] at h
    exact h
  have hle := fun W hE => leastLight_v s (F d) D W hE
  have hcd : IsCode s (errN s (leaC (F d) D)) (leaC (F d) D) := errN_code
  generalize ifOk (leaC (F d) D) (leaK (F d) D : Nat) = V at *
  generalize leaC (F d) D = C at *
  generalize errN s C = EV at *
  have Hsb := Lib.hid hsb; clear hsb
  have Hat := Lib.hid hat; clear hat
  have Hle := Lib.hid hle; clear hle h h3 e36
  go_enter Tryd.func41, Tryd.ntmps41
  go_wp2_with fail
  refine (Hk.out _ hr).mono ?_; rintro e w1 ⟨rfl, hb1⟩
  go_wp2_with fail
  refine (Hp.out _).mono ?_; rintro e w2 ⟨rfl, rfl⟩
  have R2 := twoS_row w1 0 d
  have k2 := hb1.alloc (Below.size hb1) (.cells #[.int .i64 0, .int .i64 d] 2)
  have r2 := (hr.below k2 hlt)
  go_wp2_with fail
  refine (Hsb.out _ _ r2 R2).mono ?_; rintro e w3 ⟨b, rfl, hb, hM, hb3⟩
  have k3 := k2.trans (hb3.mono k2.size)
  clear R2 k2 r2 hb3
  have hE3 := hE.below k3 (Nat.le_refl _)
  go_wp2_with fail
  refine wp_region_quietD (Below w3.heap.size w3) (by kernel_rfl) (by kernel_rfl) (below_drew1 _) ?_
  have n0 := below_nonempty w3
  have hM3 : ∀ W, (∃ x : WIn (Below w3.heap.size w3), W = x.w) → ShMap W b 2 F (fun x => ∃ j, j < 2 ∧ x = twoS 0 d j) := fun W hW => by
    obtain ⟨x, rfl⟩ := hW
    exact hM.below x.ok hM.lt
  quiet_step (fail)
  quiet_step (fail)
  refine wpQuiet_lookup_sh (k := d) hM3 ⟨1, by omega, rfl⟩ (by omega) (by omega) rfl _ _ rfl rfl rfl ?_
  quiet_step (fail)
  refine wpQuiet_lookup_sh (k := 0) hM3 ⟨0, by omega, rfl⟩ (by omega) (by omega) rfl _ _ rfl rfl rfl ?_
  quiet_step ((go_at_call 66; exact inCall _ (Hat.out _)))
  quiet_step ((go_at_call 65; exact inCall _ (Hle.out _ (hE3.below (WIn.ok _) (Nat.le_refl _)))))
  quiet_step (fail)
  quiet_step (fail)
  quiet_step (fail)
  quiet_step (fail)
  refine wpQuiet_nil ?_
  rintro _ ⟨y, rfl⟩
  go_wp2
  go_ret2
  exact ⟨_, hcd, rfl, k3.trans (y.ok.mono k3.size)⟩

set_option maxHeartbeats 1000000 in
theorem BlackTime_any (s : Ers) (d : Int) (hn : n ≤ 1048576) (hs : SmallP n xs ys) (w : World) (hr : PtRow w g n xs ys) (hE : ErrEnv s w) :
    Calls Tryd.prog 14 #[.slice (some ⟨g, 0, none⟩) n cap, .int .i64 d] w fun e w' => e = .returned (.tuple #[.int .i64 (ifOk (blaC n xs ys d) (leaK (shdF n xs ys d) (dens n xs ys 36) : Nat)), .int .i64 (blaC n xs ys d)]) ∧ Below w.heap.size w w' := by
  have hk := fun W h hE => blackTime_any g n cap xs ys s d hn hs W h hE
  generalize ifOk (blaC n xs ys d) (leaK (shdF n xs ys d) (dens n xs ys 36) : Nat) = V at hk ⊢
  generalize blaC n xs ys d = C at hk ⊢
  have Hk := Lib.hid hk; clear hk
  go_enter Tryd.func14, Tryd.ntmps14
  go_wp2_with fail
  refine (Hk.out _ hr hE).mono ?_; rintro e w1 ⟨v, hv, rfl, hb1⟩
  go_wp2_with fail
  refine (codedInt_any hv _ _ (hE.below hb1 (Nat.le_refl _))).mono ?_; rintro e w2 ⟨rfl, rfl⟩
  go_wp2_with fail
  go_ret2
  exact ⟨rfl, hb1⟩

theorem specBlackTime_ex (b0 n0 c0 : Nat) (xs ys : Nat → Int) (x : Int) (hn : n0 ≤ 1048576) (hs : SmallP n0 xs ys) (w : World) (hr : PtRow w b0 n0 xs ys) :
    Calls Tryd.prog 13 #[.slice (some ⟨b0, 0, none⟩) n0 c0, .int .i64 x] w fun e w' => e = .returned (.tuple #[.int .i64 (ifOk (blaC n0 xs ys x) (leaK (shdF n0 xs ys x) (dens n0 xs ys 36) : Nat)), .int .i64 (blaC n0 xs ys x)]) ∧ Below w.heap.size w w' := specBlackTime_any b0 n0 c0 xs ys x hn hs w hr
theorem BlackTime_ex (s : Ers) (b0 n0 c0 : Nat) (xs ys : Nat → Int) (x : Int) (hn : n0 ≤ 1048576) (hs : SmallP n0 xs ys) (w : World) (hr : PtRow w b0 n0 xs ys) (hE : ErrEnv s w) :
    Calls Tryd.prog 14 #[.slice (some ⟨b0, 0, none⟩) n0 c0, .int .i64 x] w fun e w' => e = .returned (.tuple #[.int .i64 (ifOk (blaC n0 xs ys x) (leaK (shdF n0 xs ys x) (dens n0 xs ys 36) : Nat)), .int .i64 (blaC n0 xs ys x)]) ∧ Below w.heap.size w w' := BlackTime_any b0 n0 c0 xs ys s x hn hs w hr hE
end
end Go.Proofs.YtkeigoighebjpaaDoor

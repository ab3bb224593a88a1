/-
  Prints: the density of a paper below a film, with its code: what the program's and the reference's functions return, for every two lists of at most 1048576 points. Condition of the program's: its variables hold their own errors.
-/
import Derived.Test.YtajojnelkddpkaaDoorCurA
namespace Go.Proofs.YtajojnelkddpkaaDoor
open Go.RowKit

/-- What a density holds back; the density of a print. -/
def heldH (d : Int) : Int := (d + 5) / 10
def prnV (n : Nat) (xs ys : Nat → Int) (m : Nat) (us vs : Nat → Int) (x light : Int) : Int := dens m us vs (light - heldH (dens n xs ys x))
theorem heldH_bd {d : Int} (h : 0 ≤ d) (h' : d ≤ 400) : 0 ≤ heldH d ∧ heldH d ≤ 40 := by unfold heldH; omega
/-- The code of two curves and two places. -/
def bthC (n : Nat) (xs ys : Nat → Int) (m : Nat) (us vs : Nat → Int) (x light : Int) : Int := if (validC n xs ys && validC m us vs) = true then (if (inB x (-200) 200 && inB light (-200) 200) = true then 0 else 2) else 1
theorem bth_1 {n : Nat} {xs ys : Nat → Int} {m : Nat} {us vs : Nat → Int} {x light : Int} (h : validC n xs ys = false) : bthC n xs ys m us vs x light = 1 := by simp [bthC, h]
theorem bth_2 {n : Nat} {xs ys : Nat → Int} {m : Nat} {us vs : Nat → Int} {x light : Int} (h : validC m us vs = false) : bthC n xs ys m us vs x light = 1 := by simp [bthC, h]
theorem bth_3 {n : Nat} {xs ys : Nat → Int} {m : Nat} {us vs : Nat → Int} {x light : Int} (h : validC n xs ys = true) (h2 : validC m us vs = true) (h3 : inB x (-200) 200 = false) : bthC n xs ys m us vs x light = 2 := by simp [bthC, h, h2, h3]
theorem bth_4 {n : Nat} {xs ys : Nat → Int} {m : Nat} {us vs : Nat → Int} {x light : Int} (h : validC n xs ys = true) (h2 : validC m us vs = true) (h3 : inB light (-200) 200 = false) : bthC n xs ys m us vs x light = 2 := by simp [bthC, h, h2, h3]
theorem bth_0 {n : Nat} {xs ys : Nat → Int} {m : Nat} {us vs : Nat → Int} {x light : Int} (h : validC n xs ys = true) (h2 : validC m us vs = true) (h3 : inB x (-200) 200 = true) (h4 : inB light (-200) 200 = true) : bthC n xs ys m us vs x light = 0 := by simp [bthC, h, h2, h3, h4]

set_option maxHeartbeats 1000000 in
theorem l02Both_any (b n cap : Nat) (xs ys : Nat → Int) (b' m cap' : Nat) (us vs : Nat → Int) (x light : Int) (hn : n ≤ 1048576) (hm : m ≤ 1048576) (hs : SmallP n xs ys) (hs' : SmallP m us vs) (w : World) (hr : PtRow w b n xs ys) (hr' : PtRow w b' m us vs) :
    Calls Tryd.prog 19 #[.slice (some ⟨b, 0, none⟩) n cap, .slice (some ⟨b', 0, none⟩) m cap', .int .i64 x, .int .i64 light] w fun e w' => e = .returned (.int .i64 (bthC n xs ys m us vs x light)) ∧ Below w.heap.size w w' := by
  have hk := l02Ok_any b n cap xs ys hn hs
  have hl := l02Ok_any b' m cap' us vs hm hs'
  have hp := fun W => l02Place_any x W
  have hq := fun W => l02Place_any light W
  rcases h1 : validC n xs ys with _ | _
  · rw [h1] at hk
    rw [bth_1 h1]
    have Hk := Lib.hid hk; clear hk; have Hl := Lib.hid hl; clear hl; have Hp := Lib.hid hp; clear hp; have Hq := Lib.hid hq; clear hq; clear h1
    go_enter Tryd.func19, Tryd.ntmps19
    go_wp2_with fail
    refine (Hk.out _ hr).mono ?_; rintro e w1 ⟨rfl, hb1⟩
    have k1 := hb1
    go_wp2_with fail
    go_ret
    exact ⟨rfl, k1⟩
  · rw [h1] at hk
    rcases h2 : validC m us vs with _ | _
    · rw [h2] at hl
      rw [bth_2 h2]
      have Hk := Lib.hid hk; clear hk; have Hl := Lib.hid hl; clear hl; have Hp := Lib.hid hp; clear hp; have Hq := Lib.hid hq; clear hq; clear h1 h2
      go_enter Tryd.func19, Tryd.ntmps19
      go_wp2_with fail
      refine (Hk.out _ hr).mono ?_; rintro e w1 ⟨rfl, hb1⟩
      have k1 := hb1
      go_wp2_with fail
      refine (Hl.out _ (hr'.below k1 hr'.lt)).mono ?_; rintro e w2 ⟨rfl, hb2⟩
      have k2 := k1.trans (hb2.mono k1.size)
      go_wp2_with fail
      go_ret
      exact ⟨rfl, k2⟩
    · rw [h2] at hl
      rcases h3 : inB x (-200) 200 with _ | _
      · rw [h3] at hp
        rw [bth_3 h1 h2 h3]
        have Hk := Lib.hid hk; clear hk; have Hl := Lib.hid hl; clear hl; have Hp := Lib.hid hp; clear hp; have Hq := Lib.hid hq; clear hq; clear h1 h2 h3
        go_enter Tryd.func19, Tryd.ntmps19
        go_wp2_with fail
        refine (Hk.out _ hr).mono ?_; rintro e w1 ⟨rfl, hb1⟩
        have k1 := hb1
        go_wp2_with fail
        refine (Hl.out _ (hr'.below k1 hr'.lt)).mono ?_; rintro e w2 ⟨rfl, hb2⟩
        have k2 := k1.trans (hb2.mono k1.size)
        go_wp2_with fail
        refine (Hp.out _).mono ?_; rintro e w3 ⟨rfl, rfl⟩
        go_wp2_with fail
        go_ret
        exact ⟨rfl, k2⟩
      · rw [h3] at hp
        rcases h4 : inB light (-200) 200 with _ | _
        · rw [h4] at hq
          rw [bth_4 h1 h2 h4]
          have Hk := Lib.hid hk; clear hk; have Hl := Lib.hid hl; clear hl; have Hp := Lib.hid hp; clear hp; have Hq := Lib.hid hq; clear hq; clear h1 h2 h3 h4
          go_enter Tryd.func19, Tryd.ntmps19
          go_wp2_with fail
          refine (Hk.out _ hr).mono ?_; rintro e w1 ⟨rfl, hb1⟩
          have k1 := hb1
          go_wp2_with fail
          refine (Hl.out _ (hr'.below k1 hr'.lt)).mono ?_; rintro e w2 ⟨rfl, hb2⟩
          have k2 := k1.trans (hb2.mono k1.size)
          go_wp2_with fail
          refine (Hp.out _).mono ?_; rintro e w3 ⟨rfl, rfl⟩
          go_wp2_with fail
          refine (Hq.out _).mono ?_; rintro e w3 ⟨rfl, rfl⟩
          go_wp2_with fail
          go_ret
          exact ⟨rfl, k2⟩
        · rw [h4] at hq
          rw [bth_0 h1 h2 h3 h4]
          have Hk := Lib.hid hk; clear hk; have Hl := Lib.hid hl; clear hl; have Hp := Lib.hid hp; clear hp; have Hq := Lib.hid hq; clear hq; clear h1 h2 h3 h4
          go_enter Tryd.func19, Tryd.ntmps19
          go_wp2_with fail
          refine (Hk.out _ hr).mono ?_; rintro e w1 ⟨rfl, hb1⟩
          have k1 := hb1
          go_wp2_with fail
          refine (Hl.out _ (hr'.below k1 hr'.lt)).mono ?_; rintro e w2 ⟨rfl, hb2⟩
          have k2 := k1.trans (hb2.mono k1.size)
          go_wp2_with fail
          refine (Hp.out _).mono ?_; rintro e w3 ⟨rfl, rfl⟩
          go_wp2_with fail
          refine (Hq.out _).mono ?_; rintro e w3 ⟨rfl, rfl⟩
          go_wp2_with fail
          go_ret
          exact ⟨rfl, k2⟩

set_option maxHeartbeats 1000000 in
theorem l02Printed_any (b n cap : Nat) (xs ys : Nat → Int) (b' m cap' : Nat) (us vs : Nat → Int) (x light : Int) (hn : n ≤ 1048576) (hm : m ≤ 1048576) (c : Crv n xs ys) (c' : Crv m us vs) (hx : -1000 ≤ x) (hx' : x ≤ 1000) (hl : -1000 ≤ light) (hl' : light ≤ 1000) (w : World) (hr : PtRow w b n xs ys) (hr' : PtRow w b' m us vs) :
    Calls Tryd.prog 20 #[.slice (some ⟨b, 0, none⟩) n cap, .slice (some ⟨b', 0, none⟩) m cap', .int .i64 x, .int .i64 light] w fun e w' => e = .returned (.int .i64 (prnV n xs ys m us vs x light)) ∧ Below w.heap.size w w' := by
  have hd := l02At_any b n cap xs ys hn c x (by omega) (by omega)
  have hb := dens_400 c x
  unfold prnV heldH
  generalize dens n xs ys x = d at *
  have hv := l02At_any b' m cap' us vs hm c' (light - (d + 5) / 10) (by omega) (by omega)
  generalize dens m us vs (light - (d + 5) / 10) = V at *
  have Hd := Lib.hid hd; clear hd
  have Hv := Lib.hid hv; clear hv
  go_enter Tryd.func20, Tryd.ntmps20
  go_wp2_with fail
  refine (Hd.out _ hr).mono ?_; rintro e w1 ⟨rfl, hb1⟩
  go_wp2_with fail
  refine (Hv.out _ (hr'.below hb1 hr'.lt)).mono ?_; rintro e w2 ⟨rfl, hb2⟩
  go_wp2_with fail
  go_ret
  exact ⟨rfl, hb1.trans (hb2.mono hb1.size)⟩

set_option maxHeartbeats 1000000 in
theorem specPrintedAt_any (b n cap : Nat) (xs ys : Nat → Int) (b' m cap' : Nat) (us vs : Nat → Int) (x light : Int) (hn : n ≤ 1048576) (hm : m ≤ 1048576) (hs : SmallP n xs ys) (hs' : SmallP m us vs) (w : World) (hr : PtRow w b n xs ys) (hr' : PtRow w b' m us vs) :
    Calls Tryd.prog 8 #[.slice (some ⟨b, 0, none⟩) n cap, .slice (some ⟨b', 0, none⟩) m cap', .int .i64 x, .int .i64 light] w fun e w' => e = .returned (.tuple #[.int .i64 (ifOk (bthC n xs ys m us vs x light) (prnV n xs ys m us vs x light)), .int .i64 (bthC n xs ys m us vs x light)]) ∧ Below w.heap.size w w' := by
  have ha := fun W h h' => l02Both_any b n cap xs ys b' m cap' us vs x light hn hm hs hs' W h h'
  by_cases h0 : bthC n xs ys m us vs x light = 0
  · have hv1 : validC n xs ys = true := by
      rcases h : validC n xs ys with _ | _
      · rw [bth_1 h] at h0; cases h0
      · rfl
    have hv2 : validC m us vs = true := by
      rcases h : validC m us vs with _ | _
      · rw [bth_2 h] at h0; cases h0
      · rfl
    have hv3 : inB x (-200) 200 = true := by
      rcases h : inB x (-200) 200 with _ | _
      · rw [bth_3 hv1 hv2 h] at h0; cases h0
      · rfl
    have hv4 : inB light (-200) 200 = true := by
      rcases h : inB light (-200) 200 with _ | _
      · rw [bth_4 hv1 hv2 h] at h0; cases h0
      · rfl
    have hx := inB_true.1 hv3
    have hl := inB_true.1 hv4
    have hv := fun W h h' => l02Printed_any b n cap xs ys b' m cap' us vs x light hn hm (validC_crv hv1).1 (validC_crv hv2).1 (by omega) (by omega) (by omega) (by omega) W h h'
    rw [h0] at ha ⊢
    rw [ifOk_0]
    generalize prnV n xs ys m us vs x light = V at *
    have Ha := Lib.hid ha; clear ha h0 hv1 hv2 hv3 hv4
    have Hv := Lib.hid hv; clear hv
    go_enter Tryd.func8, Tryd.ntmps8
    go_wp2_with fail
    refine (Ha.out _ hr hr').mono ?_; rintro e w1 ⟨rfl, hb1⟩
    go_wp2_with fail
    refine (Hv.out _ (hr.below hb1 hr.lt) (hr'.below hb1 hr'.lt)).mono ?_; rintro e w2 ⟨rfl, hb2⟩
    go_wp2_with fail
    go_ret2
    exact ⟨rfl, hb1.trans (hb2.mono hb1.size)⟩
  · have hz : ifOk (bthC n xs ys m us vs x light) (prnV n xs ys m us vs x light) = 0 := by simp [ifOk, h0]
    rw [hz]
    generalize bthC n xs ys m us vs x light = C at *
    have hc : (C != 0) = true := by simpa using h0
    have Ha := Lib.hid ha; clear ha h0 hz
    go_enter Tryd.func8, Tryd.ntmps8
    go_wp2_with fail
    refine (Ha.out _ hr hr').mono ?_; rintro e w1 ⟨rfl, hb1⟩
    go_wp2_with fail
    go_ret2
    exact ⟨rfl, hb1⟩

/-! ### THE PROGRAM'S -/
theorem heldBack_any (d : Int) (h : 0 ≤ d) (h' : d ≤ 400) (w : World) : Calls Tryd.prog 56 #[.int .i64 d] w fun e w' => e = .returned (.int .i64 (heldH d)) ∧ w = w' := by
  go_enter Tryd.func56, Tryd.ntmps56
  go_wp2
  go_ret
  exact ⟨rfl, rfl⟩

/-- A paper below a film as a function value: the blocks that it holds. -/
def Papered (p q : Nat) (P : Value) (H : Int) (w : World) : Prop := w.cell? ⟨p, 0, none⟩ = some P ∧ w.cell? ⟨q, 0, none⟩ = some (.int .i64 H)
theorem Papered.below {p q : Nat} {P : Value} {H : Int} {w w' : World} {B : Nat} (h : Papered p q P H w) (hb : Below B w w') (hB : w.heap.size ≤ B) : Papered p q P H w' := ⟨below_cellOf hb h.1 hB, below_cellOf hb h.2 hB⟩
def MadePaper (P : Value) (H : Int) (w : World) (e : Ending) (w' : World) : Prop := ∃ p q, e = .returned (.func (.func 57) #[] #[.pointer (some ⟨p, 0, none⟩), .pointer (some ⟨q, 0, none⟩)]) ∧ Papered p q P H w' ∧ Below w.heap.size w w'

set_option maxHeartbeats 1000000 in
theorem printBehindP_any (b' m cap' : Nat) (d : Int) (h : 0 ≤ d) (h' : d ≤ 400) (w : World) :
    Calls Tryd.prog 47 #[.int .i64 d, .slice (some ⟨b', 0, none⟩) m cap'] w (MadePaper (.slice (some ⟨b', 0, none⟩) m cap') (heldH d) w) := by
  have hh := fun W => heldBack_any d h h' W
  generalize heldH d = H at hh ⊢
  have Hh := Lib.hid hh; clear hh
  have k0 : Below w.heap.size w (w.alloc (.cells #[.slice (some ⟨b', 0, none⟩) m cap'] 27)) := (Below.refl _ _).alloc (Nat.le_refl _) _
  have c1 : (w.alloc (.cells #[.slice (some ⟨b', 0, none⟩) m cap'] 27)).cell? ⟨w.heap.size, 0, none⟩ = some (.slice (some ⟨b', 0, none⟩) m cap') := by simp
  go_enter Tryd.func47, Tryd.ntmps47
  go_wp2_with fail
  refine (Hh.out _).mono ?_; rintro e w2 ⟨rfl, rfl⟩
  go_wp2_with fail
  go_ret
  refine ⟨w.heap.size, _, rfl, ⟨?_, by simp⟩, k0.alloc k0.size _⟩
  exact below_cellOf ((Below.refl _ _).alloc (Nat.le_refl _) _) c1 (Nat.le_refl _)

set_option maxHeartbeats 1000000 in
theorem printOn_any (b n cap : Nat) (xs ys : Nat → Int) (b' m cap' : Nat) (us vs : Nat → Int) (x : Int) (hn : n ≤ 1048576) (c : Crv n xs ys) (hx : -1000 ≤ x) (hx' : x ≤ 1000) (w : World) (hr : PtRow w b n xs ys) :
    Calls Tryd.prog 38 #[.slice (some ⟨b, 0, none⟩) n cap, .slice (some ⟨b', 0, none⟩) m cap', .int .i64 x] w (MadePaper (.slice (some ⟨b', 0, none⟩) m cap') (heldH (dens n xs ys x)) w) := by
  have hd := at_any b n cap xs ys hn c x (by omega) (by omega)
  have hb := dens_400 c x
  generalize dens n xs ys x = d at *
  have Hd := Lib.hid hd; clear hd
  have hh := fun W => printBehindP_any b' m cap' d hb.1 hb.2 W
  generalize heldH d = H at hh ⊢
  have Hh := Lib.hid hh; clear hh
  go_enter Tryd.func38, Tryd.ntmps38
  go_wp2_with fail
  refine (Hd.out _ hr).mono ?_; rintro e w1 ⟨rfl, hb1⟩
  go_wp2_with fail
  refine (Hh.out _).mono ?_; rintro e w2 ⟨p, q, rfl, hP, hb2⟩
  go_wp2_with fail
  go_ret
  exact ⟨p, q, rfl, hP, hb1.trans (hb2.mono hb1.size)⟩

set_option maxHeartbeats 1000000 in
theorem printOn1_any (p q b' m cap' : Nat) (us vs : Nat → Int) (H light : Int) (hm : m ≤ 1048576) (c' : Crv m us vs) (h0 : 0 ≤ H) (h1 : H ≤ 40) (hl : -1000 ≤ light) (hl' : light ≤ 1000) (w : World) (hr' : PtRow w b' m us vs) (hp : Papered p q (.slice (some ⟨b', 0, none⟩) m cap') H w) :
    Calls Tryd.prog 57 #[.int .i64 light, .pointer (some ⟨p, 0, none⟩), .pointer (some ⟨q, 0, none⟩)] w fun e w' => e = .returned (.int .i64 (dens m us vs (light - H))) ∧ Below w.heap.size w w' := by
  have hv := at_any b' m cap' us vs hm c' (light - H) (by omega) (by omega)
  generalize dens m us vs (light - H) = V at *
  have Hv := Lib.hid hv; clear hv
  obtain ⟨c0, c1⟩ := hp
  go_enter Tryd.func57, Tryd.ntmps57
  go_wp2_with fail
  refine (Hv.out _ hr').mono ?_; rintro e w1 ⟨rfl, hb1⟩
  go_wp2_with fail
  go_ret
  exact ⟨rfl, hb1⟩

set_option maxHeartbeats 1000000 in
theorem printedAt_any (s : Ers) (b n cap : Nat) (xs ys : Nat → Int) (b' m cap' : Nat) (us vs : Nat → Int) (x light : Int) (hn : n ≤ 1048576) (hm : m ≤ 1048576) (hs : SmallP n xs ys) (hs' : SmallP m us vs) (w : World) (hr : PtRow w b n xs ys) (hr' : PtRow w b' m us vs) (hE : ErrEnv s w) :
    Calls Tryd.prog 23 #[.slice (some ⟨b, 0, none⟩) n cap, .slice (some ⟨b', 0, none⟩) m cap', .int .i64 x, .int .i64 light] w (CodedX s (.int .i64 (ifOk (bthC n xs ys m us vs x light) (prnV n xs ys m us vs x light))) (bthC n xs ys m us vs x light) w.heap.size w) := by
  have hk := ValidCurve_any b n cap xs ys hn hs
  have hl := ValidCurve_any b' m cap' us vs hm hs'
  have hp := fun W => isPlace_any x W
  have hq := fun W => isPlace_any light W
  rcases h1 : validC n xs ys with _ | _
  · rw [h1] at hk
    rw [bth_1 h1, ifOk_1]
    have Hk := Lib.hid hk; clear hk; have Hl := Lib.hid hl; clear hl; have Hp := Lib.hid hp; clear hp; have Hq := Lib.hid hq; clear hq; clear h1
    go_enter Tryd.func23, Tryd.ntmps23
    go_wp2_with fail
    refine (Hk.out _ hr).mono ?_; rintro e w1 ⟨rfl, hb1⟩
    have k1 := hb1
    have ce := (hE.below k1 (Nat.le_refl _)).c_einvalid
    go_wp2_with fail
    go_quiet (fail)
    go_wp2
    go_ret2
    exact ⟨_, .einvalid, rfl, below_drewL k1 _⟩
  · rw [h1] at hk
    rcases h2 : validC m us vs with _ | _
    · rw [h2] at hl
      rw [bth_2 h2, ifOk_1]
      have Hk := Lib.hid hk; clear hk; have Hl := Lib.hid hl; clear hl; have Hp := Lib.hid hp; clear hp; have Hq := Lib.hid hq; clear hq; clear h1 h2
      go_enter Tryd.func23, Tryd.ntmps23
      go_wp2_with fail
      refine (Hk.out _ hr).mono ?_; rintro e w1 ⟨rfl, hb1⟩
      have k1 := hb1
      go_wp2_with fail
      refine (Hl.out _ (hr'.below k1 hr'.lt)).mono ?_; rintro e w2 ⟨rfl, hb2⟩
      have k2 := k1.trans (hb2.mono k1.size)
      have ce := (hE.below k2 (Nat.le_refl _)).c_einvalid
      go_wp2_with fail
      go_quiet (fail)
      go_wp2
      go_ret2
      exact ⟨_, .einvalid, rfl, below_drewL k2 _⟩
    · rw [h2] at hl
      rcases h3 : inB x (-200) 200 with _ | _
      · rw [h3] at hp
        rw [bth_3 h1 h2 h3, ifOk_2]
        have Hk := Lib.hid hk; clear hk; have Hl := Lib.hid hl; clear hl; have Hp := Lib.hid hp; clear hp; have Hq := Lib.hid hq; clear hq; clear h1 h2 h3
        go_enter Tryd.func23, Tryd.ntmps23
        go_wp2_with fail
        refine (Hk.out _ hr).mono ?_; rintro e w1 ⟨rfl, hb1⟩
        have k1 := hb1
        go_wp2_with fail
        refine (Hl.out _ (hr'.below k1 hr'.lt)).mono ?_; rintro e w2 ⟨rfl, hb2⟩
        have k2 := k1.trans (hb2.mono k1.size)
        go_wp2_with fail
        refine (Hp.out _).mono ?_; rintro e w3 ⟨rfl, rfl⟩
        have ce := (hE.below k2 (Nat.le_refl _)).c_erange
        go_wp2_with fail
        go_quiet (fail)
        go_wp2
        go_ret2
        exact ⟨_, .erange, rfl, below_drewL k2 _⟩
      · rw [h3] at hp
        rcases h4 : inB light (-200) 200 with _ | _
        · rw [h4] at hq
          rw [bth_4 h1 h2 h4, ifOk_2]
          have Hk := Lib.hid hk; clear hk; have Hl := Lib.hid hl; clear hl; have Hp := Lib.hid hp; clear hp; have Hq := Lib.hid hq; clear hq; clear h1 h2 h3 h4
          go_enter Tryd.func23, Tryd.ntmps23
          go_wp2_with fail
          refine (Hk.out _ hr).mono ?_; rintro e w1 ⟨rfl, hb1⟩
          have k1 := hb1
          go_wp2_with fail
          refine (Hl.out _ (hr'.below k1 hr'.lt)).mono ?_; rintro e w2 ⟨rfl, hb2⟩
          have k2 := k1.trans (hb2.mono k1.size)
          go_wp2_with fail
          refine (Hp.out _).mono ?_; rintro e w3 ⟨rfl, rfl⟩
          go_wp2_with fail
          refine (Hq.out _).mono ?_; rintro e w3 ⟨rfl, rfl⟩
          have ce := (hE.below k2 (Nat.le_refl _)).c_erange
          go_wp2_with fail
          go_quiet (fail)
          go_wp2
          go_ret2
          exact ⟨_, .erange, rfl, below_drewL k2 _⟩
        · rw [h4] at hq
          rw [bth_0 h1 h2 h3 h4, ifOk_0]
          have hx := inB_true.1 h3
          have hy := inB_true.1 h4
          have ho := fun W h => printOn_any b n cap xs ys b' m cap' us vs x hn (validC_crv h1).1 (by omega) (by omega) W h
          have hh := heldH_bd (dens_400 (validC_crv h1).1 x).1 (dens_400 (validC_crv h1).1 x).2
          have ho1 := fun p q W h h' => printOn1_any p q b' m cap' us vs (heldH (dens n xs ys x)) light hm (validC_crv h2).1 hh.1 hh.2 (by omega) (by omega) W h h'
          unfold prnV
          generalize heldH (dens n xs ys x) = H at *
          generalize dens m us vs (light - H) = V at *
          have Ho := Lib.hid ho; clear ho
          have Ho1 := Lib.hid ho1; clear ho1
          have Hk := Lib.hid hk; clear hk; have Hl := Lib.hid hl; clear hl; have Hp := Lib.hid hp; clear hp; have Hq := Lib.hid hq; clear hq; clear h1 h2 h3 h4
          go_enter Tryd.func23, Tryd.ntmps23
          go_wp2_with fail
          refine (Hk.out _ hr).mono ?_; rintro e w1 ⟨rfl, hb1⟩
          have k1 := hb1
          go_wp2_with fail
          refine (Hl.out _ (hr'.below k1 hr'.lt)).mono ?_; rintro e w2 ⟨rfl, hb2⟩
          have k2 := k1.trans (hb2.mono k1.size)
          go_wp2_with fail
          refine (Hp.out _).mono ?_; rintro e w3 ⟨rfl, rfl⟩
          go_wp2_with fail
          refine (Hq.out _).mono ?_; rintro e w3 ⟨rfl, rfl⟩
          go_wp2_with fail
          refine (Ho.out _ (hr.below k2 hr.lt)).mono ?_; rintro e w4 ⟨p, q, rfl, hp4, hb4⟩
          have k4 := k2.trans (hb4.mono k2.size)
          go_wp2_with fail
          refine (Ho1.out _ _ _ (hr'.below k4 hr'.lt) hp4).mono ?_; rintro e w5 ⟨rfl, hb5⟩
          go_wp2_with fail
          go_ret2
          exact ⟨_, .ok, rfl, k4.trans (hb5.mono k4.size)⟩

set_option maxHeartbeats 1000000 in
theorem PrintedAt_any (s : Ers) (b n cap : Nat) (xs ys : Nat → Int) (b' m cap' : Nat) (us vs : Nat → Int) (x light : Int) (hn : n ≤ 1048576) (hm : m ≤ 1048576) (hs : SmallP n xs ys) (hs' : SmallP m us vs) (w : World) (hr : PtRow w b n xs ys) (hr' : PtRow w b' m us vs) (hE : ErrEnv s w) :
    Calls Tryd.prog 10 #[.slice (some ⟨b, 0, none⟩) n cap, .slice (some ⟨b', 0, none⟩) m cap', .int .i64 x, .int .i64 light] w fun e w' => e = .returned (.tuple #[.int .i64 (ifOk (bthC n xs ys m us vs x light) (prnV n xs ys m us vs x light)), .int .i64 (bthC n xs ys m us vs x light)]) ∧ Below w.heap.size w w' := by
  have hk := fun W h h' hE => printedAt_any s b n cap xs ys b' m cap' us vs x light hn hm hs hs' W h h' hE
  generalize ifOk (bthC n xs ys m us vs x light) (prnV n xs ys m us vs x light) = V at hk ⊢
  generalize bthC n xs ys m us vs x light = C at hk ⊢
  have Hk := Lib.hid hk; clear hk
  go_enter Tryd.func10, Tryd.ntmps10
  go_wp2_with fail
  refine (Hk.out _ hr hr' hE).mono ?_; rintro e w1 ⟨v, hv, rfl, hb1⟩
  go_wp2_with fail
  refine (codedInt_any hv _ _ (hE.below hb1 (Nat.le_refl _))).mono ?_; rintro e w2 ⟨rfl, rfl⟩
  go_wp2_with fail
  go_ret2
  exact ⟨rfl, hb1⟩

theorem specPrintedAt_ex (b0 n c0 : Nat) (xs ys : Nat → Int) (b1 m c1 : Nat) (us vs : Nat → Int) (x light : Int) (hn : n ≤ 1048576) (hm : m ≤ 1048576) (hs : SmallP n xs ys) (hs' : SmallP m us vs) (w : World) (hr : PtRow w b0 n xs ys) (hr' : PtRow w b1 m us vs) :
    Calls Tryd.prog 8 #[.slice (some ⟨b0, 0, none⟩) n c0, .slice (some ⟨b1, 0, none⟩) m c1, .int .i64 x, .int .i64 light] w fun e w' => e = .returned (.tuple #[.int .i64 (ifOk (bthC n xs ys m us vs x light) (prnV n xs ys m us vs x light)), .int .i64 (bthC n xs ys m us vs x light)]) ∧ Below w.heap.size w w' := specPrintedAt_any b0 n c0 xs ys b1 m c1 us vs x light hn hm hs hs' w hr hr'
theorem PrintedAt_ex (s : Ers) (b0 n c0 : Nat) (xs ys : Nat → Int) (b1 m c1 : Nat) (us vs : Nat → Int) (x light : Int) (hn : n ≤ 1048576) (hm : m ≤ 1048576) (hs : SmallP n xs ys) (hs' : SmallP m us vs) (w : World) (hr : PtRow w b0 n xs ys) (hr' : PtRow w b1 m us vs) (hE : ErrEnv s w) :
    Calls Tryd.prog 10 #[.slice (some ⟨b0, 0, none⟩) n c0, .slice (some ⟨b1, 0, none⟩) m c1, .int .i64 x, .int .i64 light] w fun e w' => e = .returned (.tuple #[.int .i64 (ifOk (bthC n xs ys m us vs x light) (prnV n xs ys m us vs x light)), .int .i64 (bthC n xs ys m us vs x light)]) ∧ Below w.heap.size w w' := PrintedAt_any s b0 n c0 xs ys b1 m c1 us vs x light hn hm hs hs' w hr hr' hE
end Go.Proofs.YtajojnelkddpkaaDoor

/-
  Prints: the range of a print, and the least light for a density: what the program's and the reference's functions return, for every two lists of at most 1048576 points. Condition of the program's: its variables hold their own errors.
-/
import Derived.Test.YtajojnelkddpkaaDoorPrn
import Derived.Test.YtajojnelkddpkaaDoorCurB
namespace Go.Proofs.YtajojnelkddpkaaDoor
open Go.RowKit

set_option maxRecDepth 100000 in
set_option maxHeartbeats 1000000 in
theorem leastPaper_any (s : Ers) (p q b' m cap' : Nat) (us vs : Nat → Int) (H y : Int) (hm : m ≤ 1048576) (c' : Crv m us vs) (h0 : 0 ≤ H) (h1 : H ≤ 40) (hy : -1000000 ≤ y) (hy' : y ≤ 1000000) (w : World) (hr : PtRow w b' m us vs) (hpap : Papered p q (.slice (some ⟨b', 0, none⟩) m cap') H w) (hE : ErrEnv s w) :
    Calls Tryd.prog 42 #[.func (.func 57) #[] #[.pointer (some ⟨p, 0, none⟩), .pointer (some ⟨q, 0, none⟩)], .int .i64 y] w (CodedX s (.int .i64 (ifOk (lstC (fun l => dens m us vs (l - H)) y) (forX (fun l => dens m us vs (l - H)) y))) (lstC (fun l => dens m us vs (l - H)) y) w.heap.size w) := by
  have hlt := hr.lt
  have hat := fun (x : Int) (h : -1000 ≤ x) (h' : x ≤ 1000) W hW hP => printOn1_any p q b' m cap' us vs H x hm c' h0 h1 h h' W hW hP
  have hbd : ∀ x : Int, 0 ≤ dens m us vs (x - H) ∧ dens m us vs (x - H) ≤ 400 := fun x => dens_400 c' (x - H)
  generalize hf : (fun l => dens m us vs (l - H)) = f
  replace hat : ∀ (x : Int) (h : -1000 ≤ x) (h' : x ≤ 1000) (W : World) (hW : PtRow W b' m us vs) (hP : Papered p q (.slice (some ⟨b', 0, none⟩) m cap') H W), Calls Tryd.prog 57 #[.int .i64 x, .pointer (some ⟨p, 0, none⟩), .pointer (some ⟨q, 0, none⟩)] W fun e w' => e = .returned (.int .i64 (f x)) ∧ Below W.heap.size W w' := by rw [← hf]; exact hat
  replace hbd : ∀ x : Int, 0 ≤ f x ∧ f x ≤ 400 := by rw [← hf]; exact hbd
  clear hf
  have Hat := Lib.hid hat; clear hat
  have Hbd := Lib.hid hbd; clear hbd
  go_enter Tryd.func42, Tryd.ntmps42
  go_wp2
  go_loopw [6] (fun i wr => ∃ z : Int, i = .int .i64 z ∧ -200 ≤ z ∧ z ≤ 201 ∧ AllLess f y z ∧ Below w.heap.size w wr) (fun i _ => (201 - intOf i).toNat)
  case atStart => exact ⟨-200, rfl, by omega, by omega, AllLess.start _ _, Below.refl _ _⟩
  case round =>
    obtain ⟨z, rfl, hz0, hz1, ha, hB⟩ := hrel
    have Ha := Lib.hid ha; clear ha
    have hsz := hB.size
    by_cases h2 : z ≤ 200
    · have hk := Hat.out z (by omega) (by omega) wr (hr.below hB hlt) (hpap.below hB (Nat.le_refl _))
      have hb := Hbd.out z
      by_cases hl : f z < y
      · have hN := Ha.out.next hl
        generalize f z = V at hk hl hb
        have HN := Lib.hid hN; clear hN
        have Hk := Lib.hid hk; clear hk
        have dl : decide (y ≤ V) = false := decide_eq_false (by omega)
        go_wp2_with fail
        refine Hk.out.mono ?_; rintro e w1 ⟨rfl, hb1⟩
        go_wp2_with fail
        go_roundw
        case rel => exact ⟨z + 1, rfl, by omega, by omega, HN.out, hB.trans (hb1.mono hsz)⟩
        case measure => simp [intOf]; omega
      · have hF := Ha.out.found hz0 h2 hl
        have hC := lst_yes (f := f) (y := y) (by omega)
        generalize f z = V at hk hl hb
        have HF := Lib.hid hF; clear hF
        have HC := Lib.hid hC; clear hC
        have Hk := Lib.hid hk; clear hk
        have dl : y ≤ V := by omega
        go_wp2_with fail
        refine Hk.out.mono ?_; rintro e w1 ⟨rfl, hb1⟩
        go_wp2_with fail
        go_ret2
        rw [HC.out, HF.out, ifOk_0]
        exact ⟨_, .ok, rfl, hB.trans (hb1.mono hsz)⟩
    · obtain rfl : z = 201 := by omega
      have hF := Ha.out.none
      have hC := lst_no hF
      have HC := Lib.hid hC; clear hC hF
      have ce := (hE.below hB (Nat.le_refl _)).c_enotfound
      go_wp2_with fail
      go_quiet (fail)
      go_wp2
      go_ret2
      rw [HC.out, ifOk_6]
      exact ⟨_, .enotfound, rfl, below_drewL hB _⟩

/-- The code of the least light. -/
def lgtC (n : Nat) (xs ys : Nat → Int) (m : Nat) (us vs : Nat → Int) (x y : Int) : Int := if (validC n xs ys && validC m us vs) = true then (if (inB x (-200) 200 && inB y 0 400) = true then lstC (fun l => prnV n xs ys m us vs x l) y else 2) else 1
theorem lgt_1 {n : Nat} {xs ys : Nat → Int} {m : Nat} {us vs : Nat → Int} {x light : Int} (h : validC n xs ys = false) : lgtC n xs ys m us vs x light = 1 := by simp [lgtC, h]
theorem lgt_2 {n : Nat} {xs ys : Nat → Int} {m : Nat} {us vs : Nat → Int} {x light : Int} (h : validC m us vs = false) : lgtC n xs ys m us vs x light = 1 := by simp [lgtC, h]
theorem lgt_3 {n : Nat} {xs ys : Nat → Int} {m : Nat} {us vs : Nat → Int} {x light : Int} (h : validC n xs ys = true) (h2 : validC m us vs = true) (h3 : inB x (-200) 200 = false) : lgtC n xs ys m us vs x light = 2 := by simp [lgtC, h, h2, h3]
theorem lgt_4 {n : Nat} {xs ys : Nat → Int} {m : Nat} {us vs : Nat → Int} {x light : Int} (h : validC n xs ys = true) (h2 : validC m us vs = true) (h3 : inB light 0 400 = false) : lgtC n xs ys m us vs x light = 2 := by simp [lgtC, h, h2, h3]
theorem lgt_0 {n : Nat} {xs ys : Nat → Int} {m : Nat} {us vs : Nat → Int} {x light : Int} (h : validC n xs ys = true) (h2 : validC m us vs = true) (h3 : inB x (-200) 200 = true) (h4 : inB light 0 400 = true) : lgtC n xs ys m us vs x light = lstC (fun l => prnV n xs ys m us vs x l) light := by simp [lgtC, h, h2, h3, h4]

set_option maxHeartbeats 1000000 in
theorem lightFor_any (s : Ers) (b n cap : Nat) (xs ys : Nat → Int) (b' m cap' : Nat) (us vs : Nat → Int) (x light : Int) (hn : n ≤ 1048576) (hm : m ≤ 1048576) (hs : SmallP n xs ys) (hs' : SmallP m us vs) (w : World) (hr : PtRow w b n xs ys) (hr' : PtRow w b' m us vs) (hE : ErrEnv s w) :
    Calls Tryd.prog 31 #[.slice (some ⟨b, 0, none⟩) n cap, .slice (some ⟨b', 0, none⟩) m cap', .int .i64 x, .int .i64 light] w (CodedX s (.int .i64 (ifOk (lgtC n xs ys m us vs x light) (forX (fun l => prnV n xs ys m us vs x l) light))) (lgtC n xs ys m us vs x light) w.heap.size w) := by
  have hk := ValidCurve_any b n cap xs ys hn hs
  have hl := ValidCurve_any b' m cap' us vs hm hs'
  have hp := fun W => isPlace_any x W
  have hq := fun W => isDensity_any light W
  rcases h1 : validC n xs ys with _ | _
  · rw [h1] at hk
    rw [lgt_1 h1, ifOk_1]
    have Hk := Lib.hid hk; clear hk; have Hl := Lib.hid hl; clear hl; have Hp := Lib.hid hp; clear hp; have Hq := Lib.hid hq; clear hq; clear h1
    go_enter Tryd.func31, Tryd.ntmps31
    go_wp2_with fail
    refine (Hk.out _ hr).mono ?_; rintro e w1 ⟨rfl, hb1⟩
    have k1 := hb1
    have ce := (hE.below k1 (Nat.le_refl _)).c_einvalid
    go_wp2_with fail
    go_quiet (fail)
    go_wp2
    go_ret2
    exact ⟨_, .einvalid, rfl, below_drewL k1 _⟩
  · rw [h1] at hk
    rcases h2 : validC m us vs with _ | _
    · rw [h2] at hl
      rw [lgt_2 h2, ifOk_1]
      have Hk := Lib.hid hk; clear hk; have Hl := Lib.hid hl; clear hl; have Hp := Lib.hid hp; clear hp; have Hq := Lib.hid hq; clear hq; clear h1 h2
      go_enter Tryd.func31, Tryd.ntmps31
      go_wp2_with fail
      refine (Hk.out _ hr).mono ?_; rintro e w1 ⟨rfl, hb1⟩
      have k1 := hb1
      go_wp2_with fail
      refine (Hl.out _ (hr'.below k1 hr'.lt)).mono ?_; rintro e w2 ⟨rfl, hb2⟩
      have k2 := k1.trans (hb2.mono k1.size)
      have ce := (hE.below k2 (Nat.le_refl _)).c_einvalid
      go_wp2_with fail
      go_quiet (fail)
      go_wp2
      go_ret2
      exact ⟨_, .einvalid, rfl, below_drewL k2 _⟩
    · rw [h2] at hl
      rcases h3 : inB x (-200) 200 with _ | _
      · rw [h3] at hp
        rw [lgt_3 h1 h2 h3, ifOk_2]
        have Hk := Lib.hid hk; clear hk; have Hl := Lib.hid hl; clear hl; have Hp := Lib.hid hp; clear hp; have Hq := Lib.hid hq; clear hq; clear h1 h2 h3
        go_enter Tryd.func31, Tryd.ntmps31
        go_wp2_with fail
        refine (Hk.out _ hr).mono ?_; rintro e w1 ⟨rfl, hb1⟩
        have k1 := hb1
        go_wp2_with fail
        refine (Hl.out _ (hr'.below k1 hr'.lt)).mono ?_; rintro e w2 ⟨rfl, hb2⟩
        have k2 := k1.trans (hb2.mono k1.size)
        go_wp2_with fail
        refine (Hp.out _).mono ?_; rintro e w3 ⟨rfl, rfl⟩
        have ce := (hE.below k2 (Nat.le_refl _)).c_erange
        go_wp2_with fail
        go_quiet (fail)
        go_wp2
        go_ret2
        exact ⟨_, .erange, rfl, below_drewL k2 _⟩
      · rw [h3] at hp
        rcases h4 : inB light 0 400 with _ | _
        · rw [h4] at hq
          rw [lgt_4 h1 h2 h4, ifOk_2]
          have Hk := Lib.hid hk; clear hk; have Hl := Lib.hid hl; clear hl; have Hp := Lib.hid hp; clear hp; have Hq := Lib.hid hq; clear hq; clear h1 h2 h3 h4
          go_enter Tryd.func31, Tryd.ntmps31
          go_wp2_with fail
          refine (Hk.out _ hr).mono ?_; rintro e w1 ⟨rfl, hb1⟩
          have k1 := hb1
          go_wp2_with fail
          refine (Hl.out _ (hr'.below k1 hr'.lt)).mono ?_; rintro e w2 ⟨rfl, hb2⟩
          have k2 := k1.trans (hb2.mono k1.size)
          go_wp2_with fail
          refine (Hp.out _).mono ?_; rintro e w3 ⟨rfl, rfl⟩
          go_wp2_with fail
          refine (Hq.out _).mono ?_; rintro e w3 ⟨rfl, rfl⟩
          have ce := (hE.below k2 (Nat.le_refl _)).c_erange
          go_wp2_with fail
          go_quiet (fail)
          go_wp2
          go_ret2
          exact ⟨_, .erange, rfl, below_drewL k2 _⟩
        · rw [h4] at hq
          rw [lgt_0 h1 h2 h3 h4]
          have hx := inB_true.1 h3
          have hy := inB_true.1 h4
          have ho := fun W h => printOn_any b n cap xs ys b' m cap' us vs x hn (validC_crv h1).1 (by omega) (by omega) W h
          have hh := heldH_bd (dens_400 (validC_crv h1).1 x).1 (dens_400 (validC_crv h1).1 x).2
          have ho1 := fun p q W h h' hE => leastPaper_any s p q b' m cap' us vs (heldH (dens n xs ys x)) light hm (validC_crv h2).1 hh.1 hh.2 (by omega) (by omega) W h h' hE
          unfold prnV
          generalize heldH (dens n xs ys x) = H at *
          generalize ifOk (lstC (fun l => dens m us vs (l - H)) light) (forX (fun l => dens m us vs (l - H)) light) = V at *
          generalize lstC (fun l => dens m us vs (l - H)) light = C at *
          have Ho := Lib.hid ho; clear ho
          have Ho1 := Lib.hid ho1; clear ho1
          have Hk := Lib.hid hk; clear hk; have Hl := Lib.hid hl; clear hl; have Hp := Lib.hid hp; clear hp; have Hq := Lib.hid hq; clear hq; clear h1 h2 h3 h4
          go_enter Tryd.func31, Tryd.ntmps31
          go_wp2_with fail
          refine (Hk.out _ hr).mono ?_; rintro e w1 ⟨rfl, hb1⟩
          have k1 := hb1
          go_wp2_with fail
          refine (Hl.out _ (hr'.below k1 hr'.lt)).mono ?_; rintro e w2 ⟨rfl, hb2⟩
          have k2 := k1.trans (hb2.mono k1.size)
          go_wp2_with fail
          refine (Hp.out _).mono ?_; rintro e w3 ⟨rfl, rfl⟩
          go_wp2_with fail
          refine (Hq.out _).mono ?_; rintro e w3 ⟨rfl, rfl⟩
          go_wp2_with fail
          refine (Ho.out _ (hr.below k2 hr.lt)).mono ?_; rintro e w4 ⟨p, q, rfl, hp4, hb4⟩
          have k4 := k2.trans (hb4.mono k2.size)
          go_wp2_with fail
          refine (Ho1.out _ _ _ (hr'.below k4 hr'.lt) hp4 (hE.below k4 (Nat.le_refl _))).mono ?_; rintro e w5 ⟨v, hv, rfl, hb5⟩
          go_wp2_with fail
          go_ret2
          exact ⟨_, hv, rfl, k4.trans (hb5.mono k4.size)⟩

set_option maxHeartbeats 1000000 in
theorem LightFor_any (s : Ers) (b n cap : Nat) (xs ys : Nat → Int) (b' m cap' : Nat) (us vs : Nat → Int) (x y : Int) (hn : n ≤ 1048576) (hm : m ≤ 1048576) (hs : SmallP n xs ys) (hs' : SmallP m us vs) (w : World) (hr : PtRow w b n xs ys) (hr' : PtRow w b' m us vs) (hE : ErrEnv s w) :
    Calls Tryd.prog 15 #[.slice (some ⟨b, 0, none⟩) n cap, .slice (some ⟨b', 0, none⟩) m cap', .int .i64 x, .int .i64 y] w fun e w' => e = .returned (.tuple #[.int .i64 (ifOk (lgtC n xs ys m us vs x y) (forX (fun l => prnV n xs ys m us vs x l) y)), .int .i64 (lgtC n xs ys m us vs x y)]) ∧ Below w.heap.size w w' := by
  have hk := fun W h h' hE => lightFor_any s b n cap xs ys b' m cap' us vs x y hn hm hs hs' W h h' hE
  generalize ifOk (lgtC n xs ys m us vs x y) (forX (fun l => prnV n xs ys m us vs x l) y) = V at hk ⊢
  generalize lgtC n xs ys m us vs x y = C at hk ⊢
  have Hk := Lib.hid hk; clear hk
  go_enter Tryd.func15, Tryd.ntmps15
  go_wp2_with fail
  refine (Hk.out _ hr hr' hE).mono ?_; rintro e w1 ⟨v, hv, rfl, hb1⟩
  go_wp2_with fail
  refine (codedInt_any hv _ _ (hE.below hb1 (Nat.le_refl _))).mono ?_; rintro e w2 ⟨rfl, rfl⟩
  go_wp2_with fail
  go_ret2
  exact ⟨rfl, hb1⟩

theorem bth_all {n : Nat} {xs ys : Nat → Int} {m : Nat} {us vs : Nat → Int} {x light : Int} (h0 : bthC n xs ys m us vs x light = 0) : validC n xs ys = true ∧ validC m us vs = true ∧ inB x (-200) 200 = true ∧ inB light (-200) 200 = true := by
  have hv1 : validC n xs ys = true := by
    rcases h : validC n xs ys with _ | _
    · rw [bth_1 h] at h0; cases h0
    · rfl
  have hv2 : validC m us vs = true := by
    rcases h : validC m us vs with _ | _
    · rw [bth_2 h] at h0; cases h0
    · rfl
  have hv3 : inB x (-200) 200 = true := by
    rcases h : inB x (-200) 200 with _ | _
    · rw [bth_3 hv1 hv2 h] at h0; cases h0
    · rfl
  have hv4 : inB light (-200) 200 = true := by
    rcases h : inB light (-200) 200 with _ | _
    · rw [bth_4 hv1 hv2 h] at h0; cases h0
    · rfl
  exact ⟨hv1, hv2, hv3, hv4⟩
theorem lgt_bth {n : Nat} {xs ys : Nat → Int} {m : Nat} {us vs : Nat → Int} {x y : Int} (h0 : bthC n xs ys m us vs x 0 ≠ 0) : lgtC n xs ys m us vs x y = bthC n xs ys m us vs x 0 := by
  rcases h1 : validC n xs ys with _ | _
  · rw [lgt_1 h1, bth_1 h1]
  · rcases h2 : validC m us vs with _ | _
    · rw [lgt_2 h2, bth_2 h2]
    · rcases h3 : inB x (-200) 200 with _ | _
      · rw [lgt_3 h1 h2 h3, bth_3 h1 h2 h3]
      · exact absurd (bth_0 h1 h2 h3 (by decide)) h0

set_option maxRecDepth 100000 in
set_option maxHeartbeats 1000000 in
theorem specLightFor_any (b n cap : Nat) (xs ys : Nat → Int) (b' m cap' : Nat) (us vs : Nat → Int) (x y : Int) (hn : n ≤ 1048576) (hm : m ≤ 1048576) (hs : SmallP n xs ys) (hs' : SmallP m us vs) (w : World) (hr : PtRow w b n xs ys) (hr' : PtRow w b' m us vs) :
    Calls Tryd.prog 14 #[.slice (some ⟨b, 0, none⟩) n cap, .slice (some ⟨b', 0, none⟩) m cap', .int .i64 x, .int .i64 y] w fun e w' => e = .returned (.tuple #[.int .i64 (ifOk (lgtC n xs ys m us vs x y) (forX (fun l => prnV n xs ys m us vs x l) y)), .int .i64 (lgtC n xs ys m us vs x y)]) ∧ Below w.heap.size w w' := by
  have ha := fun W h h' => l02Both_any b n cap xs ys b' m cap' us vs x 0 hn hm hs hs' W h h'
  by_cases h0 : bthC n xs ys m us vs x 0 = 0
  · obtain ⟨hv1, hv2, hv3, -⟩ := bth_all h0
    have hx := inB_true.1 hv3
    have hd := fun W => l02Density_any y W
    rw [h0] at ha
    rcases h4 : inB y 0 400 with _ | _
    · rw [lgt_4 hv1 hv2 h4, ifOk_2]
      rw [h4] at hd
      have Ha := Lib.hid ha; clear ha h0 hv1 hv2 hv3
      have Hd := Lib.hid hd; clear hd h4
      go_enter Tryd.func14, Tryd.ntmps14
      go_wp2_with fail
      refine (Ha.out _ hr hr').mono ?_; rintro e w1 ⟨rfl, hb1⟩
      go_wp2_with fail
      refine (Hd.out _).mono ?_; rintro e w2 ⟨rfl, rfl⟩
      go_wp2_with fail
      go_ret2
      exact ⟨rfl, hb1⟩
    · rw [lgt_0 hv1 hv2 hv3 h4]
      rw [h4] at hd
      have hy := inB_true.1 h4
      have hv := fun (l : Int) (hl : -1000 ≤ l) (hl' : l ≤ 1000) W h h' => l02Printed_any b n cap xs ys b' m cap' us vs x l hn hm (validC_crv hv1).1 (validC_crv hv2).1 (by omega) (by omega) hl hl' W h h'
      have hbd : ∀ l, 0 ≤ prnV n xs ys m us vs x l ∧ prnV n xs ys m us vs x l ≤ 400 := fun l => dens_400 (validC_crv hv2).1 _
      generalize prnV n xs ys m us vs x = f at hv hbd ⊢
      have hlt := hr.lt
      have hlt' := hr'.lt
      have Ha := Lib.hid ha; clear ha h0 hv1 hv2 hv3
      have Hd := Lib.hid hd; clear hd h4
      have Hat := Lib.hid hv; clear hv
      have Hbd := Lib.hid hbd; clear hbd
      go_enter Tryd.func14, Tryd.ntmps14
      go_wp2_with fail
      refine (Ha.out _ hr hr').mono ?_; rintro e w1 ⟨rfl, hb1⟩
      go_wp2_with fail
      refine (Hd.out _).mono ?_; rintro e w2 ⟨rfl, rfl⟩
      go_wp2_with fail
      go_loopw [11] (fun i wr => ∃ z : Int, i = .int .i64 z ∧ -200 ≤ z ∧ z ≤ 201 ∧ AllLess f y z ∧ Below w.heap.size w wr) (fun i _ => (201 - intOf i).toNat)
      case atStart => exact ⟨-200, rfl, by omega, by omega, AllLess.start _ _, hb1⟩
      case round =>
        obtain ⟨z, rfl, hz0, hz1, ha, hB⟩ := hrel
        have Ha2 := Lib.hid ha; clear ha
        have hsz := hB.size
        by_cases h2 : z ≤ 200
        · have hk := Hat.out z (by omega) (by omega) wr (hr.below hB hlt) (hr'.below hB hlt')
          have hb := Hbd.out z
          by_cases hl : f z < y
          · have hN := Ha2.out.next hl
            generalize f z = V at hk hl hb
            have HN := Lib.hid hN; clear hN
            have Hk := Lib.hid hk; clear hk
            have dl : decide (y ≤ V) = false := decide_eq_false (by omega)
            go_wp2_with fail
            refine Hk.out.mono ?_; rintro e w2 ⟨rfl, hb2⟩
            go_wp2_with fail
            go_roundw
            case rel => exact ⟨z + 1, rfl, by omega, by omega, HN.out, hB.trans (hb2.mono hsz)⟩
            case measure => simp [intOf]; omega
          · have hF := Ha2.out.found hz0 h2 hl
            have hC := lst_yes (f := f) (y := y) (by omega)
            generalize f z = V at hk hl hb
            have HF := Lib.hid hF; clear hF
            have HC := Lib.hid hC; clear hC
            have Hk := Lib.hid hk; clear hk
            have dl : y ≤ V := by omega
            go_wp2_with fail
            refine Hk.out.mono ?_; rintro e w2 ⟨rfl, hb2⟩
            go_wp2_with fail
            go_ret2
            rw [HC.out, HF.out, ifOk_0]
            exact ⟨rfl, hB.trans (hb2.mono hsz)⟩
        · obtain rfl : z = 201 := by omega
          have hF := Ha2.out.none
          have hC := lst_no hF
          have HC := Lib.hid hC; clear hC hF
          go_wp2_with fail
          go_ret2
          rw [HC.out, ifOk_6]
          exact ⟨rfl, hB⟩
  · have hz : ifOk (bthC n xs ys m us vs x 0) (forX (fun l => prnV n xs ys m us vs x l) y) = 0 := by simp [ifOk, h0]
    rw [lgt_bth h0, hz]
    generalize bthC n xs ys m us vs x 0 = C at *
    have hc : (C != 0) = true := by simpa using h0
    have hc2 : (C == 0) = false := by simpa using h0
    have Ha := Lib.hid ha; clear ha h0 hz
    go_enter Tryd.func14, Tryd.ntmps14
    go_wp2_with fail
    refine (Ha.out _ hr hr').mono ?_; rintro e w1 ⟨rfl, hb1⟩
    go_wp2_with fail
    go_ret2
    exact ⟨rfl, hb1⟩

theorem specLightFor_ex (b0 n c0 : Nat) (xs ys : Nat → Int) (b1 m c1 : Nat) (us vs : Nat → Int) (x y : Int) (hn : n ≤ 1048576) (hm : m ≤ 1048576) (hs : SmallP n xs ys) (hs' : SmallP m us vs) (w : World) (hr : PtRow w b0 n xs ys) (hr' : PtRow w b1 m us vs) :
    Calls Tryd.prog 14 #[.slice (some ⟨b0, 0, none⟩) n c0, .slice (some ⟨b1, 0, none⟩) m c1, .int .i64 x, .int .i64 y] w fun e w' => e = .returned (.tuple #[.int .i64 (ifOk (lgtC n xs ys m us vs x y) (forX (fun l => prnV n xs ys m us vs x l) y)), .int .i64 (lgtC n xs ys m us vs x y)]) ∧ Below w.heap.size w w' := specLightFor_any b0 n c0 xs ys b1 m c1 us vs x y hn hm hs hs' w hr hr'
theorem LightFor_ex (s : Ers) (b0 n c0 : Nat) (xs ys : Nat → Int) (b1 m c1 : Nat) (us vs : Nat → Int) (x y : Int) (hn : n ≤ 1048576) (hm : m ≤ 1048576) (hs : SmallP n xs ys) (hs' : SmallP m us vs) (w : World) (hr : PtRow w b0 n xs ys) (hr' : PtRow w b1 m us vs) (hE : ErrEnv s w) :
    Calls Tryd.prog 15 #[.slice (some ⟨b0, 0, none⟩) n c0, .slice (some ⟨b1, 0, none⟩) m c1, .int .i64 x, .int .i64 y] w fun e w' => e = .returned (.tuple #[.int .i64 (ifOk (lgtC n xs ys m us vs x y) (forX (fun l => prnV n xs ys m us vs x l) y)), .int .i64 (lgtC n xs ys m us vs x y)]) ∧ Below w.heap.size w w' := LightFor_any s b0 n c0 xs ys b1 m c1 us vs x y hn hm hs hs' w hr hr' hE
end Go.Proofs.YtajojnelkddpkaaDoor

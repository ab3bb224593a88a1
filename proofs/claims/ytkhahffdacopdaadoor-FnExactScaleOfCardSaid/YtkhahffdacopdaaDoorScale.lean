/-
  The scale of a paper, with its code: what the program's and the reference's functions return, for every list of at most 1048576 points. Condition of the program's: its variables hold their own errors.
-/
import Derived.Test.YtkhahffdacopdaaDoorCurB
namespace Go.Proofs.YtkhahffdacopdaaDoor
open Go.RowKit

/-- The function turned about: its least place is, with the other sign, the greatest place of f. -/
def negF (f : Int → Int) : Int → Int := fun u => -f (-u)
theorem AllLess.down {f : Int → Int} {y z : Int} (h : AllLess (negF f) (-y) (-z)) (hz : y < f z) : AllLess (negF f) (-y) (-(z - 1)) := by
  have := h.next (by unfold negF; rw [Int.neg_neg]; omega)
  rwa [show -z + 1 = -(z - 1) by omega] at this
theorem AllLess.low {f : Int → Int} {y z : Int} (h : AllLess (negF f) (-y) (-z)) (h0 : -200 ≤ z) (h1 : z ≤ 200) (hz : f z ≤ y) : forX (negF f) (-y) = -z :=
  h.found (by omega) (by omega) (by unfold negF; rw [Int.neg_neg]; omega)

set_option maxRecDepth 100000 in
set_option maxHeartbeats 1000000 in
theorem greatestAt_any (s : Ers) (b n cap : Nat) (xs ys : Nat → Int) (hn : n ≤ 1048576) (c : Crv n xs ys) (y : Int) (hy : -1000000 ≤ y) (hy' : y ≤ 1000000) (w : World) (hr : PtRow w b n xs ys) (hE : ErrEnv s w) :
    Calls Tryd.prog 103 #[.func (.func 102) #[.slice (some ⟨b, 0, none⟩) n cap] #[], .int .i64 y] w (CodedX s (.int .i64 (ifOk (lstC (negF (dens n xs ys)) (-y)) (-(forX (negF (dens n xs ys)) (-y))))) (lstC (negF (dens n xs ys)) (-y)) w.heap.size w) := by
  have hlt := hr.lt
  have hat := fun (x : Int) (h : -1000000 ≤ x) (h' : x ≤ 1000000) W hW => at_any b n cap xs ys hn c x h h' W hW
  have hbd := fun x => dens_400 c x
  generalize dens n xs ys = f at hat hbd ⊢
  have Hat := Lib.hid hat; clear hat
  have Hbd := Lib.hid hbd; clear hbd
  go_enter Tryd.func103, Tryd.ntmps103
  go_wp2
  go_loopw [6] (fun i wr => ∃ z : Int, i = .int .i64 z ∧ -201 ≤ z ∧ z ≤ 200 ∧ AllLess (negF f) (-y) (-z) ∧ Below w.heap.size w wr) (fun i _ => (intOf i + 201).toNat)
  case atStart => exact ⟨200, rfl, by omega, by omega, AllLess.start _ _, Below.refl _ _⟩
  case round =>
    obtain ⟨z, rfl, hz0, hz1, ha, hB⟩ := hrel
    have Ha := Lib.hid ha; clear ha
    have hsz := hB.size
    by_cases h2 : -200 ≤ z
    · have hk := Hat.out z (by omega) (by omega) wr (hr.below hB hlt)
      have hb := Hbd.out z
      by_cases hl : f z ≤ y
      · have hF := Ha.out.low h2 hz1 hl
        have hC := lst_yes (f := negF f) (y := -y) (by omega)
        generalize f z = V at hk hl hb
        have HF := Lib.hid hF; clear hF
        have HC := Lib.hid hC; clear hC
        have Hk := Lib.hid hk; clear hk
        go_wp2_with fail
        refine Hk.out.mono ?_; rintro e w1 ⟨rfl, hb1⟩
        go_wp2_with fail
        go_ret2
        rw [HC.out, HF.out, ifOk_0, Int.neg_neg]
        exact ⟨_, .ok, rfl, hB.trans (hb1.mono hsz)⟩
      · have hN := Ha.out.down (show y < f z by omega)
        generalize f z = V at hk hl hb
        have HN := Lib.hid hN; clear hN
        have Hk := Lib.hid hk; clear hk
        have dl : decide (V ≤ y) = false := decide_eq_false hl
        go_wp2_with fail
        refine Hk.out.mono ?_; rintro e w1 ⟨rfl, hb1⟩
        go_wp2_with fail
        go_roundw
        case rel => exact ⟨z - 1, rfl, by omega, by omega, HN.out, hB.trans (hb1.mono hsz)⟩
        case measure => simp [intOf]; omega
    · obtain rfl : z = -201 := by omega
      have hF := Ha.out.none
      have hC := lst_no hF
      have HC := Lib.hid hC; clear hC hF
      have ce := (hE.below hB (Nat.le_refl _)).c_enotfound
      go_wp2_with fail
      go_quiet (fail)
      go_wp2
      go_ret2
      rw [HC.out, ifOk_6]
      exact ⟨_, .enotfound, rfl, below_drewL hB _⟩

/-- The code of a scale, and the scale. -/
def endB (l d : Int) : Bool := inB l 0 400 && inB d 0 400 && decide (l < d)
def sclD (f : Int → Int) (l d : Int) : Int := if lstC f d = 0 then lstC (negF f) (-l) else lstC f d
def sclV (f : Int → Int) (l d : Int) : Int := forX f d + forX (negF f) (-l)
def sclC (n : Nat) (xs ys : Nat → Int) (l d : Int) : Int := if validC n xs ys = true then (if endB l d = true then sclD (dens n xs ys) l d else 2) else 1
theorem scl_1 {n : Nat} {xs ys : Nat → Int} {l d : Int} (h : validC n xs ys = false) : sclC n xs ys l d = 1 := by simp [sclC, h]
theorem scl_2 {n : Nat} {xs ys : Nat → Int} {l d : Int} (h : validC n xs ys = true) (h2 : endB l d = false) : sclC n xs ys l d = 2 := by simp [sclC, h, h2]
theorem scl_0 {n : Nat} {xs ys : Nat → Int} {l d : Int} (h : validC n xs ys = true) (h2 : endB l d = true) : sclC n xs ys l d = sclD (dens n xs ys) l d := by simp [sclC, h, h2]
theorem lst_or (f : Int → Int) (y : Int) : lstC f y = 0 ∨ lstC f y = 6 := by unfold lstC; split <;> omega
theorem sclD_6 {f : Int → Int} {l d : Int} (h : lstC f d = 6) : sclD f l d = 6 := by simp [sclD, h]
theorem sclD_0 {f : Int → Int} {l d : Int} (h : lstC f d = 0) : sclD f l d = lstC (negF f) (-l) := by simp [sclD, h]
theorem sclD_or (f : Int → Int) (l d : Int) : sclD f l d = 0 ∨ sclD f l d = 6 := by
  rcases lst_or f d with h | h
  · rw [sclD_0 h]; exact lst_or _ _
  · exact .inr (sclD_6 h)

set_option maxRecDepth 100000 in
set_option maxHeartbeats 2000000 in
theorem l05Scale_any (b n cap : Nat) (xs ys : Nat → Int) (hn : n ≤ 1048576) (hv : validC n xs ys = true) (hs : SmallP n xs ys) (l d : Int) (hl : 0 ≤ l) (hl' : l ≤ 400) (hd : 0 ≤ d) (hd' : d ≤ 400) (w : World) (hr : PtRow w b n xs ys) :
    Calls Tryd.prog 73 #[.slice (some ⟨b, 0, none⟩) n cap, .int .i64 l, .int .i64 d] w fun e w' => e = .returned (.tuple #[.int .i64 (ifOk (sclD (dens n xs ys) l d) (sclV (dens n xs ys) l d)), .bool (decide (sclD (dens n xs ys) l d = 0))]) ∧ Below w.heap.size w w' := by
  have hlt := hr.lt
  obtain ⟨c, -⟩ := validC_crv hv
  have hx := specExposureFor_any b n cap xs ys d hn hs
  rw [exp_yes hv (inB_true.2 ⟨hd, hd'⟩)] at hx
  have hat := fun (x : Int) (h : -1000000 ≤ x) (h' : x ≤ 1000000) W hW => l02At_any b n cap xs ys hn c x h h' W hW
  have hbd := fun x => dens_400 c x
  unfold sclV
  have hfx := forX_is (dens n xs ys) d
  generalize dens n xs ys = f at *
  obtain ⟨fx0, fx1, -, -⟩ := hfx
  have Hat := Lib.hid hat; clear hat
  have Hbd := Lib.hid hbd; clear hbd c hv
  rcases lst_or f d with hC | hC
  rotate_left
  · rw [sclD_6 hC, ifOk_6]
    rw [hC, ifOk_6] at hx
    have Hx := Lib.hid hx; clear hx hC
    go_enter Tryd.func73, Tryd.ntmps73
    go_wp2_with fail
    refine (Hx.out _ hr).mono ?_; rintro e w1 ⟨rfl, hb1⟩
    go_wp2_with fail
    go_ret2
    exact ⟨rfl, hb1⟩
  rw [sclD_0 hC]
  rw [hC, ifOk_0] at hx
  clear hC
  generalize forX f d = X at *
  have Hx := Lib.hid hx; clear hx
  go_enter Tryd.func73, Tryd.ntmps73
  go_wp2_with fail
  refine (Hx.out _ hr).mono ?_; rintro e w1 ⟨rfl, hb1⟩
  go_wp2_with fail
  go_loopw [10] (fun i wr => ∃ z : Int, i = .int .i64 z ∧ -201 ≤ z ∧ z ≤ 200 ∧ AllLess (negF f) (-l) (-z) ∧ Below w.heap.size w wr) (fun i _ => (intOf i + 201).toNat)
  case atStart => exact ⟨200, rfl, by omega, by omega, AllLess.start _ _, hb1⟩
  case round =>
    obtain ⟨z, rfl, hz0, hz1, ha, hB⟩ := hrel
    have Ha := Lib.hid ha; clear ha
    have hsz := hB.size
    by_cases h2 : -200 ≤ z
    · have hk := Hat.out z (by omega) (by omega) wr (hr.below hB hlt)
      have hb := Hbd.out z
      by_cases hl : f z ≤ l
      · have hF := Ha.out.low h2 hz1 hl
        have hC := lst_yes (f := negF f) (y := -l) (by omega)
        generalize f z = V at hk hl hb
        have HF := Lib.hid hF; clear hF
        have HC := Lib.hid hC; clear hC
        have Hk := Lib.hid hk; clear hk
        go_wp2_with fail
        refine Hk.out.mono ?_; rintro e w2 ⟨rfl, hb2⟩
        go_wp2_with fail
        go_ret2
        rw [HC.out, HF.out, ifOk_0, ← Int.sub_eq_add_neg]
        exact ⟨rfl, hB.trans (hb2.mono hsz)⟩
      · have hN := Ha.out.down (show l < f z by omega)
        generalize f z = V at hk hl hb
        have HN := Lib.hid hN; clear hN
        have Hk := Lib.hid hk; clear hk
        have dl : decide (V ≤ l) = false := decide_eq_false hl
        go_wp2_with fail
        refine Hk.out.mono ?_; rintro e w2 ⟨rfl, hb2⟩
        go_wp2_with fail
        go_roundw
        case rel => exact ⟨z - 1, rfl, by omega, by omega, HN.out, hB.trans (hb2.mono hsz)⟩
        case measure => simp [intOf]; omega
    · obtain rfl : z = -201 := by omega
      have hF := Ha.out.none
      have hC := lst_no hF
      have HC := Lib.hid hC; clear hC hF
      go_wp2_with fail
      go_ret2
      rw [HC.out, ifOk_6]
      exact ⟨rfl, hB⟩

theorem l05Ends_any (l d : Int) (w : World) : Calls Tryd.prog 72 #[.int .i64 l, .int .i64 d] w fun e w' => e = .returned (.bool (endB l d)) ∧ w = w' := by
  rcases h1 : inB l 0 400 with _ | _
  rotate_left
  rcases h2 : inB d 0 400 with _ | _
  rotate_left
  by_cases h3 : l < d
  all_goals
    go_enter Tryd.func72, Tryd.ntmps72
    go_wp2_with (go_at_call 69; refine (l02Density_any _ _).mono ?_; rintro e w1 ⟨rfl, rfl⟩)
    go_ret
    exact ⟨ret_bool (by simp [endB, *]), rfl⟩

set_option maxRecDepth 100000 in
set_option maxHeartbeats 2000000 in
theorem specScaleOf_any (b n cap : Nat) (xs ys : Nat → Int) (l d : Int) (hn : n ≤ 1048576) (hs : SmallP n xs ys) (w : World) (hr : PtRow w b n xs ys) :
    Calls Tryd.prog 40 #[.slice (some ⟨b, 0, none⟩) n cap, .int .i64 l, .int .i64 d] w fun e w' => e = .returned (.tuple #[.int .i64 (ifOk (sclC n xs ys l d) (sclV (dens n xs ys) l d)), .int .i64 (sclC n xs ys l d)]) ∧ Below w.heap.size w w' := by
  have hk := l02Ok_any b n cap xs ys hn hs
  have he := fun W => l05Ends_any l d W
  rcases h1 : validC n xs ys with _ | _
  · rw [scl_1 h1, ifOk_1]
    rw [h1] at hk
    have Hk := Lib.hid hk; clear hk h1
    go_enter Tryd.func40, Tryd.ntmps40
    go_wp2_with fail
    refine (Hk.out _ hr).mono ?_; rintro e w1 ⟨rfl, hb1⟩
    go_wp2_with fail
    go_ret2
    exact ⟨rfl, hb1⟩
  rw [h1] at hk
  rcases h2 : endB l d with _ | _
  · rw [scl_2 h1 h2, ifOk_2]
    rw [h2] at he
    have Hk := Lib.hid hk; clear hk
    have He := Lib.hid he; clear he h1 h2
    go_enter Tryd.func40, Tryd.ntmps40
    go_wp2_with fail
    refine (Hk.out _ hr).mono ?_; rintro e w1 ⟨rfl, hb1⟩
    go_wp2_with fail
    refine (He.out _).mono ?_; rintro e w2 ⟨rfl, rfl⟩
    go_wp2_with fail
    go_ret2
    exact ⟨rfl, hb1⟩
  rw [h2] at he
  have h3 := h2
  simp only [endB, Bool.and_eq_true, inB_true] at h3
  have hsc := fun W hr => l05Scale_any b n cap xs ys hn h1 hs l d h3.1.1.1 h3.1.1.2 h3.1.2.1 h3.1.2.2 W hr
  rw [scl_0 h1 h2]
  have Hk := Lib.hid hk; clear hk
  have He := Lib.hid he; clear he h1 h2 h3
  have hD := sclD_or (dens n xs ys) l d
  generalize sclD (dens n xs ys) l d = D at *
  generalize sclV (dens n xs ys) l d = V at *
  rcases hD with rfl | rfl
  · rw [ifOk_0] at *
    have Hsc := Lib.hid hsc; clear hsc
    go_enter Tryd.func40, Tryd.ntmps40
    go_wp2_with fail
    refine (Hk.out _ hr).mono ?_; rintro e w1 ⟨rfl, hb1⟩
    go_wp2_with fail
    refine (He.out _).mono ?_; rintro e w2 ⟨rfl, rfl⟩
    go_wp2_with fail
    refine (Hsc.out _ (hr.below hb1 hr.lt)).mono ?_; rintro e w2 ⟨rfl, hb2⟩
    go_wp2_with fail
    go_ret2
    exact ⟨rfl, hb1.trans (hb2.mono hb1.size)⟩
  · rw [ifOk_6] at *
    have Hsc := Lib.hid hsc; clear hsc
    go_enter Tryd.func40, Tryd.ntmps40
    go_wp2_with fail
    refine (Hk.out _ hr).mono ?_; rintro e w1 ⟨rfl, hb1⟩
    go_wp2_with fail
    refine (He.out _).mono ?_; rintro e w2 ⟨rfl, rfl⟩
    go_wp2_with fail
    refine (Hsc.out _ (hr.below hb1 hr.lt)).mono ?_; rintro e w2 ⟨rfl, hb2⟩
    go_wp2_with fail
    go_ret2
    exact ⟨rfl, hb1.trans (hb2.mono hb1.size)⟩

theorem errNeS (x : Addr) (w : World) : (binOp .neq 63 (errV x) .nilIface).run Tryd.prog w = .ok (.bool true) w := by kernel_rfl
theorem nilNeS (w : World) : (binOp .neq 63 .nilIface .nilIface).run Tryd.prog w = .ok (.bool false) w := by kernel_rfl
theorem isCode_zeroS {s : Ers} {v : Value} (h : IsCode s v 0) : v = .nilIface := by cases h; rfl
theorem isCode_sixS {s : Ers} {v : Value} (h : IsCode s v 6) : v = errV s.enotfound := by cases h; rfl

set_option maxRecDepth 100000 in
set_option maxHeartbeats 4000000 in
theorem scaleOf_any (s : Ers) (b n cap : Nat) (xs ys : Nat → Int) (l d : Int) (hn : n ≤ 1048576) (hs : SmallP n xs ys) (w : World) (hr : PtRow w b n xs ys) (hE : ErrEnv s w) :
    Calls Tryd.prog 74 #[.slice (some ⟨b, 0, none⟩) n cap, .int .i64 l, .int .i64 d] w (CodedX s (.int .i64 (ifOk (sclC n xs ys l d) (sclV (dens n xs ys) l d))) (sclC n xs ys l d) w.heap.size w) := by
  have hk := ValidCurve_any b n cap xs ys hn hs
  have hp := fun W => isDensity_any l W
  have hq := fun W => isDensity_any d W
  have ne := errNeS
  have nn := nilNeS
  rcases h1 : validC n xs ys with _ | _
  · rw [scl_1 h1, ifOk_1]
    rw [h1] at hk
    have Hk := Lib.hid hk; clear hk h1 hp hq
    go_enter Tryd.func74, Tryd.ntmps74
    go_wp2_with fail
    refine (Hk.out _ hr).mono ?_; rintro e w1 ⟨rfl, hb1⟩
    have ce := (hE.below hb1 (Nat.le_refl _)).c_einvalid
    go_wp2_with fail
    go_quiet (fail)
    go_wp2
    go_ret2
    exact ⟨_, .einvalid, rfl, below_drewL hb1 _⟩
  rw [h1] at hk
  have Hk := Lib.hid hk; clear hk
  rcases h2 : endB l d with _ | _
  · rw [scl_2 h1 h2, ifOk_2]
    clear h1
    rcases h3 : inB l 0 400 with _ | _
    rotate_left
    rcases h4 : inB d 0 400 with _ | _
    rotate_left
    have h5 : d ≤ l := by
      simp only [endB, h3, h4, Bool.and_self, Bool.true_and, decide_eq_false_iff_not] at h2
      omega
    all_goals
      rw [h3] at hp
      try rw [h4] at hq
      have Hp := Lib.hid hp; clear hp
      have Hq := Lib.hid hq; clear hq
      clear h2 h3
      go_enter Tryd.func74, Tryd.ntmps74
      go_wp2_with fail
      refine (Hk.out _ hr).mono ?_; rintro e w1 ⟨rfl, hb1⟩
      have ce := (hE.below hb1 (Nat.le_refl _)).c_erange
      go_wp2_with fail
      refine (Hp.out _).mono ?_; rintro e w2 ⟨rfl, rfl⟩
      go_wp2_with fail
      try (refine (Hq.out _).mono ?_; rintro e w2 ⟨rfl, rfl⟩; go_wp2_with fail)
      go_quiet (fail)
      go_wp2
      go_ret2
      exact ⟨_, .erange, rfl, below_drewL hb1 _⟩
  rw [scl_0 h1 h2]
  have hc := (validC_crv h1).1
  simp only [endB, Bool.and_eq_true, inB_true, decide_eq_true_eq] at h2
  obtain ⟨⟨hl, hd⟩, hld⟩ := h2
  rw [inB_true.2 hl] at hp
  rw [inB_true.2 hd] at hq
  have hx := fun W hr hE => leastAt_any s b n cap xs ys hn hc d (by omega) (by omega) W hr hE
  have hg := fun W hr hE => greatestAt_any s b n cap xs ys hn hc l (by omega) (by omega) W hr hE
  have fx := forX_is (dens n xs ys) d
  have gx := forX_is (negF (dens n xs ys)) (-l)
  have hlt := hr.lt
  have hgl : decide (d ≤ l) = false := decide_eq_false (by omega)
  unfold sclV
  have Hp := Lib.hid hp; clear hp
  have Hq := Lib.hid hq; clear hq h1 hc
  rcases lst_or (dens n xs ys) d with hC | hC
  rotate_left
  · rw [sclD_6 hC, ifOk_6]
    rw [hC, ifOk_6] at hx
    have Hx := Lib.hid hx; clear hx hC fx gx hg nn
    go_enter Tryd.func74, Tryd.ntmps74
    go_wp2_with fail
    refine (Hk.out _ hr).mono ?_; rintro e w1 ⟨rfl, hb1⟩
    go_wp2_with fail
    refine (Hp.out _).mono ?_; rintro e w2 ⟨rfl, rfl⟩
    go_wp2_with fail
    refine (Hq.out _).mono ?_; rintro e w2 ⟨rfl, rfl⟩
    go_wp2_with fail
    refine (Hx.out _ (hr.below hb1 hlt) (hE.below hb1 (Nat.le_refl _))).mono ?_; rintro e w2 ⟨v, hv, rfl, hb2⟩
    obtain rfl := isCode_sixS hv
    go_wp2_with fail
    go_ret2
    exact ⟨_, hv, rfl, hb1.trans (hb2.mono hb1.size)⟩
  rw [sclD_0 hC]
  rw [hC, ifOk_0] at hx
  generalize forX (dens n xs ys) d = X at *
  generalize forX (negF (dens n xs ys)) (-l) = Y at *
  have Hx := Lib.hid hx; clear hx hC
  obtain ⟨fx0, fx1, -, -⟩ := fx
  obtain ⟨gx0, gx1, -, -⟩ := gx
  rcases lst_or (negF (dens n xs ys)) (-l) with hD | hD
  · rw [hD] at hg ⊢
    rw [ifOk_0] at *
    have Hg := Lib.hid hg; clear hg hD ne
    go_enter Tryd.func74, Tryd.ntmps74
    go_wp2_with fail
    refine (Hk.out _ hr).mono ?_; rintro e w1 ⟨rfl, hb1⟩
    go_wp2_with fail
    refine (Hp.out _).mono ?_; rintro e w2 ⟨rfl, rfl⟩
    go_wp2_with fail
    refine (Hq.out _).mono ?_; rintro e w2 ⟨rfl, rfl⟩
    go_wp2_with fail
    refine (Hx.out _ (hr.below hb1 hlt) (hE.below hb1 (Nat.le_refl _))).mono ?_; rintro e w2 ⟨v, hv, rfl, hb2⟩
    obtain rfl := isCode_zeroS hv
    have k2 := hb1.trans (hb2.mono hb1.size)
    go_wp2_with fail
    refine (Hg.out _ (hr.below k2 hlt) (hE.below k2 (Nat.le_refl _))).mono ?_; rintro e w3 ⟨v, hv, rfl, hb3⟩
    obtain rfl := isCode_zeroS hv
    go_wp2_with fail
    go_ret2
    exact ⟨_, hv, rfl, k2.trans (hb3.mono k2.size)⟩
  · rw [hD] at hg ⊢
    rw [ifOk_6] at *
    have Hg := Lib.hid hg; clear hg hD
    go_enter Tryd.func74, Tryd.ntmps74
    go_wp2_with fail
    refine (Hk.out _ hr).mono ?_; rintro e w1 ⟨rfl, hb1⟩
    go_wp2_with fail
    refine (Hp.out _).mono ?_; rintro e w2 ⟨rfl, rfl⟩
    go_wp2_with fail
    refine (Hq.out _).mono ?_; rintro e w2 ⟨rfl, rfl⟩
    go_wp2_with fail
    refine (Hx.out _ (hr.below hb1 hlt) (hE.below hb1 (Nat.le_refl _))).mono ?_; rintro e w2 ⟨v, hv, rfl, hb2⟩
    obtain rfl := isCode_zeroS hv
    have k2 := hb1.trans (hb2.mono hb1.size)
    go_wp2_with fail
    refine (Hg.out _ (hr.below k2 hlt) (hE.below k2 (Nat.le_refl _))).mono ?_; rintro e w3 ⟨v, hv, rfl, hb3⟩
    obtain rfl := isCode_sixS hv
    go_wp2_with fail
    go_ret2
    exact ⟨_, hv, rfl, k2.trans (hb3.mono k2.size)⟩

set_option maxHeartbeats 1000000 in
theorem ScaleOf_any (s : Ers) (b n cap : Nat) (xs ys : Nat → Int) (l d : Int) (hn : n ≤ 1048576) (hs : SmallP n xs ys) (w : World) (hr : PtRow w b n xs ys) (hE : ErrEnv s w) :
    Calls Tryd.prog 41 #[.slice (some ⟨b, 0, none⟩) n cap, .int .i64 l, .int .i64 d] w fun e w' => e = .returned (.tuple #[.int .i64 (ifOk (sclC n xs ys l d) (sclV (dens n xs ys) l d)), .int .i64 (sclC n xs ys l d)]) ∧ Below w.heap.size w w' := by
  have hk := scaleOf_any s b n cap xs ys l d hn hs
  generalize ifOk (sclC n xs ys l d) (sclV (dens n xs ys) l d) = V at hk ⊢
  generalize sclC n xs ys l d = C at hk ⊢
  have Hk := Lib.hid hk; clear hk
  go_enter Tryd.func41, Tryd.ntmps41
  go_wp2_with fail
  refine (Hk.out _ hr hE).mono ?_; rintro e w1 ⟨v, hv, rfl, hb1⟩
  go_wp2_with fail
  refine (codedInt_any hv _ _ (hE.below hb1 (Nat.le_refl _))).mono ?_; rintro e w2 ⟨rfl, rfl⟩
  go_wp2_with fail
  go_ret2
  exact ⟨rfl, hb1⟩
end Go.Proofs.YtkhahffdacopdaaDoor

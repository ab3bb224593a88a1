/-
  The exposures with just a density, with their codes: the exported function and the reference's. Condition: at most 1048576 points; the program's variables hold their own errors.
-/
import Derived.Test.YtpombpphicmhmaaDoorCurC
namespace Go.Proofs.YtpombpphicmhmaaDoor
open Go.RowKit

theorem exposuresFor_any (s : Ers) (b n cap : Nat) (xs ys : Nat → Int) (y : Int) (hn : n ≤ 1048576) (hs : SmallP n xs ys) (w : World) (hr : PtRow w b n xs ys) (hE : ErrEnv s w) :
    Calls Tryd.prog 44 #[.slice (some ⟨b, 0, none⟩) n cap, .int .i64 y] w (CodedX s (.agg #[.int .i64 (ifOk (exsC n xs ys y) (forX (dens n xs ys) y)), .int .i64 (ifOk (exsC n xs ys y) (forX (dens n xs ys) (y + 1) - 1))]) (exsC n xs ys y) w.heap.size w) := by
  by_cases h : expC n xs ys y = 0
  · exact exposuresFor_ok s b n cap xs ys y hn hs w hr hE h
  · rw [exs_err h]
    have h1 : ∀ v, ifOk (expC n xs ys y) v = 0 := fun v => by simp [ifOk, h]
    rw [h1, h1]
    exact exposuresFor_err s b n cap xs ys y hn hs w hr hE h

set_option maxRecDepth 100000 in
set_option maxHeartbeats 1000000 in
theorem ExposuresFor_any (s : Ers) (b n cap : Nat) (xs ys : Nat → Int) (y : Int) (hn : n ≤ 1048576) (hs : SmallP n xs ys) (w : World) (hr : PtRow w b n xs ys) (hE : ErrEnv s w) :
    Calls Tryd.prog 20 #[.slice (some ⟨b, 0, none⟩) n cap, .int .i64 y] w fun e w' => e = .returned (.tuple #[.int .i64 (ifOk (exsC n xs ys y) (forX (dens n xs ys) y)), .int .i64 (ifOk (exsC n xs ys y) (forX (dens n xs ys) (y + 1) - 1)), .int .i64 (exsC n xs ys y)]) ∧ Below w.heap.size w w' := by
  have hk := exposuresFor_any s b n cap xs ys y hn hs
  generalize ifOk (exsC n xs ys y) (forX (dens n xs ys) y) = V at hk ⊢
  generalize ifOk (exsC n xs ys y) (forX (dens n xs ys) (y + 1) - 1) = V2 at hk ⊢
  generalize exsC n xs ys y = C at hk ⊢
  have Hk := Lib.hid hk; clear hk
  go_enter Tryd.func20, Tryd.ntmps20
  go_wp2_with fail
  refine (Hk.out _ hr hE).mono ?_; rintro e w1 ⟨v, hv, rfl, hb1⟩
  go_wp2_with fail
  have hE1 := (hE.below hb1 (Nat.le_refl _)).alloc (.cells #[.int .i64 V, .int .i64 V2] 56)
  have hB : Below w.heap.size w (w1.alloc (.cells #[.int .i64 V, .int .i64 V2] 56)) := hb1.alloc hb1.size _
  have d0 : (w1.alloc (.cells #[.int .i64 V, .int .i64 V2] 56)).cell? ⟨w1.heap.size, 0, none⟩ = some (.int .i64 V) := by simp
  have d1 : (w1.alloc (.cells #[.int .i64 V, .int .i64 V2] 56)).cell? ⟨w1.heap.size, 1, none⟩ = some (.int .i64 V2) := by simp
  generalize w1.alloc (.cells #[.int .i64 V, .int .i64 V2] 56) = W at hE1 hB d0 d1 ⊢
  refine wp_region_quietD (Below W.heap.size W) (by kernel_rfl) (by kernel_rfl) (below_drew1 _) ?_
  have n0 := below_nonempty W
  have e0 := inCell d0
  have e1 := inCell d1
  repeat (go_big_quiet_step ((go_at_call 45; exact inCallS _ (codeOf_any hv _ (hE1.below (WIn.ok _) (Nat.le_refl _))))))
  refine wpQuiet_nil ?_
  rintro _ ⟨x, rfl⟩
  go_wp2
  go_ret3
  exact ⟨rfl, hB.trans (x.ok.mono hB.size)⟩

set_option maxRecDepth 100000 in
set_option maxHeartbeats 1000000 in
theorem specExposuresFor_any (b n cap : Nat) (xs ys : Nat → Int) (y : Int) (hn : n ≤ 1048576) (hs : SmallP n xs ys) (w : World) (hr : PtRow w b n xs ys) :
    Calls Tryd.prog 19 #[.slice (some ⟨b, 0, none⟩) n cap, .int .i64 y] w fun e w' => e = .returned (.tuple #[.int .i64 (ifOk (exsC n xs ys y) (forX (dens n xs ys) y)), .int .i64 (ifOk (exsC n xs ys y) (forX (dens n xs ys) (y + 1) - 1)), .int .i64 (exsC n xs ys y)]) ∧ Below w.heap.size w w' := by
  have ha := l02Dense_any b n cap xs ys y hn hs
  rcases h1 : validC n xs ys with _ | _
  · rw [den_bad h1] at ha
    rw [exs_err (by rw [exp_bad h1]; omega), exp_bad h1, ifOk_1, ifOk_1]
    have Ha := Lib.hid ha; clear ha h1
    go_enter Tryd.func19, Tryd.ntmps19
    go_wp2_with fail
    refine (Ha.out _ hr).mono ?_; rintro e w1 ⟨rfl, hb1⟩
    go_wp2_with fail
    go_ret3
    exact ⟨rfl, hb1⟩
  · rcases h2 : inB y 0 400 with _ | _
    · rw [den_far h1 h2] at ha
      rw [exs_err (by rw [exp_far h1 h2]; omega), exp_far h1 h2, ifOk_2, ifOk_2]
      have Ha := Lib.hid ha; clear ha h1 h2
      go_enter Tryd.func19, Tryd.ntmps19
      go_wp2_with fail
      refine (Ha.out _ hr).mono ?_; rintro e w1 ⟨rfl, hb1⟩
      go_wp2_with fail
      go_ret3
      exact ⟨rfl, hb1⟩
    · rw [den_yes h1 h2] at ha
      have hx := inB_true.1 h2
      have hc := (validC_crv h1).1
      have hv := fun (y : Int) (hy : -1000000 ≤ y) (hy' : y ≤ 1000000) W h => l02For_any b n cap xs ys hn hc y hy hy' W h
      have hat := fun (x : Int) (h : -1000000 ≤ x) (h' : x ≤ 1000000) W hW => l02At_any b n cap xs ys hn hc x h h' W hW
      have hbd := fun x => dens_400 hc x
      have he := exp_yes h1 h2
      have hno := exs_no (n := n) (xs := xs) (ys := ys) (y := y)
      have hyes := exs_yes (n := n) (xs := xs) (ys := ys) (y := y)
      have herr := exs_err (n := n) (xs := xs) (ys := ys) (y := y)
      rw [he] at hno hyes herr
      clear he
      have hfb := forX_is (dens n xs ys) y
      obtain ⟨hf0, hf1, -, -⟩ := hfb
      have hfb2 := forX_is (dens n xs ys) (y + 1)
      obtain ⟨hg0, hg1, -, -⟩ := hfb2
      generalize exsC n xs ys y = C at hno hyes herr ⊢
      generalize dens n xs ys = f at *
      have hv1 := hv (y + 1) (by omega) (by omega)
      have hv := hv y (by omega) (by omega)
      have hat := hat (forX f y) (by omega) (by omega)
      have hb := hbd (forX f y)
      clear hbd
      have Hk := Lib.hid ha; clear ha h1 h2 hc
      by_cases hV : forX f y = 201
      · have hC := herr (by rw [lst_no hV]; omega)
        rw [lst_no hV] at hC
        subst hC
        clear hno hyes herr hat hv1
        rw [ifOk_6, ifOk_6]
        rw [hV] at hv
        have Hv := Lib.hid hv; clear hv hV
        go_enter Tryd.func19, Tryd.ntmps19
        go_wp2_with fail
        refine (Hk.out _ hr).mono ?_; rintro e w1 ⟨rfl, hb1⟩
        go_wp2_with fail
        refine (Hv.out _ (hr.below hb1 hr.lt)).mono ?_; rintro e w2 ⟨rfl, hb2⟩
        go_wp2_with fail
        go_ret3
        exact ⟨rfl, hb1.trans (hb2.mono hb1.size)⟩
      · have hl := lst_yes (f := f) (y := y) hV
        have hno := hno hl
        have hyes := hyes hl
        clear herr hl
        by_cases hq : f (forX f y) = y
        · obtain rfl := hyes hq
          rw [ifOk_0, ifOk_0]
          rw [hq] at hat
          clear hno hyes hq
          generalize forX f y = V at *
          generalize forX f (y + 1) = V2 at *
          have hV2 : V ≤ 200 := by omega
          have Hv := Lib.hid hv; clear hv
          have Hv1 := Lib.hid hv1; clear hv1
          have Hat := Lib.hid hat; clear hat hV
          go_enter Tryd.func19, Tryd.ntmps19
          go_wp2_with fail
          refine (Hk.out _ hr).mono ?_; rintro e w1 ⟨rfl, hb1⟩
          have k1 := hb1
          go_wp2_with fail
          refine (Hv.out _ (hr.below k1 hr.lt)).mono ?_; rintro e w2 ⟨rfl, hb2⟩
          have k2 := k1.trans (hb2.mono k1.size)
          go_wp2_with fail
          refine (Hat.out _ (hr.below k2 hr.lt)).mono ?_; rintro e w3 ⟨rfl, hb3⟩
          have k3 := k2.trans (hb3.mono k2.size)
          go_wp2_with fail
          refine (Hv1.out _ (hr.below k3 hr.lt)).mono ?_; rintro e w4 ⟨rfl, hb4⟩
          have k4 := k3.trans (hb4.mono k3.size)
          go_wp2_with fail
          go_ret3
          exact ⟨rfl, k4⟩
        · obtain rfl := hno hq
          rw [ifOk_6, ifOk_6]
          clear hno hyes hv1
          generalize f (forX f y) = X at *
          generalize forX f y = V at *
          have hx2 : (X != y) = true := by simpa using hq
          have hV2 : V ≤ 200 := by omega
          have Hv := Lib.hid hv; clear hv
          have Hat := Lib.hid hat; clear hat hV hq
          go_enter Tryd.func19, Tryd.ntmps19
          go_wp2_with fail
          refine (Hk.out _ hr).mono ?_; rintro e w1 ⟨rfl, hb1⟩
          have k1 := hb1
          go_wp2_with fail
          refine (Hv.out _ (hr.below k1 hr.lt)).mono ?_; rintro e w2 ⟨rfl, hb2⟩
          have k2 := k1.trans (hb2.mono k1.size)
          go_wp2_with fail
          refine (Hat.out _ (hr.below k2 hr.lt)).mono ?_; rintro e w3 ⟨rfl, hb3⟩
          have k3 := k2.trans (hb3.mono k2.size)
          go_wp2_with fail
          go_ret3
          exact ⟨rfl, k3⟩
end Go.Proofs.YtpombpphicmhmaaDoor

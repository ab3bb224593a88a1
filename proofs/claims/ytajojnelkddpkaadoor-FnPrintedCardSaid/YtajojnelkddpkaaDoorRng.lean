/-
  The range of a print: what the program's and the reference's functions return, for every two lists of at most 1048576 points. Condition of the program's: its variables hold their own errors.
-/
import Derived.Test.YtajojnelkddpkaaDoorLgt
namespace Go.Proofs.YtajojnelkddpkaaDoor
open Go.RowKit

/-- The code of a range. -/
def prgC (n : Nat) (xs ys : Nat → Int) (m : Nat) (us vs : Nat → Int) (low high light : Int) : Int := if bthC n xs ys m us vs low light = 0 then (if inB high (-200) 200 = true then (if low ≤ high then 0 else 4) else 2) else bthC n xs ys m us vs low light
theorem prg_bth {n : Nat} {xs ys : Nat → Int} {m : Nat} {us vs : Nat → Int} {low high light : Int} (h : bthC n xs ys m us vs low light ≠ 0) : prgC n xs ys m us vs low high light = bthC n xs ys m us vs low light := by simp [prgC, h]
theorem prg_far {n : Nat} {xs ys : Nat → Int} {m : Nat} {us vs : Nat → Int} {low high light : Int} (h : bthC n xs ys m us vs low light = 0) (h2 : inB high (-200) 200 = false) : prgC n xs ys m us vs low high light = 2 := by simp [prgC, h, h2]
theorem prg_state {n : Nat} {xs ys : Nat → Int} {m : Nat} {us vs : Nat → Int} {low high light : Int} (h : bthC n xs ys m us vs low light = 0) (h2 : inB high (-200) 200 = true) (h3 : ¬ low ≤ high) : prgC n xs ys m us vs low high light = 4 := by simp [prgC, h, h2, h3]
theorem prg_ok {n : Nat} {xs ys : Nat → Int} {m : Nat} {us vs : Nat → Int} {low high light : Int} (h : bthC n xs ys m us vs low light = 0) (h2 : inB high (-200) 200 = true) (h3 : low ≤ high) : prgC n xs ys m us vs low high light = 0 := by simp [prgC, h, h2, h3]
theorem ifOk_4 (v : Int) : ifOk 4 v = 0 := rfl
theorem prnV_anti {n : Nat} {xs ys : Nat → Int} {m : Nat} {us vs : Nat → Int} (c : Crv n xs ys) (c' : Crv m us vs) {x x' : Int} (h : x ≤ x') (light : Int) : prnV n xs ys m us vs x' light ≤ prnV n xs ys m us vs x light := by
  unfold prnV
  have h1 := dens_mono c h
  have h2 : heldH (dens n xs ys x) ≤ heldH (dens n xs ys x') := by unfold heldH; omega
  exact dens_mono c' (by omega)

theorem l00Min_any (a b : Int) (w : World) : Calls Tryd.prog 26 #[.int .i64 a, .int .i64 b] w fun e w' => e = .returned (.int .i64 (if a < b then a else b)) ∧ w = w' := by
  by_cases h : a < b
  · rw [if_pos h]
    go_enter Tryd.func26, Tryd.ntmps26
    go_wp2
    go_ret
    exact ⟨rfl, rfl⟩
  · rw [if_neg h]
    go_enter Tryd.func26, Tryd.ntmps26
    go_wp2
    go_ret
    exact ⟨rfl, rfl⟩
theorem l00Max_any (a b : Int) (w : World) : Calls Tryd.prog 27 #[.int .i64 a, .int .i64 b] w fun e w' => e = .returned (.int .i64 (if b < a then a else b)) ∧ w = w' := by
  by_cases h : b < a
  · rw [if_pos h]
    go_enter Tryd.func27, Tryd.ntmps27
    go_wp2
    go_ret
    exact ⟨rfl, rfl⟩
  · rw [if_neg h]
    go_enter Tryd.func27, Tryd.ntmps27
    go_wp2
    go_ret
    exact ⟨rfl, rfl⟩

set_option maxRecDepth 100000 in
set_option maxHeartbeats 1000000 in
theorem specPrintedRange_any (b n cap : Nat) (xs ys : Nat → Int) (b' m cap' : Nat) (us vs : Nat → Int) (low high light : Int) (hn : n ≤ 1048576) (hm : m ≤ 1048576) (hs : SmallP n xs ys) (hs' : SmallP m us vs) (w : World) (hr : PtRow w b n xs ys) (hr' : PtRow w b' m us vs) :
    Calls Tryd.prog 12 #[.slice (some ⟨b, 0, none⟩) n cap, .slice (some ⟨b', 0, none⟩) m cap', .int .i64 low, .int .i64 high, .int .i64 light] w fun e w' => e = .returned (.tuple #[.int .i64 (ifOk (prgC n xs ys m us vs low high light) (prnV n xs ys m us vs high light)), .int .i64 (ifOk (prgC n xs ys m us vs low high light) (prnV n xs ys m us vs low light)), .int .i64 (prgC n xs ys m us vs low high light)]) ∧ Below w.heap.size w w' := by
  have ha := fun W h h' => l02Both_any b n cap xs ys b' m cap' us vs low light hn hm hs hs' W h h'
  by_cases h0 : bthC n xs ys m us vs low light = 0
  · obtain ⟨hv1, hv2, hv3, hv4⟩ := bth_all h0
    have hp := fun W => l02Place_any high W
    rw [h0] at ha
    rcases h4 : inB high (-200) 200 with _ | _
    · rw [prg_far h0 h4, ifOk_2, ifOk_2]
      rw [h4] at hp
      have Ha := Lib.hid ha; clear ha h0 hv1 hv2 hv3 hv4
      have Hp := Lib.hid hp; clear hp h4
      go_enter Tryd.func12, Tryd.ntmps12
      go_wp2_with fail
      refine (Ha.out _ hr hr').mono ?_; rintro e w1 ⟨rfl, hb1⟩
      go_wp2_with fail
      refine (Hp.out _).mono ?_; rintro e w2 ⟨rfl, rfl⟩
      go_wp2_with fail
      go_ret3
      exact ⟨rfl, hb1⟩
    · rw [h4] at hp
      have b1 := inB_true.1 hv3
      have b2 := inB_true.1 hv4
      have b3 := inB_true.1 h4
      by_cases hle : low ≤ high
      · rw [prg_ok h0 h4 hle, ifOk_0, ifOk_0]
        have hv := fun (x : Int) (hx : -1000 ≤ x) (hx' : x ≤ 1000) W h h' => l02Printed_any b n cap xs ys b' m cap' us vs x light hn hm (validC_crv hv1).1 (validC_crv hv2).1 hx hx' (by omega) (by omega) W h h'
        have han := fun (x x' : Int) (h : x ≤ x') => prnV_anti (validC_crv hv1).1 (validC_crv hv2).1 h light
        have hbd : ∀ x, 0 ≤ prnV n xs ys m us vs x light ∧ prnV n xs ys m us vs x light ≤ 400 := fun l => dens_400 (validC_crv hv2).1 _
        generalize hf : (fun x => prnV n xs ys m us vs x light) = f
        replace hv : ∀ (x : Int) (hx : -1000 ≤ x) (hx' : x ≤ 1000) (W : World) (h : PtRow W b n xs ys) (h' : PtRow W b' m us vs), Calls Tryd.prog 20 #[.slice (some ⟨b, 0, none⟩) n cap, .slice (some ⟨b', 0, none⟩) m cap', .int .i64 x, .int .i64 light] W fun e w' => e = .returned (.int .i64 (f x)) ∧ Below W.heap.size W w' := by rw [← hf]; exact hv
        replace han : ∀ (x x' : Int) (h : x ≤ x'), f x' ≤ f x := by rw [← hf]; exact han
        replace hbd : ∀ x, 0 ≤ f x ∧ f x ≤ 400 := by rw [← hf]; exact hbd
        have hg1 : prnV n xs ys m us vs high light = f high := by rw [← hf]
        have hg2 : prnV n xs ys m us vs low light = f low := by rw [← hf]
        rw [hg1, hg2]
        clear hf hg1 hg2
        have hlt := hr.lt
        have hlt' := hr'.lt
        have Ha := Lib.hid ha; clear ha h0 hv1 hv2 hv3 hv4
        have Hp := Lib.hid hp; clear hp h4
        have Hv := Lib.hid hv; clear hv
        have Han := Lib.hid han; clear han
        have Hbd := Lib.hid hbd; clear hbd
        have dgt : decide (high < low) = false := decide_eq_false (by omega)
        go_enter Tryd.func12, Tryd.ntmps12
        go_wp2_with fail
        refine (Ha.out _ hr hr').mono ?_; rintro e w1 ⟨rfl, hb1⟩
        go_wp2_with fail
        refine (Hp.out _).mono ?_; rintro e w2 ⟨rfl, rfl⟩
        go_wp2_with fail
        refine (Hv.out low (by omega) (by omega) _ (hr.below hb1 hlt) (hr'.below hb1 hlt')).mono ?_; rintro e w2 ⟨rfl, hb2⟩
        have k2 := hb1.trans (hb2.mono hb1.size)
        go_wp2_with fail
        go_loopw [14, 15, 16] (fun l h i wr => ∃ z : Int, i = .int .i64 z ∧ low < z ∧ z ≤ high + 1 ∧ l = .int .i64 (f (z - 1)) ∧ h = .int .i64 (f low) ∧ Below w.heap.size w wr) (fun _ _ i _ => (high + 1 - intOf i).toNat)
        case atStart => exact ⟨low + 1, rfl, by omega, by omega, by rw [Int.add_sub_cancel], rfl, k2⟩
        case round =>
          obtain ⟨z, rfl, hz0, hz1, rfl, rfl, hB⟩ := hrel
          have hsz := hB.size
          by_cases h2 : z ≤ high
          · have hk := Hv.out z (by omega) (by omega) wr (hr.below hB hlt) (hr'.below hB hlt')
            have h3 := Han.out (z - 1) z (by omega)
            have h4 := Han.out low z (by omega)
            have hmn := fun W => l00Min_any (f (z - 1)) (f z) W
            have hmx := fun W => l00Max_any (f low) (f z) W
            have em : (if f (z - 1) < f z then f (z - 1) else f z) = f z := by rw [if_neg (by omega)]
            have ex : (if f z < f low then f low else f z) = f low := by
              by_cases h5 : f z < f low
              · rw [if_pos h5]
              · rw [if_neg h5]; omega
            rw [em] at hmn
            rw [ex] at hmx
            clear em ex h3 h4
            have Hk := Lib.hid hk; clear hk
            have Hmn := Lib.hid hmn; clear hmn
            have Hmx := Lib.hid hmx; clear hmx
            go_wp2_with fail
            refine Hk.out.mono ?_; rintro e w3 ⟨rfl, hb3⟩
            go_wp2_with fail
            refine (Hmn.out _).mono ?_; rintro e w4 ⟨rfl, rfl⟩
            go_wp2_with fail
            refine (Hmx.out _).mono ?_; rintro e w4 ⟨rfl, rfl⟩
            go_wp2_with fail
            go_roundw
            case rel => exact ⟨z + 1, rfl, by omega, by omega, by rw [Int.add_sub_cancel], rfl, hB.trans (hb3.mono hsz)⟩
            case measure => simp [intOf]; omega
          · obtain rfl : z = high + 1 := by omega
            rw [Int.add_sub_cancel]
            go_wp2_with fail
            go_ret3
            exact ⟨rfl, hB⟩
      · rw [prg_state h0 h4 hle, ifOk_4, ifOk_4]
        have Ha := Lib.hid ha; clear ha h0 hv1 hv2 hv3 hv4
        have Hp := Lib.hid hp; clear hp h4
        have hgt : high < low := by omega
        go_enter Tryd.func12, Tryd.ntmps12
        go_wp2_with fail
        refine (Ha.out _ hr hr').mono ?_; rintro e w1 ⟨rfl, hb1⟩
        go_wp2_with fail
        refine (Hp.out _).mono ?_; rintro e w2 ⟨rfl, rfl⟩
        go_wp2_with fail
        go_ret3
        exact ⟨rfl, hb1⟩
  · have hz : ∀ v, ifOk (bthC n xs ys m us vs low light) v = 0 := fun v => by simp [ifOk, h0]
    rw [prg_bth h0, hz, hz]
    generalize bthC n xs ys m us vs low light = C at *
    have hc : (C != 0) = true := by simpa using h0
    have hc2 : (C == 0) = false := by simpa using h0
    have Ha := Lib.hid ha; clear ha h0 hz
    go_enter Tryd.func12, Tryd.ntmps12
    go_wp2_with fail
    refine (Ha.out _ hr hr').mono ?_; rintro e w1 ⟨rfl, hb1⟩
    go_wp2_with fail
    go_ret3
    exact ⟨rfl, hb1⟩
end Go.Proofs.YtajojnelkddpkaaDoor

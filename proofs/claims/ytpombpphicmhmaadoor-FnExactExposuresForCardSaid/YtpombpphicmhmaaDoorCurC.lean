/-
  The exposures with just a density: what the program's and the reference's functions return, for every list of at most 1048576 points. Condition of the program's: its variables hold their own errors.
-/
import Derived.Test.YtpombpphicmhmaaDoorCurB
import Derived.Test.YtpombpphicmhmaaDoorQuietTail
namespace Go.Proofs.YtpombpphicmhmaaDoor
open Go.RowKit

def exsC (n : Nat) (xs ys : Nat → Int) (y : Int) : Int := if expC n xs ys y = 0 then (if dens n xs ys (forX (dens n xs ys) y) = y then 0 else 6) else expC n xs ys y
theorem exs_err {n : Nat} {xs ys : Nat → Int} {y : Int} (h : expC n xs ys y ≠ 0) : exsC n xs ys y = expC n xs ys y := by simp [exsC, h]
theorem exs_no {n : Nat} {xs ys : Nat → Int} {y : Int} (h : expC n xs ys y = 0) (h2 : dens n xs ys (forX (dens n xs ys) y) ≠ y) : exsC n xs ys y = 6 := by simp [exsC, h, h2]
theorem exs_yes {n : Nat} {xs ys : Nat → Int} {y : Int} (h : expC n xs ys y = 0) (h2 : dens n xs ys (forX (dens n xs ys) y) = y) : exsC n xs ys y = 0 := by simp [exsC, h, h2]
theorem exp_cases (n : Nat) (xs ys : Nat → Int) (y : Int) : expC n xs ys y = 1 ∨ expC n xs ys y = 2 ∨ expC n xs ys y = 6 ∨ expC n xs ys y = 0 := by
  unfold expC denC lstC
  split <;> split <;> first | omega | (split <;> omega) | skip
  all_goals first | omega | (split <;> first | omega | (split <;> omega))
/-- From low to z the density is y. -/
def AllSame (f : Int → Int) (y low z : Int) : Prop := ∀ u, low ≤ u → u ≤ z → f u = y
theorem AllSame.next {f : Int → Int} {y low z : Int} (h : AllSame f y low z) (hz : f (z + 1) = y) : AllSame f y low (z + 1) := fun u h1 h2 => by
  by_cases e : u = z + 1
  · rw [e]; exact hz
  · exact h u h1 (by omega)
theorem same_end {f : Int → Int} {y z : Int} (hm : ∀ u v : Int, u ≤ v → f u ≤ f v) (h : AllSame f y (forX f y) z) (h0 : forX f y ≤ z) (h1 : z ≤ 200) (hz : z = 200 ∨ f (z + 1) ≠ y) : forX f (y + 1) - 1 = z := by
  obtain ⟨i0, i1, i2, -⟩ := forX_is f y
  have e : forX f (y + 1) = z + 1 := by
    refine forX_eq (by omega) (by omega) (fun u hu hu' => ?_) ?_
    · rcases Int.lt_or_le u (forX f y) with h2 | h2
      · have := i2 u hu h2; omega
      · have := h u h2 (by omega); omega
    · rcases hz with hz | hz
      · exact .inl (by omega)
      · have h3 := h z h0 (Int.le_refl _)
        have h4 := hm z (z + 1) (by omega)
        exact .inr (by omega)
  omega

set_option maxRecDepth 100000 in
set_option maxHeartbeats 1000000 in
theorem exposuresFor_err (s : Ers) (b n cap : Nat) (xs ys : Nat → Int) (y : Int) (hn : n ≤ 1048576) (hs : SmallP n xs ys) (w : World) (hr : PtRow w b n xs ys) (hE : ErrEnv s w) (h : expC n xs ys y ≠ 0) :
    Calls Tryd.prog 44 #[.slice (some ⟨b, 0, none⟩) n cap, .int .i64 y] w (CodedX s (.agg #[.int .i64 0, .int .i64 0]) (expC n xs ys y) w.heap.size w) := by
  have hk := exposureFor_any s b n cap xs ys y hn hs
  have hz : ifOk (expC n xs ys y) (forX (dens n xs ys) y) = 0 := by simp [ifOk, h]
  rw [hz] at hk
  clear hz
  generalize expC n xs ys y = C at hk h ⊢
  have Hk := Lib.hid hk; clear hk
  have k0 : Below w.heap.size w (w.alloc (.cells #[.int .i64 0, .int .i64 0] 56)) := (Below.refl _ _).alloc (Nat.le_refl _) _
  go_enter Tryd.func44, Tryd.ntmps44
  go_wp2_with fail
  refine (Hk.out _ (hr.below k0 hr.lt) (hE.below k0 (Nat.le_refl _))).mono ?_; rintro e w1 ⟨v, hv, rfl, hb1⟩
  obtain ⟨q1, f1⟩ := bcell hb1
  have z1 : w.heap.size < w1.heap.size := by have := hb1.size; simp at this; omega
  have d0 : w1.cell? ⟨w.heap.size, 0, none⟩ = some (.int .i64 0) := by rw [q1 _ _ (by simp)]; simp
  have d1 : w1.cell? ⟨w.heap.size, 1, none⟩ = some (.int .i64 0) := by rw [q1 _ _ (by simp)]; simp
  have g0 : w1.frozen? ⟨w.heap.size, 0, none⟩ = false := by rw [f1 _ _ (by simp)]; simp
  have g1 : w1.frozen? ⟨w.heap.size, 1, none⟩ = false := by rw [f1 _ _ (by simp)]; simp
  clear q1 f1
  have hb := ((k0.trans (hb1.mono k0.size)).setCell (p := ⟨w.heap.size, 0, none⟩) (Nat.le_refl _) (.int .i64 0)).setCell (p := ⟨w.heap.size, 1, none⟩) (Nat.le_refl _) (.int .i64 0)
  have r0 : ((w1.setCell ⟨w.heap.size, 0, none⟩ (.int .i64 0)).setCell ⟨w.heap.size, 1, none⟩ (.int .i64 0)).cell? ⟨w.heap.size, 0, none⟩ = some (.int .i64 0) := by simp [go_sem, d0]
  have r1 : ((w1.setCell ⟨w.heap.size, 0, none⟩ (.int .i64 0)).setCell ⟨w.heap.size, 1, none⟩ (.int .i64 0)).cell? ⟨w.heap.size, 1, none⟩ = some (.int .i64 0) := by simp [go_sem, d1]
  clear Hk hb1
  cases hv
  · exact absurd rfl h
  all_goals
    clear h
    go_wp2_with fail
    exact bodyPost_ret (v := .tuple #[.agg #[.int .i64 0, .int .i64 0], _]) (by simp [results, Tryd.results44, go_sem, d0, d1]; rfl) rfl ⟨_, by constructor, rfl, hb⟩

set_option maxRecDepth 100000 in
set_option maxHeartbeats 1000000 in
theorem exposuresFor_ok (s : Ers) (b n cap : Nat) (xs ys : Nat → Int) (y : Int) (hn : n ≤ 1048576) (hs : SmallP n xs ys) (w : World) (hr : PtRow w b n xs ys) (hE : ErrEnv s w) (h : expC n xs ys y = 0) :
    Calls Tryd.prog 44 #[.slice (some ⟨b, 0, none⟩) n cap, .int .i64 y] w (CodedX s (.agg #[.int .i64 (ifOk (exsC n xs ys y) (forX (dens n xs ys) y)), .int .i64 (ifOk (exsC n xs ys y) (forX (dens n xs ys) (y + 1) - 1))]) (exsC n xs ys y) w.heap.size w) := by
  have hk := exposureFor_any s b n cap xs ys y hn hs
  have hz : ifOk (expC n xs ys y) (forX (dens n xs ys) y) = forX (dens n xs ys) y := by rw [h]; rfl
  rw [hz, h] at hk
  clear hz
  have hval : validC n xs ys = true := by
    rcases hv : validC n xs ys with _ | _
    · rw [exp_bad hv] at h; cases h
    · rfl
  have hin : inB y 0 400 = true := by
    rcases hv : inB y 0 400 with _ | _
    · rw [exp_far hval hv] at h; cases h
    · rfl
  have hy := inB_true.1 hin
  have hne : forX (dens n xs ys) y ≠ 201 := fun he => by rw [exp_yes hval hin, lst_no he] at h; cases h
  obtain ⟨c, -⟩ := validC_crv hval
  have hno := exs_no h
  have hyes := exs_yes h
  have hfi := forX_is (dens n xs ys) y
  have hat := fun (x : Int) (h : -1000000 ≤ x) (h' : x ≤ 1000000) W hW => at_any b n cap xs ys hn c x h h' W hW
  have hbd := fun x => dens_400 c x
  have hm := fun u v (huv : u ≤ v) => dens_mono c (x := u) (x' := v) huv
  generalize exsC n xs ys y = C at hno hyes ⊢
  clear h hval hin c
  generalize dens n xs ys = f at *
  obtain ⟨hf0, hf1, hf2, -⟩ := hfi
  have Hk := Lib.hid hk; clear hk
  have Hat := Lib.hid hat; clear hat
  have Hbd := Lib.hid hbd; clear hbd
  have Hm := Lib.hid hm; clear hm
  have hlt := hr.lt
  have k0 : Below w.heap.size w (w.alloc (.cells #[.int .i64 0, .int .i64 0] 56)) := (Below.refl _ _).alloc (Nat.le_refl _) _
  have hb := Hbd.out (forX f y)
  by_cases hq : f (forX f y) = y
  · obtain rfl := hyes hq
    clear hyes hno
    rw [ifOk_0, ifOk_0]
    have hsame : AllSame f y (forX f y) (forX f y) := fun u h1 h2 => by
      obtain rfl : u = forX f y := by omega
      exact hq
    have hend := fun z => same_end (y := y) (z := z) Hm.out
    have Hend := Lib.hid hend; clear hend
    have hk1 := Hat.out (forX f y) (by omega) (by omega)
    rw [hq] at hk1
    have Hk1 := Lib.hid hk1; clear hk1
    clear hf2
    generalize forX f y = V at *
    generalize forX f (y + 1) - 1 = V2 at *
    have Hq := Lib.hid hq; clear hq
    have Hsame := Lib.hid hsame; clear hsame
    go_enter Tryd.func44, Tryd.ntmps44
    go_wp2_with fail
    refine (Hk.out _ (hr.below k0 hr.lt) (hE.below k0 (Nat.le_refl _))).mono ?_; rintro e w1 ⟨v, hv, rfl, hb1⟩
    cases hv
    have k1 := k0.trans (hb1.mono k0.size)
    obtain ⟨q1, f1⟩ := bcell hb1
    have z1 : w.heap.size < w1.heap.size := by have := hb1.size; simp at this; omega
    have d0 : w1.cell? ⟨w.heap.size, 0, none⟩ = some (.int .i64 0) := by rw [q1 _ _ (by simp)]; simp
    have d1 : w1.cell? ⟨w.heap.size, 1, none⟩ = some (.int .i64 0) := by rw [q1 _ _ (by simp)]; simp
    have g0 : w1.frozen? ⟨w.heap.size, 0, none⟩ = false := by rw [f1 _ _ (by simp)]; simp
    have g1 : w1.frozen? ⟨w.heap.size, 1, none⟩ = false := by rw [f1 _ _ (by simp)]; simp
    clear q1 f1 hb1
    go_wp2_with fail
    refine (Hk1.out _ (hr.below k1 hlt)).mono ?_; rintro e w2 ⟨rfl, hb2⟩
    have k2 := k1.trans (hb2.mono k1.size)
    obtain ⟨q2, f2⟩ := bcell hb2
    have z2 := Nat.lt_of_lt_of_le z1 hb2.size
    rw [← q2 _ _ z1] at d0 d1
    rw [← f2 _ _ z1] at g0 g1
    clear q2 f2 hb2
    go_wp2_with fail
    go_loopw [8] (fun i wr => ∃ z : Int, i = .int .i64 z ∧ V ≤ z ∧ z ≤ 200 ∧ AllSame f y V z ∧ Below w2.heap.size w2 wr) (fun i _ => (200 - intOf i).toNat)
    case atStart => exact ⟨V, rfl, by omega, by omega, Hsame.out, Below.refl _ _⟩
    case round =>
      obtain ⟨z, rfl, hz0, hz1, hsm, hB⟩ := hrel
      have Hsm := Lib.hid hsm; clear hsm
      obtain ⟨q3, f3⟩ := bcell hB
      have z3 := Nat.lt_of_lt_of_le z2 hB.size
      have d0 : wr.cell? ⟨w.heap.size, 0, none⟩ = some (.int .i64 0) := by rw [q3 _ _ z2]; exact d0
      have d1 : wr.cell? ⟨w.heap.size, 1, none⟩ = some (.int .i64 0) := by rw [q3 _ _ z2]; exact d1
      have g0 : wr.frozen? ⟨w.heap.size, 0, none⟩ = false := by rw [f3 _ _ z2]; exact g0
      have g1 : wr.frozen? ⟨w.heap.size, 1, none⟩ = false := by rw [f3 _ _ z2]; exact g1
      clear q3 f3
      have k3 := k2.trans (hB.mono k2.size)
      by_cases hz2 : z < 200
      · have hk2 := Hat.out (z + 1) (by omega) (by omega) wr (hr.below k3 hlt)
        have hb2 := Hbd.out (z + 1)
        by_cases hq2 : f (z + 1) = y
        · have hN := Hsm.out.next hq2
          have HN := Lib.hid hN; clear hN
          rw [hq2] at hk2
          have Hk2 := Lib.hid hk2; clear hk2 hb2 hq2
          go_wp2_with fail
          refine Hk2.out.mono ?_; rintro e w4 ⟨rfl, hb4⟩
          go_wp2_with fail
          go_roundw
          case rel => exact ⟨z + 1, rfl, by omega, by omega, HN.out, hB.trans (hb4.mono hB.size)⟩
          case measure => simp [intOf]; omega
        · have hE2 := Hend.out z Hsm.out hz0 hz1 (.inr hq2)
          generalize f (z + 1) = X at hk2 hb2 hq2
          have hx : (X == y) = false := by simpa using hq2
          have HE2 := Lib.hid hE2; clear hE2 hq2
          have Hk2 := Lib.hid hk2; clear hk2
          go_wp2_with fail
          refine Hk2.out.mono ?_; rintro e w4 ⟨rfl, hb4⟩
          obtain ⟨q4, f4⟩ := bcell hb4
          rw [← q4 _ _ z3] at d0 d1
          rw [← f4 _ _ z3] at g0 g1
          clear q4 f4
          go_wp2_with fail
          rw [HE2.out]
          exact bodyPost_ret (v := .tuple #[.agg #[.int .i64 V, .int .i64 z], .nilIface]) (by simp [results, Tryd.results44, go_sem, d0, d1]) rfl ⟨_, .ok, rfl, ((k3.trans (hb4.mono k3.size)).setCell (p := ⟨w.heap.size, 0, none⟩) (Nat.le_refl _) _).setCell (p := ⟨w.heap.size, 1, none⟩) (Nat.le_refl _) _⟩
      · obtain rfl : z = 200 := by omega
        have hE2 := Hend.out 200 Hsm.out hz0 (by omega) (.inl rfl)
        have HE2 := Lib.hid hE2; clear hE2
        go_wp2_with fail
        rw [HE2.out]
        exact bodyPost_ret (v := .tuple #[.agg #[.int .i64 V, .int .i64 200], .nilIface]) (by simp [results, Tryd.results44, go_sem, d0, d1]) rfl ⟨_, .ok, rfl, (k3.setCell (p := ⟨w.heap.size, 0, none⟩) (Nat.le_refl _) _).setCell (p := ⟨w.heap.size, 1, none⟩) (Nat.le_refl _) _⟩
  · obtain rfl := hno hq
    clear hyes hno
    rw [ifOk_6, ifOk_6]
    have hk1 := Hat.out (forX f y) (by omega) (by omega)
    have Hk1 := Lib.hid hk1; clear hk1
    clear hf2
    generalize f (forX f y) = X at *
    generalize forX f y = V at *
    have hx : (X == y) = false := by simpa using hq
    have hx2 : (X != y) = true := by simpa using hq
    clear hq
    go_enter Tryd.func44, Tryd.ntmps44
    go_wp2_with fail
    refine (Hk.out _ (hr.below k0 hr.lt) (hE.below k0 (Nat.le_refl _))).mono ?_; rintro e w1 ⟨v, hv, rfl, hb1⟩
    cases hv
    have k1 := k0.trans (hb1.mono k0.size)
    obtain ⟨q1, f1⟩ := bcell hb1
    have z1 : w.heap.size < w1.heap.size := by have := hb1.size; simp at this; omega
    have d0 : w1.cell? ⟨w.heap.size, 0, none⟩ = some (.int .i64 0) := by rw [q1 _ _ (by simp)]; simp
    have d1 : w1.cell? ⟨w.heap.size, 1, none⟩ = some (.int .i64 0) := by rw [q1 _ _ (by simp)]; simp
    have g0 : w1.frozen? ⟨w.heap.size, 0, none⟩ = false := by rw [f1 _ _ (by simp)]; simp
    have g1 : w1.frozen? ⟨w.heap.size, 1, none⟩ = false := by rw [f1 _ _ (by simp)]; simp
    clear q1 f1 hb1
    go_wp2_with fail
    refine (Hk1.out _ (hr.below k1 hlt)).mono ?_; rintro e w2 ⟨rfl, hb2⟩
    have k2 := k1.trans (hb2.mono k1.size)
    obtain ⟨q2, f2⟩ := bcell hb2
    rw [← q2 _ _ z1] at d0 d1
    rw [← f2 _ _ z1] at g0 g1
    have ce := (hE.below k2 (Nat.le_refl _)).c_enotfound
    have hgl := World.block_lt_of_cell? w _ hE.c_enotfound
    have hg1 : 2 ≠ w.heap.size := by
      have h : 2 < w.heap.size := hgl
      omega
    have hg2 : w.heap.size ≠ 2 := fun e => hg1 e.symm
    clear q2 f2 hb2 hgl
    go_wp2_with fail
    go_region
    go_wp2_with fail
    exact bodyPost_ret (v := .tuple #[.agg #[.int .i64 0, .int .i64 0], errV s.enotfound]) (by simp [results, Tryd.results44, go_sem, d0, d1]) rfl ⟨_, .enotfound, rfl, (((Below.drew k2)).setCell (p := ⟨w.heap.size, 0, none⟩) (Nat.le_refl _) _).setCell (p := ⟨w.heap.size, 1, none⟩) (Nat.le_refl _) _⟩
end Go.Proofs.YtpombpphicmhmaaDoor

/-
  The range of a print: what the program's functions return, for every two lists of at most 1048576 points. Condition: the program's variables hold their own errors.
-/
import Derived.Test.YtajojnelkddpkaaDoorRng
namespace Go.Proofs.YtajojnelkddpkaaDoor
open Go.RowKit

theorem prg_high {n : Nat} {xs ys : Nat → Int} {m : Nat} {us vs : Nat → Int} {low high light : Int} (h : bthC n xs ys m us vs high light ≠ 0) : prgC n xs ys m us vs low high light = bthC n xs ys m us vs high light := by
  rcases h1 : validC n xs ys with _ | _
  · rw [prg_bth (by rw [bth_1 h1]; omega), bth_1 h1, bth_1 h1]
  · rcases h2 : validC m us vs with _ | _
    · rw [prg_bth (by rw [bth_2 h2]; omega), bth_2 h2, bth_2 h2]
    · rcases h4 : inB light (-200) 200 with _ | _
      · rw [prg_bth (by rw [bth_4 h1 h2 h4]; omega), bth_4 h1 h2 h4, bth_4 h1 h2 h4]
      · rcases h5 : inB high (-200) 200 with _ | _
        · rw [bth_3 h1 h2 h5]
          rcases h3 : inB low (-200) 200 with _ | _
          · rw [prg_bth (by rw [bth_3 h1 h2 h3]; omega), bth_3 h1 h2 h3]
          · rw [prg_far (bth_0 h1 h2 h3 h4) h5]
        · exact absurd (bth_0 h1 h2 h5 h4) h

/-- The zero span in its variable, behind a store. -/
theorem span_kept {w W : World} {B : Nat} (hb : Below w.heap.size w W) (d0 : W.cell? ⟨B, 0, none⟩ = some (.int .i64 0)) (d1 : W.cell? ⟨B, 1, none⟩ = some (.int .i64 0)) (hB : w.heap.size ≤ B) (x y : Int) :
    Below w.heap.size w ((W.setCell ⟨B, 0, none⟩ (.int .i64 x)).setCell ⟨B, 1, none⟩ (.int .i64 y)) ∧ ((W.setCell ⟨B, 0, none⟩ (.int .i64 x)).setCell ⟨B, 1, none⟩ (.int .i64 y)).cell? ⟨B, 0, none⟩ = some (.int .i64 x) ∧ ((W.setCell ⟨B, 0, none⟩ (.int .i64 x)).setCell ⟨B, 1, none⟩ (.int .i64 y)).cell? ⟨B, 1, none⟩ = some (.int .i64 y) :=
  ⟨(hb.setCell (p := ⟨B, 0, none⟩) hB _).setCell (p := ⟨B, 1, none⟩) hB _, by simp [go_sem, d0], by simp [go_sem, d1]⟩

set_option maxRecDepth 100000 in
set_option maxHeartbeats 1000000 in
theorem printedRange_high (s : Ers) (b n cap : Nat) (xs ys : Nat → Int) (b' m cap' : Nat) (us vs : Nat → Int) (low high light : Int) (hn : n ≤ 1048576) (hm : m ≤ 1048576) (hs : SmallP n xs ys) (hs' : SmallP m us vs) (w : World) (hr : PtRow w b n xs ys) (hr' : PtRow w b' m us vs) (hE : ErrEnv s w) (h : bthC n xs ys m us vs high light ≠ 0) :
    Calls Tryd.prog 28 #[.slice (some ⟨b, 0, none⟩) n cap, .slice (some ⟨b', 0, none⟩) m cap', .int .i64 low, .int .i64 high, .int .i64 light] w (CodedX s (.agg #[.int .i64 0, .int .i64 0]) (bthC n xs ys m us vs high light) w.heap.size w) := by
  have hk := fun W h h' hE => printedAt_any s b n cap xs ys b' m cap' us vs high light hn hm hs hs' W h h' hE
  have hz : ∀ v, ifOk (bthC n xs ys m us vs high light) v = 0 := fun v => by simp [ifOk, h]
  rw [hz] at hk
  clear hz
  generalize bthC n xs ys m us vs high light = C at hk h ⊢
  have Hk := Lib.hid hk; clear hk
  have k0 : Below w.heap.size w (w.alloc (.cells #[.int .i64 0, .int .i64 0] 53)) := (Below.refl _ _).alloc (Nat.le_refl _) _
  go_enter Tryd.func28, Tryd.ntmps28
  go_wp2_with fail
  refine (Hk.out _ (hr.below k0 hr.lt) (hr'.below k0 hr'.lt) (hE.below k0 (Nat.le_refl _))).mono ?_; rintro e w1 ⟨v, hv, rfl, hb1⟩
  obtain ⟨q1, f1⟩ := bcell hb1
  have z1 : w.heap.size < w1.heap.size := by have := hb1.size; simp at this; omega
  have d0 : w1.cell? ⟨w.heap.size, 0, none⟩ = some (.int .i64 0) := by rw [q1 _ _ (by simp)]; simp
  have d1 : w1.cell? ⟨w.heap.size, 1, none⟩ = some (.int .i64 0) := by rw [q1 _ _ (by simp)]; simp
  have g0 : w1.frozen? ⟨w.heap.size, 0, none⟩ = false := by rw [f1 _ _ (by simp)]; simp
  have g1 : w1.frozen? ⟨w.heap.size, 1, none⟩ = false := by rw [f1 _ _ (by simp)]; simp
  have k1 := k0.trans (hb1.mono k0.size)
  clear q1 f1 Hk hb1
  cases hv
  · exact absurd rfl h
  all_goals
    clear h
    go_wp2_with fail
    exact bodyPost_ret (v := .tuple #[.agg #[.int .i64 0, .int .i64 0], _]) (by simp [results, Tryd.results28, go_sem, d0, d1]; rfl) rfl ⟨_, by constructor, rfl, (span_kept k1 d0 d1 (Nat.le_refl _) 0 0).1⟩

set_option maxRecDepth 100000 in
set_option maxHeartbeats 1000000 in
theorem printedRange_low (s : Ers) (b n cap : Nat) (xs ys : Nat → Int) (b' m cap' : Nat) (us vs : Nat → Int) (low high light : Int) (hn : n ≤ 1048576) (hm : m ≤ 1048576) (hs : SmallP n xs ys) (hs' : SmallP m us vs) (w : World) (hr : PtRow w b n xs ys) (hr' : PtRow w b' m us vs) (hE : ErrEnv s w) (h0 : bthC n xs ys m us vs high light = 0) :
    Calls Tryd.prog 28 #[.slice (some ⟨b, 0, none⟩) n cap, .slice (some ⟨b', 0, none⟩) m cap', .int .i64 low, .int .i64 high, .int .i64 light] w (CodedX s (.agg #[.int .i64 (ifOk (prgC n xs ys m us vs low high light) (prnV n xs ys m us vs high light)), .int .i64 (ifOk (prgC n xs ys m us vs low high light) (prnV n xs ys m us vs low light))]) (prgC n xs ys m us vs low high light) w.heap.size w) := by
  have hk := fun W h h' hE => printedAt_any s b n cap xs ys b' m cap' us vs high light hn hm hs hs' W h h' hE
  have hk2 := fun W h h' hE => printedAt_any s b n cap xs ys b' m cap' us vs low light hn hm hs hs' W h h' hE
  obtain ⟨-, -, hh, -⟩ := bth_all h0
  rw [h0, ifOk_0] at hk
  have hc1 := prg_bth (n := n) (xs := xs) (ys := ys) (m := m) (us := us) (vs := vs) (low := low) (high := high) (light := light)
  have hc2 := fun h => prg_state (n := n) (xs := xs) (ys := ys) (m := m) (us := us) (vs := vs) (low := low) (high := high) (light := light) h hh
  have hc3 := fun h => prg_ok (n := n) (xs := xs) (ys := ys) (m := m) (us := us) (vs := vs) (low := low) (high := high) (light := light) h hh
  generalize prgC n xs ys m us vs low high light = R at *
  generalize bthC n xs ys m us vs low light = C at *
  generalize prnV n xs ys m us vs high light = VH at *
  generalize prnV n xs ys m us vs low light = VL at *
  clear h0 hh
  have Hk := Lib.hid hk; clear hk
  have k0 : Below w.heap.size w (w.alloc (.cells #[.int .i64 0, .int .i64 0] 53)) := (Below.refl _ _).alloc (Nat.le_refl _) _
  by_cases h : C = 0
  · subst h
    have hc2 := hc2 rfl
    have hc3 := hc3 rfl
    rw [ifOk_0] at hk2
    have Hk2 := Lib.hid hk2; clear hk2 hc1
    by_cases hle : low ≤ high
    · obtain rfl := hc3 hle
      clear hc2 hc3
      rw [ifOk_0, ifOk_0]
      have dgt : decide (high < low) = false := decide_eq_false (by omega)
      go_enter Tryd.func28, Tryd.ntmps28
      go_wp2_with fail
      refine (Hk.out _ (hr.below k0 hr.lt) (hr'.below k0 hr'.lt) (hE.below k0 (Nat.le_refl _))).mono ?_; rintro e w1 ⟨v, hv, rfl, hb1⟩
      cases hv
      have k1 := k0.trans (hb1.mono k0.size)
      obtain ⟨q1, f1⟩ := bcell hb1
      have z1 : w.heap.size < w1.heap.size := by have := hb1.size; simp at this; omega
      have d0 : w1.cell? ⟨w.heap.size, 0, none⟩ = some (.int .i64 0) := by rw [q1 _ _ (by simp)]; simp
      have d1 : w1.cell? ⟨w.heap.size, 1, none⟩ = some (.int .i64 0) := by rw [q1 _ _ (by simp)]; simp
      have g0 : w1.frozen? ⟨w.heap.size, 0, none⟩ = false := by rw [f1 _ _ (by simp)]; simp
      have g1 : w1.frozen? ⟨w.heap.size, 1, none⟩ = false := by rw [f1 _ _ (by simp)]; simp
      clear q1 f1 hb1
      go_wp2_with fail
      refine (Hk2.out _ (hr.below k1 hr.lt) (hr'.below k1 hr'.lt) (hE.below k1 (Nat.le_refl _))).mono ?_; rintro e w2 ⟨v, hv, rfl, hb2⟩
      cases hv
      have k2 := k1.trans (hb2.mono k1.size)
      obtain ⟨q2, f2⟩ := bcell hb2
      rw [← q2 _ _ z1] at d0 d1
      rw [← f2 _ _ z1] at g0 g1
      clear q2 f2 hb2
      obtain ⟨t1, t2, t3⟩ := span_kept k2 d0 d1 (Nat.le_refl _) VH VL
      go_wp2_with fail
      exact bodyPost_ret (v := .tuple #[.agg #[.int .i64 VH, .int .i64 VL], .nilIface]) (by simp [results, Tryd.results28, go_sem, d0, d1]) rfl ⟨_, .ok, rfl, t1⟩
    · obtain rfl := hc2 hle
      clear hc2 hc3
      rw [ifOk_4, ifOk_4]
      have hgt : high < low := by omega
      go_enter Tryd.func28, Tryd.ntmps28
      go_wp2_with fail
      refine (Hk.out _ (hr.below k0 hr.lt) (hr'.below k0 hr'.lt) (hE.below k0 (Nat.le_refl _))).mono ?_; rintro e w1 ⟨v, hv, rfl, hb1⟩
      cases hv
      have k1 := k0.trans (hb1.mono k0.size)
      obtain ⟨q1, f1⟩ := bcell hb1
      have z1 : w.heap.size < w1.heap.size := by have := hb1.size; simp at this; omega
      have d0 : w1.cell? ⟨w.heap.size, 0, none⟩ = some (.int .i64 0) := by rw [q1 _ _ (by simp)]; simp
      have d1 : w1.cell? ⟨w.heap.size, 1, none⟩ = some (.int .i64 0) := by rw [q1 _ _ (by simp)]; simp
      have g0 : w1.frozen? ⟨w.heap.size, 0, none⟩ = false := by rw [f1 _ _ (by simp)]; simp
      have g1 : w1.frozen? ⟨w.heap.size, 1, none⟩ = false := by rw [f1 _ _ (by simp)]; simp
      clear q1 f1 hb1
      go_wp2_with fail
      refine (Hk2.out _ (hr.below k1 hr.lt) (hr'.below k1 hr'.lt) (hE.below k1 (Nat.le_refl _))).mono ?_; rintro e w2 ⟨v, hv, rfl, hb2⟩
      cases hv
      have k2 := k1.trans (hb2.mono k1.size)
      obtain ⟨q2, f2⟩ := bcell hb2
      rw [← q2 _ _ z1] at d0 d1
      rw [← f2 _ _ z1] at g0 g1
      have ce := (hE.below k2 (Nat.le_refl _)).c_estate
      have hgl := World.block_lt_of_cell? w _ hE.c_estate
      have hg1 : 2 ≠ w.heap.size := by
        have h : 2 < w.heap.size := hgl
        omega
      have hg2 : w.heap.size ≠ 2 := fun e => hg1 e.symm
      clear q2 f2 hb2 hgl
      go_wp2_with fail
      go_region
      go_wp2_with fail
      exact bodyPost_ret (v := .tuple #[.agg #[.int .i64 0, .int .i64 0], errV s.estate]) (by simp [results, Tryd.results28, go_sem, d0, d1]) rfl ⟨_, .estate, rfl, ((Below.drew k2).setCell (p := ⟨w.heap.size, 0, none⟩) (Nat.le_refl _) _).setCell (p := ⟨w.heap.size, 1, none⟩) (Nat.le_refl _) _⟩
  · obtain rfl := hc1 h
    have hz : ∀ v, ifOk R v = 0 := fun v => by simp [ifOk, h]
    rw [hz] at hk2
    rw [hz, hz]
    have Hk2 := Lib.hid hk2; clear hk2 hc1 hc2 hc3 hz
    go_enter Tryd.func28, Tryd.ntmps28
    go_wp2_with fail
    refine (Hk.out _ (hr.below k0 hr.lt) (hr'.below k0 hr'.lt) (hE.below k0 (Nat.le_refl _))).mono ?_; rintro e w1 ⟨v, hv, rfl, hb1⟩
    cases hv
    have k1 := k0.trans (hb1.mono k0.size)
    obtain ⟨q1, f1⟩ := bcell hb1
    have z1 : w.heap.size < w1.heap.size := by have := hb1.size; simp at this; omega
    have d0 : w1.cell? ⟨w.heap.size, 0, none⟩ = some (.int .i64 0) := by rw [q1 _ _ (by simp)]; simp
    have d1 : w1.cell? ⟨w.heap.size, 1, none⟩ = some (.int .i64 0) := by rw [q1 _ _ (by simp)]; simp
    have g0 : w1.frozen? ⟨w.heap.size, 0, none⟩ = false := by rw [f1 _ _ (by simp)]; simp
    have g1 : w1.frozen? ⟨w.heap.size, 1, none⟩ = false := by rw [f1 _ _ (by simp)]; simp
    clear q1 f1 hb1
    go_wp2_with fail
    refine (Hk2.out _ (hr.below k1 hr.lt) (hr'.below k1 hr'.lt) (hE.below k1 (Nat.le_refl _))).mono ?_; rintro e w2 ⟨v, hv, rfl, hb2⟩
    have k2 := k1.trans (hb2.mono k1.size)
    obtain ⟨q2, f2⟩ := bcell hb2
    rw [← q2 _ _ z1] at d0 d1
    rw [← f2 _ _ z1] at g0 g1
    clear q2 f2 hb2 Hk2 Hk
    cases hv
    · exact absurd rfl h
    all_goals
      clear h
      go_wp2_with fail
      exact bodyPost_ret (v := .tuple #[.agg #[.int .i64 0, .int .i64 0], _]) (by simp [results, Tryd.results28, go_sem, d0, d1]; rfl) rfl ⟨_, by constructor, rfl, (span_kept k2 d0 d1 (Nat.le_refl _) 0 0).1⟩

theorem printedRange_any (s : Ers) (b n cap : Nat) (xs ys : Nat → Int) (b' m cap' : Nat) (us vs : Nat → Int) (low high light : Int) (hn : n ≤ 1048576) (hm : m ≤ 1048576) (hs : SmallP n xs ys) (hs' : SmallP m us vs) (w : World) (hr : PtRow w b n xs ys) (hr' : PtRow w b' m us vs) (hE : ErrEnv s w) :
    Calls Tryd.prog 28 #[.slice (some ⟨b, 0, none⟩) n cap, .slice (some ⟨b', 0, none⟩) m cap', .int .i64 low, .int .i64 high, .int .i64 light] w (CodedX s (.agg #[.int .i64 (ifOk (prgC n xs ys m us vs low high light) (prnV n xs ys m us vs high light)), .int .i64 (ifOk (prgC n xs ys m us vs low high light) (prnV n xs ys m us vs low light))]) (prgC n xs ys m us vs low high light) w.heap.size w) := by
  by_cases h : bthC n xs ys m us vs high light = 0
  · exact printedRange_low s b n cap xs ys b' m cap' us vs low high light hn hm hs hs' w hr hr' hE h
  · rw [prg_high h]
    have hz : ∀ v, ifOk (bthC n xs ys m us vs high light) v = 0 := fun v => by simp [ifOk, h]
    rw [hz, hz]
    exact printedRange_high s b n cap xs ys b' m cap' us vs low high light hn hm hs hs' w hr hr' hE h

set_option maxRecDepth 100000 in
set_option maxHeartbeats 1000000 in
theorem PrintedRange_any (s : Ers) (b n cap : Nat) (xs ys : Nat → Int) (b' m cap' : Nat) (us vs : Nat → Int) (low high light : Int) (hn : n ≤ 1048576) (hm : m ≤ 1048576) (hs : SmallP n xs ys) (hs' : SmallP m us vs) (w : World) (hr : PtRow w b n xs ys) (hr' : PtRow w b' m us vs) (hE : ErrEnv s w) :
    Calls Tryd.prog 13 #[.slice (some ⟨b, 0, none⟩) n cap, .slice (some ⟨b', 0, none⟩) m cap', .int .i64 low, .int .i64 high, .int .i64 light] w fun e w' => e = .returned (.tuple #[.int .i64 (ifOk (prgC n xs ys m us vs low high light) (prnV n xs ys m us vs high light)), .int .i64 (ifOk (prgC n xs ys m us vs low high light) (prnV n xs ys m us vs low light)), .int .i64 (prgC n xs ys m us vs low high light)]) ∧ Below w.heap.size w w' := by
  have hk := fun W h h' hE => printedRange_any s b n cap xs ys b' m cap' us vs low high light hn hm hs hs' W h h' hE
  generalize ifOk (prgC n xs ys m us vs low high light) (prnV n xs ys m us vs high light) = V at hk ⊢
  generalize ifOk (prgC n xs ys m us vs low high light) (prnV n xs ys m us vs low light) = V2 at hk ⊢
  generalize prgC n xs ys m us vs low high light = C at hk ⊢
  have Hk := Lib.hid hk; clear hk
  go_enter Tryd.func13, Tryd.ntmps13
  go_wp2_with fail
  refine (Hk.out _ hr hr' hE).mono ?_; rintro e w1 ⟨v, hv, rfl, hb1⟩
  go_wp2_with fail
  have hE1 := (hE.below hb1 (Nat.le_refl _)).alloc (.cells #[.int .i64 V, .int .i64 V2] 53)
  have hB : Below w.heap.size w (w1.alloc (.cells #[.int .i64 V, .int .i64 V2] 53)) := hb1.alloc hb1.size _
  have d0 : (w1.alloc (.cells #[.int .i64 V, .int .i64 V2] 53)).cell? ⟨w1.heap.size, 0, none⟩ = some (.int .i64 V) := by simp
  have d1 : (w1.alloc (.cells #[.int .i64 V, .int .i64 V2] 53)).cell? ⟨w1.heap.size, 1, none⟩ = some (.int .i64 V2) := by simp
  generalize w1.alloc (.cells #[.int .i64 V, .int .i64 V2] 53) = W at hE1 hB d0 d1 ⊢
  refine wp_region_quietD (Below W.heap.size W) (by kernel_rfl) (by kernel_rfl) (below_drew1 _) ?_
  have n0 := below_nonempty W
  have e0 := inCell d0
  have e1 := inCell d1
  repeat (go_big_quiet_step ((go_at_call 29; exact inCallS _ (codeOf_any hv _ (hE1.below (WIn.ok _) (Nat.le_refl _))))))
  refine wpQuiet_nil ?_
  rintro _ ⟨x, rfl⟩
  go_wp2
  go_ret3
  exact ⟨rfl, hB.trans (x.ok.mono hB.size)⟩

theorem specPrintedRange_ex (b0 n c0 : Nat) (xs ys : Nat → Int) (b1 m c1 : Nat) (us vs : Nat → Int) (low high light : Int) (hn : n ≤ 1048576) (hm : m ≤ 1048576) (hs : SmallP n xs ys) (hs' : SmallP m us vs) (w : World) (hr : PtRow w b0 n xs ys) (hr' : PtRow w b1 m us vs) :
    Calls Tryd.prog 12 #[.slice (some ⟨b0, 0, none⟩) n c0, .slice (some ⟨b1, 0, none⟩) m c1, .int .i64 low, .int .i64 high, .int .i64 light] w fun e w' => e = .returned (.tuple #[.int .i64 (ifOk (prgC n xs ys m us vs low high light) (prnV n xs ys m us vs high light)), .int .i64 (ifOk (prgC n xs ys m us vs low high light) (prnV n xs ys m us vs low light)), .int .i64 (prgC n xs ys m us vs low high light)]) ∧ Below w.heap.size w w' := specPrintedRange_any b0 n c0 xs ys b1 m c1 us vs low high light hn hm hs hs' w hr hr'
theorem PrintedRange_ex (s : Ers) (b0 n c0 : Nat) (xs ys : Nat → Int) (b1 m c1 : Nat) (us vs : Nat → Int) (low high light : Int) (hn : n ≤ 1048576) (hm : m ≤ 1048576) (hs : SmallP n xs ys) (hs' : SmallP m us vs) (w : World) (hr : PtRow w b0 n xs ys) (hr' : PtRow w b1 m us vs) (hE : ErrEnv s w) :
    Calls Tryd.prog 13 #[.slice (some ⟨b0, 0, none⟩) n c0, .slice (some ⟨b1, 0, none⟩) m c1, .int .i64 low, .int .i64 high, .int .i64 light] w fun e w' => e = .returned (.tuple #[.int .i64 (ifOk (prgC n xs ys m us vs low high light) (prnV n xs ys m us vs high light)), .int .i64 (ifOk (prgC n xs ys m us vs low high light) (prnV n xs ys m us vs low light)), .int .i64 (prgC n xs ys m us vs low high light)]) ∧ Below w.heap.size w w' := PrintedRange_any s b0 n c0 xs ys b1 m c1 us vs low high light hn hm hs hs' w hr hr' hE
end Go.Proofs.YtajojnelkddpkaaDoor

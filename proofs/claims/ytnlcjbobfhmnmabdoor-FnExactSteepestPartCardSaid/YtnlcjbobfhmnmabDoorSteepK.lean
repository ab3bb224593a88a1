/-
  The steepest part of a curve: the program's exported function. Condition: its variables hold their own errors; at most 1048576 points.
-/
import Derived.Test.YtnlcjbobfhmnmabDoorSteepJ
namespace Go.Proofs.YtnlcjbobfhmnmabDoor
open Go.RowKit

set_option maxRecDepth 100000 in
set_option maxHeartbeats 1000000 in
theorem steepest_6 (s : Ers) (b n cap : Nat) (xs ys : Nat → Int) (hn : n ≤ 1048576) (hs : SmallP n xs ys) (w : World) (hr : PtRow w b n xs ys) (hE : ErrEnv s w) (h1 : validC n xs ys = true) (h2 : n = 1) :
    Calls Tryd.prog 12 #[.slice (some ⟨b, 0, none⟩) n cap] w (CodedX s (.agg #[.int .i64 0, .int .i64 0, .int .i64 0]) 6 w.heap.size w) := by
  have hk := ValidCurve_any b n cap xs ys hn hs
  rw [h1] at hk
  have Hk := Lib.hid hk; clear hk
  have k0 : Below w.heap.size w (w.alloc (.cells #[.int .i64 0, .int .i64 0, .int .i64 0] 39)) := (Below.refl _ _).alloc (Nat.le_refl _) _
  subst h2
  go_enter Tryd.func12, Tryd.ntmps12
  go_wp2_with fail
  refine (Hk.out _ (hr.below k0 hr.lt)).mono ?_; rintro e w1 ⟨rfl, hb1⟩
  obtain ⟨q1, f1⟩ := bcell hb1
  have z1 : w.heap.size < w1.heap.size := by have := hb1.size; simp at this; omega
  have d0 : w1.cell? ⟨w.heap.size, 0, none⟩ = some (.int .i64 0) := by rw [q1 _ _ (by simp)]; simp
  have d1 : w1.cell? ⟨w.heap.size, 1, none⟩ = some (.int .i64 0) := by rw [q1 _ _ (by simp)]; simp
  have d2 : w1.cell? ⟨w.heap.size, 2, none⟩ = some (.int .i64 0) := by rw [q1 _ _ (by simp)]; simp
  have g0 : w1.frozen? ⟨w.heap.size, 0, none⟩ = false := by rw [f1 _ _ (by simp)]; simp
  have g1 : w1.frozen? ⟨w.heap.size, 1, none⟩ = false := by rw [f1 _ _ (by simp)]; simp
  have g2 : w1.frozen? ⟨w.heap.size, 2, none⟩ = false := by rw [f1 _ _ (by simp)]; simp
  have ce := ((hE.below k0 (Nat.le_refl _)).below hb1 (by simp)).c_enotfound
  have hb := k0.trans (hb1.mono k0.size)
  have hz0 : 1 < w.heap.size := World.block_lt_of_cell? w _ hE.c_enotfound
  have hz1 : ¬ 1 = w.heap.size := by omega
  have hz2 : ¬ w.heap.size = 1 := by omega
  clear q1 f1 Hk hb1 k0
  go_wp2_with fail
  go_region
  all_goals
    go_wp2_with fail
    exact bodyPost_ret (v := .tuple #[.agg #[.int .i64 0, .int .i64 0, .int .i64 0], _]) (by simp [results, Tryd.results12, go_sem, d0, d1, d2]) rfl ⟨_, .enotfound, rfl, by (repeat (first | exact Below.refl _ _ | assumption | apply Below.drew | apply below_drewL | apply below_drewP | (refine Below.alloc ?_ (by first | omega | (simp; done) | (simp; omega)) _) | (refine Below.setCell ?_ (by first | omega | (simp; done) | (simp; omega)) _)))⟩

theorem steepestPart_any (s : Ers) (b n cap : Nat) (xs ys : Nat → Int) (hn : n ≤ 1048576) (hs : SmallP n xs ys) (w : World) (hr : PtRow w b n xs ys) (hE : ErrEnv s w) :
    Calls Tryd.prog 12 #[.slice (some ⟨b, 0, none⟩) n cap] w (CodedX s (.agg #[.int .i64 (ifOk (stC n xs ys) (stA n xs ys)), .int .i64 (ifOk (stC n xs ys) (stP n xs ys / stG n xs ys : Nat)), .int .i64 (ifOk (stC n xs ys) (stQ n xs ys / stG n xs ys : Nat))]) (stC n xs ys) w.heap.size w) := by
  rcases h1 : validC n xs ys with _ | _
  · rw [st_1 h1, ifOk_1, ifOk_1, ifOk_1]
    exact steepest_1 s b n cap xs ys hn hs w hr hE h1
  · by_cases h2 : n = 1
    · rw [st_6 h1 h2, ifOk_6, ifOk_6, ifOk_6]
      exact steepest_6 s b n cap xs ys hn hs w hr hE h1 h2
    · rw [st_0 h1 h2, ifOk_0, ifOk_0, ifOk_0]
      exact steepest_0 s b n cap xs ys hn hs w hr h1 h2

set_option maxRecDepth 100000 in
set_option maxHeartbeats 1000000 in
theorem SteepestPart_any (s : Ers) (b n cap : Nat) (xs ys : Nat → Int) (hn : n ≤ 1048576) (hs : SmallP n xs ys) (w : World) (hr : PtRow w b n xs ys) (hE : ErrEnv s w) :
    Calls Tryd.prog 7 #[.slice (some ⟨b, 0, none⟩) n cap] w fun e w' => e = .returned (.tuple #[.int .i64 (ifOk (stC n xs ys) (stA n xs ys)), .int .i64 (ifOk (stC n xs ys) (stP n xs ys / stG n xs ys : Nat)), .int .i64 (ifOk (stC n xs ys) (stQ n xs ys / stG n xs ys : Nat)), .int .i64 (stC n xs ys)]) ∧ Below w.heap.size w w' := by
  have hk := steepestPart_any s b n cap xs ys hn hs
  generalize ifOk (stC n xs ys) (stA n xs ys) = V at hk ⊢
  generalize ifOk (stC n xs ys) (stP n xs ys / stG n xs ys : Nat) = V2 at hk ⊢
  generalize ifOk (stC n xs ys) (stQ n xs ys / stG n xs ys : Nat) = V3 at hk ⊢
  generalize stC n xs ys = C at hk ⊢
  have Hk := Lib.hid hk; clear hk
  go_enter Tryd.func7, Tryd.ntmps7
  go_wp2_with fail
  refine (Hk.out _ hr hE).mono ?_; rintro e w1 ⟨v, hv, rfl, hb1⟩
  go_wp2_with fail
  have hE1 := (hE.below hb1 (Nat.le_refl _)).alloc (.cells #[.int .i64 V, .int .i64 V2, .int .i64 V3] 39)
  have hB : Below w.heap.size w (w1.alloc (.cells #[.int .i64 V, .int .i64 V2, .int .i64 V3] 39)) := hb1.alloc hb1.size _
  have d0 : (w1.alloc (.cells #[.int .i64 V, .int .i64 V2, .int .i64 V3] 39)).cell? ⟨w1.heap.size, 0, none⟩ = some (.int .i64 V) := by simp
  have d1 : (w1.alloc (.cells #[.int .i64 V, .int .i64 V2, .int .i64 V3] 39)).cell? ⟨w1.heap.size, 1, none⟩ = some (.int .i64 V2) := by simp
  have d2 : (w1.alloc (.cells #[.int .i64 V, .int .i64 V2, .int .i64 V3] 39)).cell? ⟨w1.heap.size, 2, none⟩ = some (.int .i64 V3) := by simp
  generalize w1.alloc (.cells #[.int .i64 V, .int .i64 V2, .int .i64 V3] 39) = W at hE1 hB d0 d1 d2 ⊢
  refine wp_region_quietD (Below W.heap.size W) (by kernel_rfl) (by kernel_rfl) (below_drew1 _) ?_
  have n0 := below_nonempty W
  have e0 := inCell d0
  have e1 := inCell d1
  have e2 := inCell d2
  repeat (go_big_quiet_step ((go_at_call 13; exact inCallS _ (codeOf_any hv _ (hE1.below (WIn.ok _) (Nat.le_refl _))))))
  refine wpQuiet_nil ?_
  rintro _ ⟨x, rfl⟩
  go_wp2
  refine bodyPost_ret (v := .tuple #[.int .i64 V, .int .i64 V2, .int .i64 V3, .int .i64 C]) (by simp [results, Tryd.results7, go_sem]) rfl ⟨rfl, hB.trans (x.ok.mono hB.size)⟩
end Go.Proofs.YtnlcjbobfhmnmabDoor

/-
  The walk of the law FnExactCorrectedFor: it returns true for every table and setting. Condition: the listed variables hold what the row lists.
-/
import Derived.Test.YtmjoccgdpchjbaaDoorCorr
import Derived.Test.YtmjoccgdpchjbaaDoorOpenL
import Derived.Test.YtmjoccgdpchjbaaDoorWSets
import Derived.Deep.CutRange
namespace Go.Proofs.YtmjoccgdpchjbaaDoor
open Go.RowKit

theorem cells3 (w : World) (q : Nat) (x y z : Value) {a b c : Value} (h0 : w.cell? ⟨q, 0, none⟩ = some a) (h1 : w.cell? ⟨q, 1, none⟩ = some b) (h2 : w.cell? ⟨q, 2, none⟩ = some c) :
    (((w.setCell ⟨q, 0, none⟩ x).setCell ⟨q, 1, none⟩ y).setCell ⟨q, 2, none⟩ z).cell? ⟨q, 0, none⟩ = some x ∧
    (((w.setCell ⟨q, 0, none⟩ x).setCell ⟨q, 1, none⟩ y).setCell ⟨q, 2, none⟩ z).cell? ⟨q, 1, none⟩ = some y ∧
    (((w.setCell ⟨q, 0, none⟩ x).setCell ⟨q, 1, none⟩ y).setCell ⟨q, 2, none⟩ z).cell? ⟨q, 2, none⟩ = some z := by
  have e0 : (w.setCell ⟨q, 0, none⟩ x).cell? ⟨q, 0, none⟩ = some x := World.cell?_setCell_same _ _ _ h0
  have e1 : (w.setCell ⟨q, 0, none⟩ x).cell? ⟨q, 1, none⟩ = some b := by rw [World.cell?_setCell_other _ _ _ _ (by intro h; simp at h)]; exact h1
  have e2 : (w.setCell ⟨q, 0, none⟩ x).cell? ⟨q, 2, none⟩ = some c := by rw [World.cell?_setCell_other _ _ _ _ (by intro h; simp at h)]; exact h2
  have f0 : ((w.setCell ⟨q, 0, none⟩ x).setCell ⟨q, 1, none⟩ y).cell? ⟨q, 0, none⟩ = some x := by rw [World.cell?_setCell_other _ _ _ _ (by intro h; simp at h)]; exact e0
  have f1 : ((w.setCell ⟨q, 0, none⟩ x).setCell ⟨q, 1, none⟩ y).cell? ⟨q, 1, none⟩ = some y := World.cell?_setCell_same _ _ _ e1
  have f2 : ((w.setCell ⟨q, 0, none⟩ x).setCell ⟨q, 1, none⟩ y).cell? ⟨q, 2, none⟩ = some c := by rw [World.cell?_setCell_other _ _ _ _ (by intro h; simp at h)]; exact e2
  refine ⟨?_, ?_, World.cell?_setCell_same _ _ _ f2⟩
  · rw [World.cell?_setCell_other _ _ _ _ (by intro h; simp at h)]; exact f0
  · rw [World.cell?_setCell_other _ _ _ _ (by intro h; simp at h)]; exact f1

set_option maxRecDepth 100000 in
set_option maxHeartbeats 2000000 in
theorem walk_FnExactCorrectedFor (A : Option Addr) (n cap : Nat) (fs es : Nat → Int) (a b c : Int) (ha : -128 ≤ a) (ha' : a ≤ 127) (hb : -128 ≤ b) (hb' : b ≤ 127) (hc : -128 ≤ c) (hc' : c ≤ 127) (w : World) (hL : laidMetH Tryd.prog Rows.fnExactCorrectedForRow.laid w) (hr : LongsIn w A n fs es) (hm : n ≤ maxLen) (hs : Small n fs es) :
    Calls Tryd.prog 12 #[.slice A n cap, setV a b c] w fun e w' => e = .returned (.bool true) ∧ Below w.heap.size w w' := by
  obtain ⟨s, hE⟩ := errEnv_of_row hL (by kernel_rfl) (by kernel_rfl)
  unfold maxLen at hm
  have hsz := szLongS_any A n cap
  by_cases hn : n ≤ 1048576
  · have hle : (n : Int) ≤ 1048576 := by omega
    rw [if_pos hle] at hsz
    have Hsz := Lib.hid hsz; clear hsz
    obtain ⟨x, y, z, hv⟩ := corV_set n fs es a b c
    have hsp := fun (g cap : Nat) (W : World) hrW => specCorrectedFor_any g n cap fs es a b c hn hs ha ha' hb hb' hc hc' W hrW
    have him := fun (g cap : Nat) (W : World) hrW hEW => CorrectedFor_any s g n cap fs es a b c hn hs ha ha' hb hb' hc hc' W hrW hEW
    rw [hv] at hsp him
    clear hv
    have Hsp := Lib.hid hsp; clear hsp
    have Him := Lib.hid him; clear him
    go_enter Tryd.func12, Tryd.ntmps12
    go_wp2_with fail
    refine (Hsz.out (by omega) _).mono ?_; rintro e w0 ⟨rfl, rfl⟩
    go_wp2_with fail
    have k0 : Below w.heap.size w (w.alloc (.cells #[.int .i8 a, .int .i8 b, .int .i8 c] 26)) := (Below.refl _ _).alloc (Nat.le_refl _) _
    have z0 : w.heap.size < (w.alloc (.cells #[.int .i8 a, .int .i8 b, .int .i8 c] 26)).heap.size := by simp
    have p0 : (w.alloc (.cells #[.int .i8 a, .int .i8 b, .int .i8 c] 26)).cell? ⟨w.heap.size, 0, none⟩ = some (.int .i8 a) := by simp [go_sem]
    have p1 : (w.alloc (.cells #[.int .i8 a, .int .i8 b, .int .i8 c] 26)).cell? ⟨w.heap.size, 1, none⟩ = some (.int .i8 b) := by simp [go_sem]
    have p2 : (w.alloc (.cells #[.int .i8 a, .int .i8 b, .int .i8 c] 26)).cell? ⟨w.heap.size, 2, none⟩ = some (.int .i8 c) := by simp [go_sem]
    generalize (w.alloc (.cells #[.int .i8 a, .int .i8 b, .int .i8 c] 26)) = W0 at *
    have ht : ∀ W, Below W0.heap.size W0 W → Calls Tryd.prog 38 #[.slice A n cap] W fun e w' => ∃ g, e = .returned (.slice (some ⟨g, 0, none⟩) n n) ∧ LongRow w' g n fs es ∧ Below W.heap.size W w' ∧ Below W0.heap.size W0 w' := fun W hW =>
      (toLongS_any A n cap fs es hn W (hr.below (k0.trans (hW.mono k0.size)) (Nat.le_refl _))).mono fun e w' h => ⟨_, h.1, h.2.1, h.2.2, hW.trans (h.2.2.mono hW.size)⟩
    have hst : ∀ W g, Below W0.heap.size W0 W → LongRow W g n fs es → Calls Tryd.prog 20 #[setV a b c] W fun e w' => e = .returned (setV a b c) ∧ LongRow w' g n fs es ∧ Below W.heap.size W w' ∧ Below W0.heap.size W0 w' := fun W g hW hg =>
      (toSetting_any a b c W).mono fun e w' h => ⟨h.1, hg.below h.2 hg.lt, h.2, hW.trans (h.2.mono hW.size)⟩
    have hsq : ∀ W g, Below W0.heap.size W0 W → LongRow W g n fs es → Calls Tryd.prog 41 #[.slice (some ⟨g, 0, none⟩) n n, setV a b c] W fun e w' => e = .returned (.tuple #[setV x y z, .int .i64 (corC n fs es a b c)]) ∧ Below W.heap.size W w' ∧ Below W0.heap.size W0 w' := fun W g hW hg =>
      (Hsp.out g n W hg).mono fun e w' h => ⟨h.1, h.2, hW.trans (h.2.mono hW.size)⟩
    have Ht := Lib.hid ht; clear ht
    have Hst := Lib.hid hst; clear hst
    have Hsq := Lib.hid hsq; clear hsq
    go_cut [6, 7] from 16 to 23 (fun s6 s7 wx => ∃ q, s6 = .pointer (some ⟨q, 0, none⟩) ∧ s7 = .int .i64 (corC n fs es a b c) ∧ Below W0.heap.size W0 wx ∧ W0.heap.size ≤ q ∧ q < wx.heap.size ∧ wx.cell? ⟨q, 0, none⟩ = some (.int .i8 x) ∧ wx.cell? ⟨q, 1, none⟩ = some (.int .i8 y) ∧ wx.cell? ⟨q, 2, none⟩ = some (.int .i8 z))
    case first =>
      go_region_with (first
        | (go_at_call 38; refine (Ht.out _ ?hB).mono ?_; (case hB => (repeat (first | exact Below.refl _ _ | assumption | apply Below.drew | (refine Below.alloc ?_ (by first | omega | (simp; done) | (simp; omega)) _)))); rintro e w1 ⟨g, rfl, hr1, hb1, k1⟩; obtain ⟨hc1, hf1⟩ := bcell hb1; obtain ⟨hd1, hg1⟩ := bcell k1; have l1 := k1.size; have u1 := Nat.lt_of_lt_of_le z0 l1; have hs1 := hb1.size; (try simp only [World.size_alloc, World.size_drew] at hs1); (try have v1 : W0.heap.size < w1.heap.size := by omega); (try have v2 : w1.heap.size < w1.heap.size := by omega); (try have v3 : w2.heap.size < w1.heap.size := by omega))
        | (go_at_call 20; refine (Hst.out _ g ?hB ?hC).mono ?_; (case hB => (repeat (first | exact Below.refl _ _ | assumption | apply Below.drew | (refine Below.alloc ?_ (by first | omega | (simp; done) | (simp; omega)) _)))); (case hC => first | exact hr1 | exact hr1.below ((Below.refl _ _).alloc (Nat.le_refl _) _) hr1.lt); rintro e w2 ⟨rfl, hr2, hb2, k2⟩; obtain ⟨hc2, hf2⟩ := bcell hb2; obtain ⟨hd2, hg2⟩ := bcell k2; have l2 := k2.size; have u2 := Nat.lt_of_lt_of_le z0 l2; have hs2 := hb2.size; (try simp only [World.size_alloc, World.size_drew] at hs2); (try have v1 : W0.heap.size < w2.heap.size := by omega); (try have v2 : w1.heap.size < w2.heap.size := by omega); (try have v3 : w2.heap.size < w2.heap.size := by omega))
        | (go_at_call 41; refine (Hsq.out _ g ?hB ?hC).mono ?_; (case hB => (repeat (first | exact Below.refl _ _ | assumption | apply Below.drew | (refine Below.alloc ?_ (by first | omega | (simp; done) | (simp; omega)) _)))); (case hC => first | exact hr2 | exact hr2.below ((Below.refl _ _).alloc (Nat.le_refl _) _) hr2.lt); rintro e w3 ⟨rfl, hb3, k3⟩; obtain ⟨hc3, hf3⟩ := bcell hb3; obtain ⟨hd3, hg3⟩ := bcell k3; have l3 := k3.size; have u3 := Nat.lt_of_lt_of_le z0 l3; have hs3 := hb3.size; (try simp only [World.size_alloc, World.size_drew] at hs3); (try have v1 : W0.heap.size < w3.heap.size := by omega); (try have v2 : w1.heap.size < w3.heap.size := by omega); (try have v3 : w2.heap.size < w3.heap.size := by omega)))
      all_goals
        go_wp2_with fail
        go_meet
        first
        | (refine ⟨w3.heap.size, rfl, rfl, ?_, by omega, by simp, by simp [go_sem], by simp [go_sem], by simp [go_sem]⟩; repeat (first | exact Below.refl _ _ | assumption | apply Below.drew | (refine Below.alloc ?_ (by first | omega | (simp; done) | (simp; omega)) _) | (refine Below.setCell ?_ (by first | omega | (simp; done) | (simp; omega)) _)))
        | (have i0 : w3.cell? ⟨w2.heap.size, 0, none⟩ = some (.int .i8 0) := by simp [hc3, go_sem]
           have i1 : w3.cell? ⟨w2.heap.size, 1, none⟩ = some (.int .i8 0) := by simp [hc3, go_sem]
           have i2 : w3.cell? ⟨w2.heap.size, 2, none⟩ = some (.int .i8 0) := by simp [hc3, go_sem]
           obtain ⟨j0, j1, j2⟩ := cells3 w3 w2.heap.size (.int .i8 x) (.int .i8 y) (.int .i8 z) i0 i1 i2
           refine ⟨w2.heap.size, rfl, rfl, ?_, by omega, (by simp; omega), j0, j1, j2⟩; repeat (first | exact Below.refl _ _ | assumption | apply Below.drew | (refine Below.alloc ?_ (by first | omega | (simp; done) | (simp; omega)) _) | (refine Below.setCell ?_ (by first | omega | (simp; done) | (simp; omega)) _)))
        | (have m2 : w1.heap.size < w2.heap.size := by omega
           have i0 : w3.cell? ⟨w1.heap.size, 0, none⟩ = some (.int .i8 0) := by simp [hc3, hc2, m2, go_sem]
           have i1 : w3.cell? ⟨w1.heap.size, 1, none⟩ = some (.int .i8 0) := by simp [hc3, hc2, m2, go_sem]
           have i2 : w3.cell? ⟨w1.heap.size, 2, none⟩ = some (.int .i8 0) := by simp [hc3, hc2, m2, go_sem]
           obtain ⟨j0, j1, j2⟩ := cells3 w3 w1.heap.size (.int .i8 x) (.int .i8 y) (.int .i8 z) i0 i1 i2
           refine ⟨w1.heap.size, rfl, rfl, ?_, by omega, (by simp; omega), j0, j1, j2⟩; repeat (first | exact Below.refl _ _ | assumption | apply Below.drew | (refine Below.alloc ?_ (by first | omega | (simp; done) | (simp; omega)) _) | (refine Below.setCell ?_ (by first | omega | (simp; done) | (simp; omega)) _)))
        | (have m1 : W0.heap.size < w1.heap.size := by omega
           have m2 : W0.heap.size < w2.heap.size := by omega
           have i0 : w3.cell? ⟨W0.heap.size, 0, none⟩ = some (.int .i8 0) := by simp [hc3, hc2, hc1, m1, m2, go_sem]
           have i1 : w3.cell? ⟨W0.heap.size, 1, none⟩ = some (.int .i8 0) := by simp [hc3, hc2, hc1, m1, m2, go_sem]
           have i2 : w3.cell? ⟨W0.heap.size, 2, none⟩ = some (.int .i8 0) := by simp [hc3, hc2, hc1, m1, m2, go_sem]
           obtain ⟨j0, j1, j2⟩ := cells3 w3 W0.heap.size (.int .i8 x) (.int .i8 y) (.int .i8 z) i0 i1 i2
           refine ⟨W0.heap.size, rfl, rfl, ?_, by omega, (by simp; omega), j0, j1, j2⟩; repeat (first | exact Below.refl _ _ | assumption | apply Below.drew | (refine Below.alloc ?_ (by first | omega | (simp; done) | (simp; omega)) _) | (refine Below.setCell ?_ (by first | omega | (simp; done) | (simp; omega)) _)))
        | trace_state
    case rest =>
      obtain ⟨q, rfl, rfl, kx, hq, hqx, q0, q1, q2⟩ := hcut
      obtain ⟨hcx, hfx⟩ := bcell kx
      have zx : w.heap.size < wc.heap.size := Nat.lt_of_lt_of_le z0 kx.size
      go_wp2_with fail
      refine (Ht.out _ kx).mono ?_; rintro e w4 ⟨g, rfl, hr4, hb4, k4⟩
      obtain ⟨hc4, hf4⟩ := bcell hb4
      have hy4 := Nat.lt_of_lt_of_le hqx hb4.size
      have hz4 : w.heap.size < w4.heap.size := by omega
      go_wp2_with fail
      refine (Hst.out _ g k4 hr4).mono ?_; rintro e w5 ⟨rfl, hr5, hb5, k5⟩
      obtain ⟨hc5, hf5⟩ := bcell hb5
      have hy5 := Nat.lt_of_lt_of_le hy4 hb5.size
      go_wp2_with fail
      refine (Him.out _ _ _ hr5 (hE.below (k0.trans (k5.mono k0.size)) (Nat.le_refl _))).mono ?_; rintro e w6 ⟨rfl, hb6⟩
      obtain ⟨hc6, hf6⟩ := bcell hb6
      have hy6 := Nat.lt_of_lt_of_le hy5 hb6.size
      have k6 := k5.trans (hb6.mono k5.size)
      have hr6 := hr5.below hb6 hr5.lt
      have k6' := k6.alloc k6.size (.cells #[.int .i8 x, .int .i8 y, .int .i8 z] 29)
      have hr6' := hr6.below ((Below.refl _ _).alloc (Nat.le_refl _) (.cells #[.int .i8 x, .int .i8 y, .int .i8 z] 29)) hr6.lt
      go_wp2_with fail
      refine (eqSetting_same x y z _).mono ?_; rintro e w7 ⟨rfl, hb7⟩
      have k7 := k6'.trans (hb7.mono k6'.size)
      have hr7 := hr6'.below hb7 hr6'.lt
      go_wp2_with fail
      refine (Ht.out _ k7).mono ?_; rintro e w8 ⟨g2, rfl, hr8, hb8, k8⟩
      have hr9 := hr7.below hb8 hr7.lt
      go_wp2_with fail
      refine (eqLongS_same _ _ n n n fs es hn _ hr9 hr8).mono ?_; rintro e w9 ⟨rfl, hb9⟩
      go_wp2_with fail
      go_ret
      have k9 := k8.trans (hb9.mono k8.size)
      exact ⟨rfl, k0.trans (k9.mono k0.size)⟩
  · have hle : ¬ (n : Int) ≤ 1048576 := by omega
    rw [if_neg hle] at hsz
    have Hsz := Lib.hid hsz; clear hsz
    go_enter Tryd.func12, Tryd.ntmps12
    go_wp2_with fail
    refine (Hsz.out hm _).mono ?_; rintro e w0 ⟨rfl, rfl⟩
    go_wp2
    go_ret
    exact ⟨rfl, (Below.refl _ _).alloc (Nat.le_refl _) _⟩
end Go.Proofs.YtmjoccgdpchjbaaDoor

/-
  Baths that are used, replenished, mixed: what the reference returns. No condition beside the bounds of the numbers' kinds.
-/
import Derived.Test.YtkgjkjecfpmlnaaDoorDeedsS
namespace Go.Proofs.YtkgjkjecfpmlnaaDoor
open Go.RowKit

/-- A sheet is developed: the bath, and whether it can be. -/
def SheetOut (B : Bool) (v u a : Int) (w : World) (e : Ending) (w' : World) : Prop :=
  ∃ x y c, e = .returned (.tuple #[batV x y c, .bool B]) ∧ (B = true → x = v ∧ y = u ∧ c = a) ∧ Below w.heap.size w w'

section
variable {p k b t v u a : Int}

set_option maxRecDepth 100000 in
set_option maxHeartbeats 1000000 in
theorem l04Sheet_any (s : Int) (hs : 0 ≤ s) (hs' : s ≤ 5000) (h : BOk p k b t v u a) (w : World) :
    Calls Tryd.prog 58 #[devV p k b t, batV v u a, .int .i64 s] w (SheetOut (sheetB p k b t v u a s) v (u + s) a w) := by
  have hu0 := h.u0
  have hu1 := h.u1
  have hst := fun W => l04Strength_any h W
  have hsb := h.strn_bd
  have hok := fun W => l04Ok_any (p := p) (k := k) (b := b) (t := t) (v := v) (u := u + s) (a := a) (by have := h.b0; omega) (by have := h.b1; omega) (by have := h.t0; omega) (by have := h.t1; omega) W
  have hsl := fun W => l04Slower_any (strn p k v u a) hsb.1 hsb.2 W
  have hb37 := slw_bd (strn p k v u a)
  unfold sheetB
  unfold slwS at hsl
  clear h hsb
  generalize strn p k v u a = S at *
  by_cases h37 : slw S = 37
  · rw [if_pos h37] at hsl
    rw [decide_eq_false (not_not_intro h37), Bool.false_and]
    have Hst := Lib.hid hst; clear hst
    have Hsl := Lib.hid hsl; clear hsl
    clear hok h37 hb37
    go_enter Tryd.func58, Tryd.ntmps58
    go_wp2_with fail
    refine (Hst.out _).mono ?_; rintro e w1 ⟨rfl, hb1⟩
    obtain ⟨hc1, hf1⟩ := bcell hb1
    have hz1 : w.heap.size + 2 < w1.heap.size := by have := hb1.size; simp at this; omega
    have hz1a : w.heap.size < w1.heap.size := by omega
    have hz1b : w.heap.size + 1 < w1.heap.size := by omega
    have hz1c : w.heap.size + 1 + 1 < w1.heap.size := by omega
    have k1 : Below w.heap.size w w1 := by
      refine Below.trans ?_ (hb1.mono (by simp; try omega))
      repeat (first | exact Below.refl _ _ | assumption | apply Below.drew | apply below_drewB | (refine Below.alloc ?_ (by first | omega | (simp; done) | (simp; omega)) _) | (refine Below.setCell ?_ (by first | omega | (simp; done) | (simp; omega)) _))
    go_wp2_with fail
    refine (Hsl.out _).mono ?_; rintro e w2 ⟨rfl, hb2⟩
    obtain ⟨hc2, hf2⟩ := bcell hb2
    have hz2 : w.heap.size + 2 < w2.heap.size := by have := hb2.size; omega
    have k2 := k1.trans (hb2.mono k1.size)
    go_wp2_with fail
    refine bodyPost_ret (v := .tuple #[batV 0 0 0, .bool false]) (by simp [results, Tryd.results58, go_sem, hc2, hz2, hc1, hz1]) rfl ⟨0, 0, 0, rfl, (fun h => Bool.noConfusion h), ?_⟩
    repeat (first | exact Below.refl _ _ | assumption | apply Below.drew | apply below_drewB | (refine Below.alloc ?_ (by first | omega | (simp; done) | (simp; omega)) _) | (refine Below.setCell ?_ (by first | omega | (simp; done) | (simp; omega)) _))
  · rw [if_neg h37] at hsl
    rw [decide_eq_true h37, Bool.true_and]
    generalize slw S = K at *
    generalize bathOk p k b t v (u + s) a = C at *
    have Hst := Lib.hid hst; clear hst
    have Hsl := Lib.hid hsl; clear hsl
    have Hok := Lib.hid hok; clear hok
    go_enter Tryd.func58, Tryd.ntmps58
    go_wp2_with fail
    refine (Hst.out _).mono ?_; rintro e w1 ⟨rfl, hb1⟩
    obtain ⟨hc1, hf1⟩ := bcell hb1
    have hz1 : w.heap.size + 2 < w1.heap.size := by have := hb1.size; simp at this; omega
    have hz1a : w.heap.size < w1.heap.size := by omega
    have hz1b : w.heap.size + 1 < w1.heap.size := by omega
    have hz1c : w.heap.size + 1 + 1 < w1.heap.size := by omega
    have k1 : Below w.heap.size w w1 := by
      refine Below.trans ?_ (hb1.mono (by simp; try omega))
      repeat (first | exact Below.refl _ _ | assumption | apply Below.drew | apply below_drewB | (refine Below.alloc ?_ (by first | omega | (simp; done) | (simp; omega)) _) | (refine Below.setCell ?_ (by first | omega | (simp; done) | (simp; omega)) _))
    have B1 := BtAt.below ((BtAt.newAt _ (w.heap.size + 1) (by simp) _ _ _ _).alloc _) hb1 (Nat.le_refl _)
    have R1 := BtAt.below (BtAt.newAt _ (w.heap.size + 1 + 1) (by simp) _ _ _ _) hb1 (Nat.le_refl _)
    have D1 := DvAt.below (((DvAt.newAt _ w.heap.size rfl _ _ _ _ _).alloc _).alloc _) hb1 (Nat.le_refl _)
    clear hc1 hf1
    go_wp2_with fail
    refine (Hsl.out _).mono ?_; rintro e w2 ⟨rfl, hb2⟩
    have k2 := k1.trans (hb2.mono k1.size)
    have B2 := B1.below hb2 (Nat.le_refl _)
    have R2 := R1.below hb2 (Nat.le_refl _)
    have D2 := D1.below hb2 (Nat.le_refl _)
    have hz2 : w.heap.size + 2 < w2.heap.size := by have := hb2.size; omega
    clear hb1 hb2 B1 R1 D1 k1 hz1 hz1a hz1b hz1c
    have B2' := B2
    obtain ⟨b0, b1, b2, y0, y1, y2⟩ := B2'
    go_wp2_with fail
    clear b0 b1 b2 y0 y1 y2
    obtain ⟨W3, e3⟩ : ∃ W, W = w2.setCell ⟨w.heap.size + 1, 1, none⟩ (.int .i64 (u + s)) := ⟨_, rfl⟩
    have k3 : Below w.heap.size w W3 := by rw [e3]; exact k2.setCell (by simp) _
    have D3 : DvAt W3 w.heap.size p k b t := by rw [e3]; exact D2.setNe (by simp) _
    have R3 : BtAt W3 (w.heap.size + 1 + 1) 0 0 0 := by rw [e3]; exact R2.setNe (by simp) _
    have B3 : BtAt W3 (w.heap.size + 1) v (u + s) a := by rw [e3]; exact B2.set1 (u + s)
    have hz3 : w.heap.size + 2 < W3.heap.size := by rw [e3]; simpa using hz2
    rw [← e3]
    clear e3 B2 R2 D2 k2 hz2
    obtain ⟨d0, d1, d2, d3⟩ := D3
    obtain ⟨e0, e1, e2, _, _, _⟩ := B3
    refine wp_region_quiet_tail 4 (fun w' => ∃ x : WIn (Below W3.heap.size W3), w' = x.w) (by kernel_rfl) (by kernel_rfl) ⟨⟨_, below_drew1 _⟩, rfl⟩ ?_
    simp only [List.take_succ_cons, List.take_zero, List.drop_succ_cons, List.drop_zero]
    have n0 := below_nonempty W3
    have f0 := inCell d0
    have f1 := inCell d1
    have f2 := inCell d2
    have f3 := inCell d3
    have g0 := inCell e0
    have g1 := inCell e1
    have g2 := inCell e2
    repeat (go_big_quiet_step (first | (go_at_call 27; exact inCall _ (Hok.out _))))
    refine wpQuiet_nil ?_
    rintro _ ⟨y, rfl⟩
    have R4 := R3.below y.ok (Nat.le_refl _)
    have k4 := k3.trans (y.ok.mono k3.size)
    have hz4 : w.heap.size + 2 < y.w.heap.size := by have := y.ok.size; omega
    obtain ⟨r0, r1, r2, z0, z1, z2⟩ := R4
    clear f0 f1 f2 f3 g0 g1 g2 e0 e1 e2 d0 d1 d2 d3 n0 R3
    go_wp2
    refine bodyPost_ret (v := .tuple #[batV v (u + s) a, .bool C]) (by simp [results, Tryd.results58, go_sem, r0, r1, r2]) rfl ⟨v, u + s, a, rfl, fun _ => ⟨rfl, rfl, rfl⟩, ?_⟩
    repeat (first | exact Below.refl _ _ | assumption | apply Below.drew | apply below_drewB | (refine Below.alloc ?_ (by first | omega | (simp; done) | (simp; omega)) _) | (refine Below.setCell ?_ (by first | omega | (simp; done) | (simp; omega)) _))

set_option maxRecDepth 100000 in
set_option maxHeartbeats 1000000 in
theorem specReplenish_any (m : Int) (hb : -128 ≤ b) (hb' : b ≤ 127) (ht : -128 ≤ t) (ht' : t ≤ 127) (w : World) :
    Calls Tryd.prog 19 #[devV p k b t, batV v u a, .int .i64 m] w fun e w' => e = .returned (.tuple #[batV (ifC (fillC p k b t v u a m) v) (ifC (fillC p k b t v u a m) (left u v m)) (ifC (fillC p k b t v u a m) (left a v m)), .int .i64 (fillC p k b t v u a m)]) ∧ Below w.heap.size w w' := by
  have hok := fun W => l04Ok_any (p := p) (k := k) (b := b) (t := t) (v := v) (u := u) (a := a) hb hb' ht ht' W
  unfold fillC
  rcases h1 : bathOk p k b t v u a with _ | _
  · rw [h1] at hok
    have Hok := Lib.hid hok; clear hok h1
    simp only [Bool.false_eq_true, if_false, ifC_1]
    go_enter Tryd.func19, Tryd.ntmps19
    go_wp2_with fail
    refine (Hok.out _).mono ?_; rintro e w1 ⟨rfl, hb1⟩
    obtain ⟨hc1, hf1⟩ := bcell hb1
    have hz1 : w.heap.size + 2 < w1.heap.size := by have := hb1.size; simp at this; omega
    have hz1a : w.heap.size < w1.heap.size := by omega
    have hz1b : w.heap.size + 1 < w1.heap.size := by omega
    have hz1c : w.heap.size + 1 + 1 < w1.heap.size := by omega
    have k1 : Below w.heap.size w w1 := by
      refine Below.trans ?_ (hb1.mono (by simp; try omega))
      repeat (first | exact Below.refl _ _ | assumption | apply Below.drew | apply below_drewB | (refine Below.alloc ?_ (by first | omega | (simp; done) | (simp; omega)) _) | (refine Below.setCell ?_ (by first | omega | (simp; done) | (simp; omega)) _))
    go_wp2_with fail
    refine bodyPost_ret (v := .tuple #[batV 0 0 0, .int .i64 1]) (by simp [results, Tryd.results19, go_sem, hc1, hz1]) rfl ⟨rfl, ?_⟩
    repeat (first | exact Below.refl _ _ | assumption | apply Below.drew | apply below_drewB | (refine Below.alloc ?_ (by first | omega | (simp; done) | (simp; omega)) _) | (refine Below.setCell ?_ (by first | omega | (simp; done) | (simp; omega)) _))
  · rw [h1] at hok
    have Hok := Lib.hid hok; clear hok
    have hB := bathOk_true.1 h1
    clear h1
    rcases h2 : inB m 0 v with _ | _
    · simp only [Bool.false_eq_true, if_false, if_true, ifC_2]
      clear hB
      go_enter Tryd.func19, Tryd.ntmps19
      go_wp2_with fail
      refine (Hok.out _).mono ?_; rintro e w1 ⟨rfl, hb1⟩
      obtain ⟨hc1, hf1⟩ := bcell hb1
      have hz1 : w.heap.size + 2 < w1.heap.size := by have := hb1.size; simp at this; omega
      have hz1a : w.heap.size < w1.heap.size := by omega
      have hz1b : w.heap.size + 1 < w1.heap.size := by omega
      have hz1c : w.heap.size + 1 + 1 < w1.heap.size := by omega
      have k1 : Below w.heap.size w w1 := by
        refine Below.trans ?_ (hb1.mono (by simp; try omega))
        repeat (first | exact Below.refl _ _ | assumption | apply Below.drew | apply below_drewB | (refine Below.alloc ?_ (by first | omega | (simp; done) | (simp; omega)) _) | (refine Below.setCell ?_ (by first | omega | (simp; done) | (simp; omega)) _))
      go_wp2_with fail
      refine (l00In_any _ _ _ _).mono ?_; rintro e w2 ⟨rfl, rfl⟩
      go_wp2_with fail
      refine bodyPost_ret (v := .tuple #[batV 0 0 0, .int .i64 2]) (by simp [results, Tryd.results19, go_sem, hc1, hz1]) rfl ⟨rfl, ?_⟩
      repeat (first | exact Below.refl _ _ | assumption | apply Below.drew | apply below_drewB | (refine Below.alloc ?_ (by first | omega | (simp; done) | (simp; omega)) _) | (refine Below.setCell ?_ (by first | omega | (simp; done) | (simp; omega)) _))
    · have hh := inB_true.1 h2
      have hsh := fun W => l04Fill_any m hB hh.1 hh.2 W
      clear hB
      have Hsh := Lib.hid hsh; clear hsh
      generalize left u v m = U at *
      generalize left a v m = X at *
      simp only [if_true, ifC_0]
      go_enter Tryd.func19, Tryd.ntmps19
      go_wp2_with fail
      refine (Hok.out _).mono ?_; rintro e w1 ⟨rfl, hb1⟩
      obtain ⟨hc1, hf1⟩ := bcell hb1
      have hz1 : w.heap.size + 2 < w1.heap.size := by have := hb1.size; simp at this; omega
      have hz1a : w.heap.size < w1.heap.size := by omega
      have hz1b : w.heap.size + 1 < w1.heap.size := by omega
      have hz1c : w.heap.size + 1 + 1 < w1.heap.size := by omega
      have k1 : Below w.heap.size w w1 := by
        refine Below.trans ?_ (hb1.mono (by simp; try omega))
        repeat (first | exact Below.refl _ _ | assumption | apply Below.drew | apply below_drewB | (refine Below.alloc ?_ (by first | omega | (simp; done) | (simp; omega)) _) | (refine Below.setCell ?_ (by first | omega | (simp; done) | (simp; omega)) _))
      go_wp2_with fail
      refine (l00In_any _ _ _ _).mono ?_; rintro e w2 ⟨rfl, rfl⟩
      go_wp2_with fail
      refine (Hsh.out _).mono ?_; rintro e w3 ⟨rfl, hb3⟩
      obtain ⟨hc3, hf3⟩ := bcell hb3
      have hz3 : w.heap.size + 2 < w3.heap.size := by have := hb3.size; omega
      have k3 := k1.trans (hb3.mono k1.size)
      go_wp2_with fail
      refine bodyPost_ret (v := .tuple #[batV v U X, .int .i64 0]) (by simp [results, Tryd.results19, go_sem, hc3, hz3, hc1, hz1]) rfl ⟨rfl, ?_⟩
      repeat (first | exact Below.refl _ _ | assumption | apply Below.drew | apply below_drewB | (refine Below.alloc ?_ (by first | omega | (simp; done) | (simp; omega)) _) | (refine Below.setCell ?_ (by first | omega | (simp; done) | (simp; omega)) _))

end
end Go.Proofs.YtkgjkjecfpmlnaaDoor

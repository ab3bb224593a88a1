/-
  The reference's sheets, every value written out. No condition beside the bounds.
-/
import Derived.Test.YtkgjkjecfpmlnaaDoorShLeft
namespace Go.Proofs.YtkgjkjecfpmlnaaDoor
open Go.RowKit

def ifG (K x : Int) : Int := if K = 37 then 0 else x
def ifR (K sl x : Int) : Int := if K = 37 ∨ sl < K then 0 else x

section
variable {p k b t v u a : Int}

set_option maxRecDepth 100000 in
set_option maxHeartbeats 1000000 in
theorem l04Sheet_fix (s : Int) (hs : 0 ≤ s) (hs' : s ≤ 5000) (h : BOk p k b t v u a) (w : World) :
    Calls Tryd.prog 58 #[devV p k b t, batV v u a, .int .i64 s] w fun e w' => e = .returned (.tuple #[batV (ifG (slw (strn p k v u a)) v) (ifG (slw (strn p k v u a)) (u + s)) (ifG (slw (strn p k v u a)) a), .bool (sheetB p k b t v u a s)]) ∧ Below w.heap.size w w' := by
  have hu0 := h.u0
  have hu1 := h.u1
  have hst := fun W => l04Strength_any h W
  have hsb := h.strn_bd
  have hok := fun W => l04Ok_any (p := p) (k := k) (b := b) (t := t) (v := v) (u := u + s) (a := a) (by have := h.b0; omega) (by have := h.b1; omega) (by have := h.t0; omega) (by have := h.t1; omega) W
  have hsl := fun W => l04Slower_any (strn p k v u a) hsb.1 hsb.2 W
  have hb37 := slw_bd (strn p k v u a)
  unfold sheetB
  unfold slwS at hsl
  clear h hsb
  generalize strn p k v u a = S at *
  by_cases h37 : slw S = 37
  · have hG : ∀ x, ifG (slw S) x = 0 := fun x => if_pos h37
    simp only [hG]
    rw [if_pos h37] at hsl
    rw [decide_eq_false (not_not_intro h37), Bool.false_and]
    have Hst := Lib.hid hst; clear hst
    have Hsl := Lib.hid hsl; clear hsl
    clear hok h37 hb37 hG
    go_enter Tryd.func58, Tryd.ntmps58
    go_wp2_with fail
    refine (Hst.out _).mono ?_; rintro e w1 ⟨rfl, hb1⟩
    obtain ⟨hc1, hf1⟩ := bcell hb1
    have hz1 : w.heap.size + 2 < w1.heap.size := by have := hb1.size; simp at this; omega
    have hz1a : w.heap.size < w1.heap.size := by omega
    have hz1b : w.heap.size + 1 < w1.heap.size := by omega
    have hz1c : w.heap.size + 1 + 1 < w1.heap.size := by omega
    have k1 : Below w.heap.size w w1 := by
      refine Below.trans ?_ (hb1.mono (by simp; try omega))
      repeat (first | exact Below.refl _ _ | assumption | apply Below.drew | apply below_drewB | (refine Below.alloc ?_ (by first | omega | (simp; done) | (simp; omega)) _) | (refine Below.setCell ?_ (by first | omega | (simp; done) | (simp; omega)) _))
    go_wp2_with fail
    refine (Hsl.out _).mono ?_; rintro e w2 ⟨rfl, hb2⟩
    obtain ⟨hc2, hf2⟩ := bcell hb2
    have hz2 : w.heap.size + 2 < w2.heap.size := by have := hb2.size; omega
    have k2 := k1.trans (hb2.mono k1.size)
    go_wp2_with fail
    refine bodyPost_ret (v := .tuple #[batV 0 0 0, .bool false]) (by simp [results, Tryd.results58, go_sem, hc2, hz2, hc1, hz1]) rfl ⟨rfl, ?_⟩
    repeat (first | exact Below.refl _ _ | assumption | apply Below.drew | apply below_drewB | (refine Below.alloc ?_ (by first | omega | (simp; done) | (simp; omega)) _) | (refine Below.setCell ?_ (by first | omega | (simp; done) | (simp; omega)) _))
  · have hG : ∀ x, ifG (slw S) x = x := fun x => if_neg h37
    simp only [hG]
    rw [if_neg h37] at hsl
    rw [decide_eq_true h37, Bool.true_and]
    clear hG
    generalize slw S = K at *
    generalize bathOk p k b t v (u + s) a = C at *
    have Hst := Lib.hid hst; clear hst
    have Hsl := Lib.hid hsl; clear hsl
    have Hok := Lib.hid hok; clear hok
    go_enter Tryd.func58, Tryd.ntmps58
    go_wp2_with fail
    refine (Hst.out _).mono ?_; rintro e w1 ⟨rfl, hb1⟩
    obtain ⟨hc1, hf1⟩ := bcell hb1
    have hz1 : w.heap.size + 2 < w1.heap.size := by have := hb1.size; simp at this; omega
    have hz1a : w.heap.size < w1.heap.size := by omega
    have hz1b : w.heap.size + 1 < w1.heap.size := by omega
    have hz1c : w.heap.size + 1 + 1 < w1.heap.size := by omega
    have k1 : Below w.heap.size w w1 := by
      refine Below.trans ?_ (hb1.mono (by simp; try omega))
      repeat (first | exact Below.refl _ _ | assumption | apply Below.drew | apply below_drewB | (refine Below.alloc ?_ (by first | omega | (simp; done) | (simp; omega)) _) | (refine Below.setCell ?_ (by first | omega | (simp; done) | (simp; omega)) _))
    have B1 := BtAt.below ((BtAt.newAt _ (w.heap.size + 1) (by simp) _ _ _ _).alloc _) hb1 (Nat.le_refl _)
    have R1 := BtAt.below (BtAt.newAt _ (w.heap.size + 1 + 1) (by simp) _ _ _ _) hb1 (Nat.le_refl _)
    have D1 := DvAt.below (((DvAt.newAt _ w.heap.size rfl _ _ _ _ _).alloc _).alloc _) hb1 (Nat.le_refl _)
    clear hc1 hf1
    go_wp2_with fail
    refine (Hsl.out _).mono ?_; rintro e w2 ⟨rfl, hb2⟩
    have k2 := k1.trans (hb2.mono k1.size)
    have B2 := B1.below hb2 (Nat.le_refl _)
    have R2 := R1.below hb2 (Nat.le_refl _)
    have D2 := D1.below hb2 (Nat.le_refl _)
    have hz2 : w.heap.size + 2 < w2.heap.size := by have := hb2.size; omega
    clear hb1 hb2 B1 R1 D1 k1 hz1 hz1a hz1b hz1c
    have B2' := B2
    obtain ⟨b0, b1, b2, y0, y1, y2⟩ := B2'
    go_wp2_with fail
    clear b0 b1 b2 y0 y1 y2
    obtain ⟨W3, e3⟩ : ∃ W, W = w2.setCell ⟨w.heap.size + 1, 1, none⟩ (.int .i64 (u + s)) := ⟨_, rfl⟩
    have k3 : Below w.heap.size w W3 := by rw [e3]; exact k2.setCell (by simp) _
    have D3 : DvAt W3 w.heap.size p k b t := by rw [e3]; exact D2.setNe (by simp) _
    have R3 : BtAt W3 (w.heap.size + 1 + 1) 0 0 0 := by rw [e3]; exact R2.setNe (by simp) _
    have B3 : BtAt W3 (w.heap.size + 1) v (u + s) a := by rw [e3]; exact B2.set1 (u + s)
    have hz3 : w.heap.size + 2 < W3.heap.size := by rw [e3]; simpa using hz2
    rw [← e3]
    clear e3 B2 R2 D2 k2 hz2
    obtain ⟨d0, d1, d2, d3⟩ := D3
    obtain ⟨e0, e1, e2, _, _, _⟩ := B3
    refine wp_region_quiet_tail 4 (fun w' => ∃ x : WIn (Below W3.heap.size W3), w' = x.w) (by kernel_rfl) (by kernel_rfl) ⟨⟨_, below_drew1 _⟩, rfl⟩ ?_
    simp only [List.take_succ_cons, List.take_zero, List.drop_succ_cons, List.drop_zero]
    have n0 := below_nonempty W3
    have f0 := inCell d0
    have f1 := inCell d1
    have f2 := inCell d2
    have f3 := inCell d3
    have g0 := inCell e0
    have g1 := inCell e1
    have g2 := inCell e2
    repeat (go_big_quiet_step (first | (go_at_call 27; exact inCall _ (Hok.out _))))
    refine wpQuiet_nil ?_
    rintro _ ⟨y, rfl⟩
    have R4 := R3.below y.ok (Nat.le_refl _)
    have k4 := k3.trans (y.ok.mono k3.size)
    have hz4 : w.heap.size + 2 < y.w.heap.size := by have := y.ok.size; omega
    obtain ⟨r0, r1, r2, z0, z1, z2⟩ := R4
    clear f0 f1 f2 f3 g0 g1 g2 e0 e1 e2 d0 d1 d2 d3 n0 R3
    go_wp2
    refine bodyPost_ret (v := .tuple #[batV v (u + s) a, .bool C]) (by simp [results, Tryd.results58, go_sem, r0, r1, r2]) rfl ⟨rfl, ?_⟩
    repeat (first | exact Below.refl _ _ | assumption | apply Below.drew | apply below_drewB | (refine Below.alloc ?_ (by first | omega | (simp; done) | (simp; omega)) _) | (refine Below.setCell ?_ (by first | omega | (simp; done) | (simp; omega)) _))

set_option maxRecDepth 100000 in
set_option maxHeartbeats 2000000 in
theorem l04Ready_fix (s sl : Int) (hs : 0 ≤ s) (hs' : s ≤ 5000) (h0 : 0 ≤ sl) (h1 : sl ≤ 36) (h : BOk p k b t v u a) (w : World) :
    Calls Tryd.prog 35 #[devV p k b t, batV v u a, .int .i64 s, .int .i64 sl] w fun e w' => e = .returned (.tuple #[batV (ifR (slw (strn p k v u a)) sl v) (ifR (slw (strn p k v u a)) sl (u + s)) (ifR (slw (strn p k v u a)) sl a), .bool (readyB p k b t v u a s sl)]) ∧ Below w.heap.size w w' := by
  have hst := fun W => l04Strength_any h W
  have hsb := h.strn_bd
  have hsh := fun W => l04Sheet_fix s hs hs' h W
  have hsl := fun W => l04Slower_any (strn p k v u a) hsb.1 hsb.2 W
  have hb37 := slw_bd (strn p k v u a)
  have kk := below_2 w (.cells #[.int .i64 p, .int .i64 k, .int .i8 b, .int .i8 t] 26) (.cells #[.int .i64 v, .int .i64 u, .int .i64 a] 28)
  have kk := kk.alloc kk.size (.cells #[.int .i64 0, .int .i64 0, .int .i64 0] 28)
  unfold readyB
  unfold slwS at hsl
  clear h hsb
  have hsheet37 : slw (strn p k v u a) = 37 → sheetB p k b t v u a s = false := fun e => by unfold sheetB; rw [decide_eq_false (not_not_intro e), Bool.false_and]
  generalize sheetB p k b t v u a s = SB at *
  generalize strn p k v u a = S at *
  generalize slw S = K at *
  by_cases hgo : K = 37 ∨ K ≤ sl
  · have hR : ∀ x, ifR K sl x = ifG K x := fun x => by
      unfold ifR ifG
      by_cases e : K = 37
      · rw [if_pos (.inl e), if_pos e]
      · rw [if_neg (by omega), if_neg e]
    simp only [hR]
    clear hR
    generalize ifG K v = x at *
    generalize ifG K (u + s) = y at *
    generalize ifG K a = c at *
    have hB : (decide (K ≤ sl) && SB) = SB := by
      rcases hgo with e | e
      · rw [hsheet37 e, Bool.and_false]
      · rw [decide_eq_true e, Bool.true_and]
    rw [hB]
    obtain ⟨T, hT, hTl⟩ : ∃ T : Int, (if K = 37 then (-1 : Int) else K) = T ∧ T ≤ sl := by
      by_cases e : K = 37
      · exact ⟨-1, if_pos e, by omega⟩
      · exact ⟨K, if_neg e, by omega⟩
    rw [hT] at hsl
    have Hst := Lib.hid hst; clear hst
    have Hsl := Lib.hid hsl; clear hsl
    have Hsh := Lib.hid hsh; clear hsh
    clear hT hgo hB hsheet37
    go_enter Tryd.func35, Tryd.ntmps35
    go_wp2_with fail
    refine (Hst.out _).mono ?_; rintro e w1 ⟨rfl, hb1⟩
    have k1 := kk.trans (hb1.mono kk.size)
    have D1 : DvAt w1 w.heap.size p k b t := DvAt.below (((DvAt.newAt _ w.heap.size rfl _ _ _ _ _).alloc _).alloc _) hb1 (Nat.le_refl _)
    have B1 : BtAt w1 (w.heap.size + 1) v u a := BtAt.below ((BtAt.newAt _ (w.heap.size + 1) (by simp) _ _ _ _).alloc _) hb1 (Nat.le_refl _)
    have R1 : BtAt w1 (w.heap.size + 1 + 1) 0 0 0 := BtAt.below (BtAt.newAt _ (w.heap.size + 1 + 1) (by simp) _ _ _ _) hb1 (Nat.le_refl _)
    clear hb1 kk
    go_wp2_with fail
    refine (Hsl.out _).mono ?_; rintro e w2 ⟨rfl, hb2⟩
    have k2 := k1.trans (hb2.mono k1.size)
    have R2 := R1.below hb2 (Nat.le_refl _)
    obtain ⟨d0, d1, d2, d3⟩ := D1.below hb2 (Nat.le_refl _)
    obtain ⟨b0, b1, b2, _, _, _⟩ := B1.below hb2 (Nat.le_refl _)
    clear hb2 D1 B1 R1 k1
    go_wp2_with fail
    refine (Hsh.out _).mono ?_; rintro e w3 ⟨rfl, hb3⟩
    have k3 := k2.trans (hb3.mono k2.size)
    have R3 := R2.below hb3 (Nat.le_refl _)
    clear hb3 R2 k2 d0 d1 d2 d3 b0 b1 b2
    have hlt := R3.lt
    have R9 := R3
    obtain ⟨r0, r1, r2, y0, y1, y2⟩ := R9
    go_wp2_with fail
    clear r0 r1 r2 y0 y1 y2
    obtain ⟨W2, e2, D2, kk2⟩ := R3.stored k3 (by omega) x y c
    rw [← e2]
    clear e2
    obtain ⟨c0, c1, c2, _, _, _⟩ := D2
    exact bodyPost_ret (v := .tuple #[batV x y c, .bool SB]) (by simp [results, Tryd.results35, go_sem, c0, c1, c2]) rfl ⟨rfl, kk2⟩
  · have hR : ∀ x, ifR K sl x = 0 := fun x => if_pos (by omega)
    simp only [hR]
    have hB : (decide (K ≤ sl) && SB) = false := by rw [decide_eq_false (by omega), Bool.false_and]
    rw [hB]
    rw [if_neg (by omega)] at hsl
    have hgt : sl < K := by omega
    have Hst := Lib.hid hst; clear hst
    have Hsl := Lib.hid hsl; clear hsl
    clear hgo hB hsheet37 hsh
    go_enter Tryd.func35, Tryd.ntmps35
    go_wp2_with fail
    refine (Hst.out _).mono ?_; rintro e w1 ⟨rfl, hb1⟩
    have k1 := kk.trans (hb1.mono kk.size)
    have R1 : BtAt w1 (w.heap.size + 1 + 1) 0 0 0 := BtAt.below (BtAt.newAt _ (w.heap.size + 1 + 1) (by simp) _ _ _ _) hb1 (Nat.le_refl _)
    clear hb1 kk
    go_wp2_with fail
    refine (Hsl.out _).mono ?_; rintro e w2 ⟨rfl, hb2⟩
    have k2 := k1.trans (hb2.mono k1.size)
    have R2 := R1.below hb2 (Nat.le_refl _)
    clear hb2 R1 k1
    have hlt := R2.lt
    have R9 := R2
    obtain ⟨r0, r1, r2, y0, y1, y2⟩ := R9
    go_wp2_with fail
    clear r0 r1 r2 y0 y1 y2
    obtain ⟨W2, e2, D2, kk2⟩ := R2.stored k2 (by omega) 0 0 0
    rw [← e2]
    clear e2
    obtain ⟨c0, c1, c2, _, _, _⟩ := D2
    exact bodyPost_ret (v := .tuple #[batV 0 0 0, .bool false]) (by simp [results, Tryd.results35, go_sem, c0, c1, c2]) rfl ⟨rfl, kk2⟩

end
end Go.Proofs.YtkgjkjecfpmlnaaDoor

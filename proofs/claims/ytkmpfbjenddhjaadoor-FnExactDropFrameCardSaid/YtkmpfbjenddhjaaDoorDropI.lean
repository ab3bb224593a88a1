/-
  A frame left out, by the program. Condition: its variables hold their own errors; at most 1048576 frames of int16 numbers, a list no longer than its room.
-/
import Derived.Test.YtkmpfbjenddhjaaDoorDropS
import Derived.Test.YtkmpfbjenddhjaaDoorPickJ
namespace Go.Proofs.YtkmpfbjenddhjaaDoor
open Go.RowKit

theorem one_in (w : World) (i : Int) : IntsIn (w.alloc (.cells #[.int .i64 i] 2)) (some ⟨w.heap.size, 0, none⟩) 1 (fun _ => i) :=
  .inr ⟨_, 0, rfl, by simp, fun j hj => by
    obtain rfl : j = 0 := by omega
    simp⟩

set_option maxRecDepth 100000 in
set_option maxHeartbeats 4000000 in
theorem dropFrame_ok (s : Ers) (X : Int) (A : Option Addr) (n cap : Nat) (g : Nat → Nat → Int) (i : Nat) (hn : n ≤ 1048576) (hX : -128 ≤ X ∧ X ≤ 127) (w : World) (hr : PrsIn w A n g) (hE : ErrEnv s w) (hcap : n ≤ cap) (hi : i < n)
    (hF : frmC X n g 1 (fun _ => (i : Int)) = 0) :
    Calls Tryd.prog 36 #[.agg #[.int .i8 X, .slice A n cap], .int .i64 (i : Int)] w (ShtErr s w.heap.size X (n - 1) (drpF g i) 0 w) := by
  have k8 := ((Below.refl w.heap.size w).alloc (Nat.le_refl _) (.cells #[.int .i8 X, .slice A n cap] 29)).alloc (by simp) (.cells #[.int .i8 0, .slice none 0 0] 29)
  have d0 : ((w.alloc (.cells #[.int .i8 X, .slice A n cap] 29)).alloc (.cells #[.int .i8 0, .slice none 0 0] 29)).cell? ⟨w.heap.size, 0, none⟩ = some (.int .i8 X) := by simp
  have d1 : ((w.alloc (.cells #[.int .i8 X, .slice A n cap] 29)).alloc (.cells #[.int .i8 0, .slice none 0 0] 29)).cell? ⟨w.heap.size, 1, none⟩ = some (.slice A n cap) := by simp
  have r0 : ((w.alloc (.cells #[.int .i8 X, .slice A n cap] 29)).alloc (.cells #[.int .i8 0, .slice none 0 0] 29)).cell? ⟨w.heap.size + 1, 0, none⟩ = some (.int .i8 0) := by simp
  have r1 : ((w.alloc (.cells #[.int .i8 X, .slice A n cap] 29)).alloc (.cells #[.int .i8 0, .slice none 0 0] 29)).cell? ⟨w.heap.size + 1, 1, none⟩ = some (.slice none 0 0) := by simp
  have f0 : ((w.alloc (.cells #[.int .i8 X, .slice A n cap] 29)).alloc (.cells #[.int .i8 0, .slice none 0 0] 29)).frozen? ⟨w.heap.size + 1, 0, none⟩ = false := by simp
  have f1 : ((w.alloc (.cells #[.int .i8 X, .slice A n cap] 29)).alloc (.cells #[.int .i8 0, .slice none 0 0] 29)).frozen? ⟨w.heap.size + 1, 1, none⟩ = false := by simp
  have hsz : w.heap.size + 1 < ((w.alloc (.cells #[.int .i8 X, .slice A n cap] 29)).alloc (.cells #[.int .i8 0, .slice none 0 0] 29)).heap.size := by simp
  have k9 := (Below.refl ((w.alloc (.cells #[.int .i8 X, .slice A n cap] 29)).alloc (.cells #[.int .i8 0, .slice none 0 0] 29)).heap.size ((w.alloc (.cells #[.int .i8 X, .slice A n cap] 29)).alloc (.cells #[.int .i8 0, .slice none 0 0] 29))).alloc (Nat.le_refl _) (.cells #[.int .i64 (i : Int)] 2)
  have k0 := k8.trans (k9.mono k8.size)
  have d0 := below_cellOf k9 d0 (Nat.le_refl _)
  have d1 := below_cellOf k9 d1 (Nat.le_refl _)
  have r0 := below_cellOf k9 r0 (Nat.le_refl _)
  have r1 := below_cellOf k9 r1 (Nat.le_refl _)
  have f0 := (k9.frozen (p := ⟨w.heap.size + 1, 0, none⟩) hsz).trans f0
  have f1 := (k9.frozen (p := ⟨w.heap.size + 1, 1, none⟩) hsz).trans f1
  have hsz := Nat.lt_of_lt_of_le hsz k9.size
  clear k8 k9
  have hi9 : IntsIn (((w.alloc (.cells #[.int .i8 X, .slice A n cap] 29)).alloc (.cells #[.int .i8 0, .slice none 0 0] 29)).alloc (.cells #[.int .i64 (i : Int)] 2)) (some ⟨w.heap.size + 1 + 1, 0, none⟩) 1 (fun _ => (i : Int)) := by simpa using one_in ((w.alloc (.cells #[.int .i8 X, .slice A n cap] 29)).alloc (.cells #[.int .i8 0, .slice none 0 0] 29)) (i : Int)
  have hq := framesOf_any s X A n cap g hn hX _ 1 1 (fun _ => (i : Int)) (by omega) _ (hr.below k0 (Nat.le_refl _)) hi9 (hE.below k0 (Nat.le_refl _))
  rw [hF, frmR_0] at hq
  have Hq := Lib.hid hq; clear hq hF hi9
  have HP := Lib.hid (hr.below k0 (Nat.le_refl _))
  have G4 := Lib.hid (And.intro r0 (And.intro r1 (And.intro f0 (And.intro f1 hsz)))); clear r0 r1 f0 f1 hsz hr hE
  have D0 := Lib.hid d0; have D1 := Lib.hid d1; clear d0 d1
  go_enter Tryd.func36, Tryd.ntmps36
  go_wp2_with fail
  generalize (((w.alloc (.cells #[.int .i8 X, .slice A n cap] 29)).alloc (.cells #[.int .i8 0, .slice none 0 0] 29)).alloc (.cells #[.int .i64 (i : Int)] 2)) = W0 at *
  refine Hq.out.mono ?_; rintro e w1 ⟨rfl, hb1⟩
  have s0 := below_cellOf hb1 G4.out.1 (Nat.le_refl _)
  have s1 := below_cellOf hb1 G4.out.2.1 (Nat.le_refl _)
  have u0 := (hb1.frozen (p := ⟨w.heap.size + 1, 0, none⟩) G4.out.2.2.2.2).trans G4.out.2.2.1
  have u1 := (hb1.frozen (p := ⟨w.heap.size + 1, 1, none⟩) G4.out.2.2.2.2).trans G4.out.2.2.2.1
  have KE := Lib.hid (k0.trans (hb1.mono k0.size))
  have R1 := Lib.hid hb1
  clear hb1 k0 Hq
  have e0 := below_cellOf R1.out D0.out (Nat.le_refl _)
  have e1 := below_cellOf R1.out D1.out (Nat.le_refl _)
  have hp0 : ∀ W : World, Below w1.heap.size w1 W → Calls Tryd.prog 56 #[.slice A n cap, .int .i64 (i : Int)] W fun e w' => ∃ A' cap', e = .returned (.slice A' (n - 1) cap') ∧ Mine w' W.heap.size w'.heap.size 58 64 (.slice A' (n - 1) cap') (n - 1) (prF (drpF g i)) ∧ Below W.heap.size W w' := fun W h => by
    rcases (HP.out.below R1.out (Nat.le_refl _)).below h (Nat.le_refl _) with h0 | ⟨b, o, hb, hlt, hc⟩
    · exfalso; omega
    · subst hb
      exact without_any b o n cap g i hi hn hcap W hc hlt
  have hp := Lib.hid hp0; clear hp0
  have hz := G4.out.2.2.2.2
  have hz1 := R1.out.size
  go_wp2_with fail
  go_region_with (first | (go_at_call 56; refine (hp.out _ (below_drew1 w1)).mono ?_; rintro e w5 ⟨A5, c5, rfl, hM5, hb5⟩; have t0 := below_cellOf hb5 (show w1.drew.cell? _ = _ from e0) (Nat.le_refl _); have t1 := below_cellOf hb5 (show w1.drew.cell? _ = _ from e1) (Nat.le_refl _)) | (go_at_call 53; refine (withFrames_any X A _ n cap (n - 1) _ _).mono ?_; rintro e w6 ⟨rfl, hb6⟩; have R6 := Below.trans ((below_drew1 w1).trans hb5) (hb6.mono (Nat.le_trans (below_drew1 w1).size hb5.size)); have v0 := below_cellOf R6 s0 (Nat.le_refl _); have v1 := below_cellOf R6 s1 (Nat.le_refl _); have x0 := (R6.frozen (p := ⟨w.heap.size + 1, 0, none⟩) (by show w.heap.size + 1 < w1.heap.size; omega)).trans u0; have x1 := (R6.frozen (p := ⟨w.heap.size + 1, 1, none⟩) (by show w.heap.size + 1 < w1.heap.size; omega)).trans u1))
  all_goals
    have hM6 := hM5.below hb6 (Nat.le_refl _)
    have hz6 := hb6.size
    have hz5 : w1.heap.size ≤ w5.heap.size := hb5.size
    go_wp2_with fail
    refine bodyPost_ret (v := .tuple #[.agg #[.int .i8 X, .slice A5 (n - 1) c5], .nilIface]) (by simp [results, Tryd.results36, go_sem, v0, v1]) rfl ⟨_, _, _, rfl, .ok, ?_, ?_⟩
    · refine (hM6.keep (fun b h1 h2 h3 => ?_)).mono (show w.heap.size ≤ w1.heap.size by omega) (by simpa [World.setCell] using hz6)
      have h1 : w1.heap.size ≤ b := h1
      rw [Below.heap_setCell _ _ _ _ (by show b ≠ w.heap.size + 1; omega), Below.heap_setCell _ _ _ _ (by show b ≠ w.heap.size + 1; omega)]
    · exact ((KE.out.trans (R6.mono KE.out.size)).setCell (by show _ ≤ w.heap.size + 1; omega) _).setCell (by show _ ≤ w.heap.size + 1; omega) _

set_option maxRecDepth 100000 in
set_option maxHeartbeats 4000000 in
theorem dropFrame_bad (s : Ers) (X : Int) (A : Option Addr) (n cap : Nat) (g G : Nat → Nat → Int) (i : Int) (hn : n ≤ 1048576) (hX : -128 ≤ X ∧ X ≤ 127) (w : World) (hr : PrsIn w A n g) (hE : ErrEnv s w)
    (E : Addr) (cc : Int) (hF : frmC X n g 1 (fun _ => i) = cc) (hR : frmR s A n cap cc = #[.slice none 0 0, errV E]) (hI : IsCode s (errV E) cc) :
    Calls Tryd.prog 36 #[.agg #[.int .i8 X, .slice A n cap], .int .i64 i] w (ShtErr s w.heap.size 0 0 G cc w) := by
  have k8 := ((Below.refl w.heap.size w).alloc (Nat.le_refl _) (.cells #[.int .i8 X, .slice A n cap] 29)).alloc (by simp) (.cells #[.int .i8 0, .slice none 0 0] 29)
  have d0 : ((w.alloc (.cells #[.int .i8 X, .slice A n cap] 29)).alloc (.cells #[.int .i8 0, .slice none 0 0] 29)).cell? ⟨w.heap.size, 0, none⟩ = some (.int .i8 X) := by simp
  have d1 : ((w.alloc (.cells #[.int .i8 X, .slice A n cap] 29)).alloc (.cells #[.int .i8 0, .slice none 0 0] 29)).cell? ⟨w.heap.size, 1, none⟩ = some (.slice A n cap) := by simp
  have r0 : ((w.alloc (.cells #[.int .i8 X, .slice A n cap] 29)).alloc (.cells #[.int .i8 0, .slice none 0 0] 29)).cell? ⟨w.heap.size + 1, 0, none⟩ = some (.int .i8 0) := by simp
  have r1 : ((w.alloc (.cells #[.int .i8 X, .slice A n cap] 29)).alloc (.cells #[.int .i8 0, .slice none 0 0] 29)).cell? ⟨w.heap.size + 1, 1, none⟩ = some (.slice none 0 0) := by simp
  have f0 : ((w.alloc (.cells #[.int .i8 X, .slice A n cap] 29)).alloc (.cells #[.int .i8 0, .slice none 0 0] 29)).frozen? ⟨w.heap.size + 1, 0, none⟩ = false := by simp
  have f1 : ((w.alloc (.cells #[.int .i8 X, .slice A n cap] 29)).alloc (.cells #[.int .i8 0, .slice none 0 0] 29)).frozen? ⟨w.heap.size + 1, 1, none⟩ = false := by simp
  have hsz : w.heap.size + 1 < ((w.alloc (.cells #[.int .i8 X, .slice A n cap] 29)).alloc (.cells #[.int .i8 0, .slice none 0 0] 29)).heap.size := by simp
  have k9 := (Below.refl ((w.alloc (.cells #[.int .i8 X, .slice A n cap] 29)).alloc (.cells #[.int .i8 0, .slice none 0 0] 29)).heap.size ((w.alloc (.cells #[.int .i8 X, .slice A n cap] 29)).alloc (.cells #[.int .i8 0, .slice none 0 0] 29))).alloc (Nat.le_refl _) (.cells #[.int .i64 i] 2)
  have k0 := k8.trans (k9.mono k8.size)
  have d0 := below_cellOf k9 d0 (Nat.le_refl _)
  have d1 := below_cellOf k9 d1 (Nat.le_refl _)
  have r0 := below_cellOf k9 r0 (Nat.le_refl _)
  have r1 := below_cellOf k9 r1 (Nat.le_refl _)
  have f0 := (k9.frozen (p := ⟨w.heap.size + 1, 0, none⟩) hsz).trans f0
  have f1 := (k9.frozen (p := ⟨w.heap.size + 1, 1, none⟩) hsz).trans f1
  have hsz := Nat.lt_of_lt_of_le hsz k9.size
  clear k8 k9
  clear d0 d1
  have hi9 : IntsIn (((w.alloc (.cells #[.int .i8 X, .slice A n cap] 29)).alloc (.cells #[.int .i8 0, .slice none 0 0] 29)).alloc (.cells #[.int .i64 i] 2)) (some ⟨w.heap.size + 1 + 1, 0, none⟩) 1 (fun _ => i) := by simpa using one_in ((w.alloc (.cells #[.int .i8 X, .slice A n cap] 29)).alloc (.cells #[.int .i8 0, .slice none 0 0] 29)) i
  have hq := framesOf_any s X A n cap g hn hX _ 1 1 (fun _ => i) (by omega) _ (hr.below k0 (Nat.le_refl _)) hi9 (hE.below k0 (Nat.le_refl _))
  rw [hF, hR] at hq
  have Hq := Lib.hid hq; clear hq hr hE hF hR hi9
  have G4 := Lib.hid (And.intro r0 (And.intro r1 (And.intro f0 (And.intro f1 hsz)))); clear r0 r1 f0 f1 hsz
  go_enter Tryd.func36, Tryd.ntmps36
  go_wp2_with fail
  generalize (((w.alloc (.cells #[.int .i8 X, .slice A n cap] 29)).alloc (.cells #[.int .i8 0, .slice none 0 0] 29)).alloc (.cells #[.int .i64 i] 2)) = W0 at *
  refine Hq.out.mono ?_; rintro e w1 ⟨rfl, hb1⟩
  have s0 := below_cellOf hb1 G4.out.1 (Nat.le_refl _)
  have s1 := below_cellOf hb1 G4.out.2.1 (Nat.le_refl _)
  have u0 := (hb1.frozen (p := ⟨w.heap.size + 1, 0, none⟩) G4.out.2.2.2.2).trans G4.out.2.2.1
  have u1 := (hb1.frozen (p := ⟨w.heap.size + 1, 1, none⟩) G4.out.2.2.2.2).trans G4.out.2.2.2.1
  have KE := Lib.hid (k0.trans (hb1.mono k0.size))
  clear hb1 G4 k0 Hq
  go_wp2_with fail
  refine bodyPost_ret (v := .tuple #[.agg #[.int .i8 0, .slice none 0 0], errV E]) (by simp [results, Tryd.results36, go_sem, s0, s1]) rfl ⟨_, _, _, rfl, hI, .nil _ _ _ _ _ _ _ _, ?_⟩
  exact (KE.out.setCell (by show _ ≤ w.heap.size + 1; omega) _).setCell (by show _ ≤ w.heap.size + 1; omega) _

end Go.Proofs.YtkmpfbjenddhjaaDoor

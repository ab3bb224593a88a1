/-
  A frame left out, by the reference. Condition: at most 1048576 frames of int16 numbers, a list no longer than its room.
-/
import Derived.Test.YtkmpfbjenddhjaaDoorSwapS
import Derived.Test.YtkmpfbjenddhjaaDoorPickS
import Derived.Test.YtkmpfbjenddhjaaDoorDropC
namespace Go.Proofs.YtkmpfbjenddhjaaDoor
open Go.RowKit

set_option maxRecDepth 100000 in
set_option maxHeartbeats 8000000 in
theorem specDrop_ok (X : Int) (A : Option Addr) (n cap : Nat) (g : Nat → Nat → Int) (i : Nat) (hn : n ≤ 1048576) (hcap : n ≤ cap) (hX : -128 ≤ X ∧ X ≤ 127) (hs : ∀ i, i < n → S16 (g i)) (hi : i < n) (h0i : askC X n g i = 0) (w : World) (hr : PrsIn w A n g) :
    Calls Tryd.prog 13 #[.agg #[.int .i8 X, .slice A n cap], .int .i64 (i : Int)] w (ShtOut w.heap.size X (n - 1) (drpF g i) 0 w) := by
  have k0 := ((Below.refl w.heap.size w).alloc (Nat.le_refl _) (.cells #[.int .i8 X, .slice A n cap] 29)).alloc (by simp) (.cells #[.int .i8 0, .slice none 0 0] 29)
  have hq := fun W c0 c1 hp => l07Asked_any w.heap.size X A n cap g i hn hX hs W c0 c1 hp
  rw [h0i] at hq
  have Hq := Lib.hid hq; clear hq hs
  have d0 : ((w.alloc (.cells #[.int .i8 X, .slice A n cap] 29)).alloc (.cells #[.int .i8 0, .slice none 0 0] 29)).cell? ⟨w.heap.size, 0, none⟩ = some (.int .i8 X) := by simp
  have d1 : ((w.alloc (.cells #[.int .i8 X, .slice A n cap] 29)).alloc (.cells #[.int .i8 0, .slice none 0 0] 29)).cell? ⟨w.heap.size, 1, none⟩ = some (.slice A n cap) := by simp
  have r0 : ((w.alloc (.cells #[.int .i8 X, .slice A n cap] 29)).alloc (.cells #[.int .i8 0, .slice none 0 0] 29)).cell? ⟨w.heap.size + 1, 0, none⟩ = some (.int .i8 0) := by simp
  have r1 : ((w.alloc (.cells #[.int .i8 X, .slice A n cap] 29)).alloc (.cells #[.int .i8 0, .slice none 0 0] 29)).cell? ⟨w.heap.size + 1, 1, none⟩ = some (.slice none 0 0) := by simp
  have f0 : ((w.alloc (.cells #[.int .i8 X, .slice A n cap] 29)).alloc (.cells #[.int .i8 0, .slice none 0 0] 29)).frozen? ⟨w.heap.size + 1, 0, none⟩ = false := by simp
  have f1 : ((w.alloc (.cells #[.int .i8 X, .slice A n cap] 29)).alloc (.cells #[.int .i8 0, .slice none 0 0] 29)).frozen? ⟨w.heap.size + 1, 1, none⟩ = false := by simp
  have hsz : w.heap.size + 1 < ((w.alloc (.cells #[.int .i8 X, .slice A n cap] 29)).alloc (.cells #[.int .i8 0, .slice none 0 0] 29)).heap.size := by simp
  have HP0 := Lib.hid (hr.below k0 (Nat.le_refl _)); clear hr
  have G4 := Lib.hid (And.intro r0 (And.intro r1 (And.intro f0 (And.intro f1 hsz)))); clear r0 r1 f0 f1 hsz
  go_enter Tryd.func13, Tryd.ntmps13
  go_wp2_with fail
  generalize ((w.alloc (.cells #[.int .i8 X, .slice A n cap] 29)).alloc (.cells #[.int .i8 0, .slice none 0 0] 29)) = W0 at *
  refine (Hq.out _ d0 d1 HP0.out).mono ?_; rintro e w1 ⟨rfl, hb1⟩
  have k1 := k0.trans (hb1.mono k0.size)
  have e0 := Lib.hid (below_cellOf hb1 d0 (Nat.le_refl _))
  have e1 := Lib.hid (below_cellOf hb1 d1 (Nat.le_refl _))
  have s0 := Lib.hid (below_cellOf hb1 G4.out.1 (Nat.le_refl _))
  have s1 := Lib.hid (below_cellOf hb1 G4.out.2.1 (Nat.le_refl _))
  have u0 := Lib.hid ((hb1.frozen (p := ⟨w.heap.size + 1, 0, none⟩) G4.out.2.2.2.2).trans G4.out.2.2.1)
  have u1 := Lib.hid ((hb1.frozen (p := ⟨w.heap.size + 1, 1, none⟩) G4.out.2.2.2.2).trans G4.out.2.2.2.1)
  have hz1 : w.heap.size + 1 < w1.heap.size := Nat.lt_of_lt_of_le G4.out.2.2.2.2 hb1.size
  have hP1 := HP0.out.below hb1 (Nat.le_refl _)
  have K1 := Lib.hid k1
  clear hb1 d0 d1 G4 k0 k1 Hq HP0
  rcases hP1 with h0 | ⟨b, o, rfl, hlt, hc⟩
  · exfalso; omega
  have HP1 : Hid (PrsAt w1 b o n g) := Lib.hid hc
  clear hc h0i
  obtain ⟨i0, hi0, hz0, hz10, hz2⟩ := info_parts prInfo
  obtain ⟨o2, hbk, hpb⟩ := back_pr (P := Tryd.prog) 27 Tryd.underlying27 i0 hi0 hz10 b o n cap i hi hcap
  have hfr := fun W => run_front (P := Tryd.prog) 27 _ i0 Tryd.underlying27 hi0 b o n cap i (by omega) W
  have HPB := Lib.hid hpb
  clear hi0 hz0 hz10 hz2 hpb
  have hi' : (i : Int) < n := by omega
  have hwr : IntKind.i64.wrap ((i : Int) + 1) = (i : Int) + 1 := by rw [IntKind.wrap_i64]; omega
  go_wp2_with fail
  refine wp_region_held (S := fun W => W.cell? ⟨w.heap.size, 1, none⟩ = some (.slice (some ⟨b, o, none⟩) n cap)) (by kernel_rfl) ?_
  have hS0 : w1.drew.cell? ⟨w.heap.size, 1, none⟩ = some (.slice (some ⟨b, o, none⟩) n cap) := e1.out
  have T0 := Lib.hid (below_drew1 w1)
  show wpAnyH _ _ _ _ _ _ _ _ w1.drew
  generalize w1.drew = Wd at *
  simp only [List.size_toArray, List.length_cons, List.length_nil]
  refine wpAnyH_take (i := 1) (v := .pointer (some ⟨w.heap.size, 1, none⟩)) rfl (by kernel_rfl) (by kernel_rfl) (by kernel_rfl) (fun _ _ _ h => h) (.inl ⟨by rfl, fun W _ => by go_simp⟩) hS0 ?_
  go_frame
  refine wpAnyH_take (i := 2) (v := .slice (some ⟨b, o, none⟩) n cap) rfl (by kernel_rfl) (by kernel_rfl) (by kernel_rfl) (fun _ _ _ h => h) (.inl ⟨by rfl, fun W hW => by have h := hW; go_simp⟩) hS0 ?_
  go_frame
  refine wpAnyH_take (i := 3) (v := .int .i64 (i : Int)) rfl (by kernel_rfl) (by kernel_rfl) (by kernel_rfl) (fun _ _ _ h => h) (.inl ⟨by rfl, fun W _ => by go_simp⟩) hS0 ?_
  go_frame
  refine wpAnyH_take (i := 4) (v := .slice (some ⟨b, o, none⟩) i cap) rfl (by kernel_rfl) (by kernel_rfl) (by kernel_rfl) (fun _ _ _ h => h) (yields_front rfl rfl Tryd.underlying27 (by go_simp) (by go_simp) hfr) hS0 ?_
  go_frame
  refine wpAnyH_take (i := 6) (v := .pointer (some ⟨w.heap.size, 1, none⟩)) rfl (by kernel_rfl) (by kernel_rfl) (by kernel_rfl) (fun _ _ _ h => h) (.inl ⟨by rfl, fun W _ => by go_simp⟩) hS0 ?_
  go_frame
  refine wpAnyH_take (i := 7) (v := .slice (some ⟨b, o, none⟩) n cap) rfl (by kernel_rfl) (by kernel_rfl) (by kernel_rfl) (fun _ _ _ h => h) (.inl ⟨by rfl, fun W hW => by have h := hW; go_simp⟩) hS0 ?_
  go_frame
  refine wpAnyH_take (i := 8) (v := .int .i64 (i : Int)) rfl (by kernel_rfl) (by kernel_rfl) (by kernel_rfl) (fun _ _ _ h => h) (.inl ⟨by rfl, fun W _ => by go_simp⟩) hS0 ?_
  go_frame
  refine wpAnyH_take (i := 9) (v := .int .i64 ((i : Int) + 1)) rfl (by kernel_rfl) (by kernel_rfl) (by kernel_rfl) (fun _ _ _ h => h) (.inl ⟨by rfl, fun W _ => by go_simp⟩) hS0 ?_
  go_frame
  refine wpAnyH_take (i := 10) (v := .slice (some ⟨b, o2, none⟩) (n - (i + 1)) (cap - (i + 1))) rfl (by kernel_rfl) (by kernel_rfl) (by kernel_rfl) (fun _ _ _ h => h) (yields_back rfl rfl Tryd.underlying27 (by go_simp) (by go_simp) hbk) hS0 ?_
  go_frame
  refine wpAnyH_ready (rs := [0]) (by kernel_rfl) (by decide) ?_
  refine AllReadyH.cons rfl ?_ AllReadyH.nil
  intro K5 hK5
  go_simp
  have o5 := World.ownsRow_lit (base := w1.heap.size) (e := 58) (size := 64) Wd #[] 0 T0.out.size (Nat.zero_le _) rfl
  have hT5 := T0.out.alloc T0.out.size (.cells #[] 58)
  have O5 := Lib.hid (show (Wd.alloc (.cells #[] 58)).ownsRow w1.heap.size 58 64 (.slice (some ⟨Wd.heap.size, 0, none⟩) 0 0) 0 (prL g 0) by simpa [prL_nil] using o5)
  have T5 := Lib.hid hT5
  have V5 : Hid (Value.slice (some ⟨Wd.heap.size, 0, none⟩) 0 0 ≠ .slice none 0 0) := Lib.hid (by simp)
  have hS5 : (Wd.alloc (.cells #[] 58)).cell? ⟨w.heap.size, 1, none⟩ = some (.slice (some ⟨b, o, none⟩) n cap) := below_cellOf hT5 e1.out (Nat.le_refl _)
  clear o5 hT5 T0 hS0
  refine hK5.out _ _ hS5 (fun _ => ?_)
  clear hK5 K5
  have n1 : Hid (0 + i ≤ 2097152) := Lib.hid (by omega)
  have n2 : Hid (i + (n - (i + 1)) ≤ 2097152) := Lib.hid (by omega)
  generalize Wd.heap.size = qd at *
  generalize (Wd.alloc (.cells #[] 58)) = W5 at *
  refine wpAnyH_ready (rs := [5]) (by kernel_rfl) (by decide) ?_
  refine AllReadyH.cons rfl ?_ AllReadyH.nil
  intro K6 hK6
  refine step_append_prs (c := cap) (by rfl) (.tmp 13) (.tmp 17) (by rfl) Tryd.underlying27 (by go_simp) O5.out (.inl V5.out) (by go_simp) ((HP1.out.below T5.out hlt).front (Nat.le_of_lt hi)) n1.out T5.out.size ?_
  intro q6 c6 w6 o6 hb6 hg6
  have e6 : appF g g 0 = g := by funext i; simp [appF]
  rw [e6] at o6
  simp only [Nat.zero_add] at o6 ⊢
  have T6 := Lib.hid (T5.out.trans hb6)
  have O6 := Lib.hid o6
  have hS6 : w6.cell? ⟨w.heap.size, 1, none⟩ = some (.slice (some ⟨b, o, none⟩) n cap) := below_cellOf T6.out e1.out (Nat.le_refl _)
  have V6 : Hid (Value.slice (some ⟨q6, 0, none⟩) i c6 ≠ .slice none 0 0) := Lib.hid (by simp)
  clear hb6 hg6 o6 T5 O5 V5 hS5 n1
  refine hK6.out _ _ hS6 (fun _ => ?_)
  clear hK6 K6
  refine wpAnyH_ready (rs := [11]) (by kernel_rfl) (by decide) ?_
  refine AllReadyH.cons rfl ?_ AllReadyH.nil
  intro K7 hK7
  refine step_append_prs (c := cap - (i + 1)) (by rfl) (.tmp 18) (.tmp 23) (by rfl) Tryd.underlying27 (by go_simp) O6.out (.inl V6.out) (by go_simp) (HPB.out _ _ (HP1.out.below T6.out hlt)) n2.out T6.out.size ?_
  intro q7 c7 w7 o7 hb7 hg7
  have e7 : i + (n - (i + 1)) = n - 1 := by omega
  rw [e7] at o7 ⊢
  have T7 := Lib.hid (T6.out.trans hb7)
  have O7 := Lib.hid (own_row (show w7.ownsRow w1.heap.size 58 64 (.slice (some ⟨q7, 0, none⟩) (n - 1) c7) (n - 1) (prL (drpF g i) (n - 1)) from o7))
  have hS7 : w7.cell? ⟨w.heap.size, 1, none⟩ = some (.slice (some ⟨b, o, none⟩) n cap) := below_cellOf T7.out e1.out (Nat.le_refl _)
  clear hb7 hg7 o7 T6 O6 V6 hS6 n2 e7 e6
  refine hK7.out _ _ hS7 (fun _ => ?_)
  clear hK7 K7 hbk hfr
  refine wpAnyH_ready (rs := [12]) (by kernel_rfl) (by decide) ?_
  refine AllReadyH.cons rfl ?_ AllReadyH.nil
  intro K8 hK8
  go_simp
  have hn1 : n - 1 ≤ 1048576 := by omega
  refine (l07With_any w.heap.size X q7 0 (n - 1) c7 (drpF g i) hn1 _ (below_cellOf T7.out e0.out (Nat.le_refl _)) O7.out.2.at0 O7.out.2.lt).mono ?_; rintro e w8 ⟨q8, c8, rfl, hq8, hR8, hb8⟩
  have T8 := T7.out.trans (hb8.mono T7.out.size)
  have hS8 : w8.cell? ⟨w.heap.size, 1, none⟩ = some (.slice (some ⟨b, o, none⟩) n cap) := below_cellOf T8 e1.out (Nat.le_refl _)
  have a0 := below_cellOf T8 s0.out (Nat.le_refl _)
  have a1 := below_cellOf T8 s1.out (Nat.le_refl _)
  have g0 := (T8.frozen (p := ⟨w.heap.size + 1, 0, none⟩) hz1).trans u0.out
  have g1 := (T8.frozen (p := ⟨w.heap.size + 1, 1, none⟩) hz1).trans u1.out
  have hq8' : w1.heap.size ≤ q8 := Nat.le_trans T7.out.size hq8
  have HR8 := Lib.hid hR8
  have T8 := Lib.hid T8
  clear hb8 hq8 hR8 T7 hS7 O7
  go_wp2_with fail
  refine hK8.out _ _ hS8 (fun _ => ?_)
  clear hK8 K8
  refine wpAnyH_ready (rs := [13]) (by kernel_rfl) (by decide) ?_
  refine AllReadyH.cons rfl ?_ AllReadyH.nil
  intro K9 hK9
  go_simp
  have hS9 : ((w8.setCell ⟨w.heap.size + 1, 0, none⟩ (.int .i8 X)).setCell ⟨w.heap.size + 1, 1, none⟩ (.slice (some ⟨q8, 0, none⟩) (n - 1) c8)).cell? ⟨w.heap.size, 1, none⟩ = some (.slice (some ⟨b, o, none⟩) n cap) := by rw [World.cell?_setCell_far _ _ _ _ (by show w.heap.size + 1 ≠ w.heap.size; omega), World.cell?_setCell_far _ _ _ _ (by show w.heap.size + 1 ≠ w.heap.size; omega)]; exact hS8
  refine hK9.out _ _ hS9 (fun _ => ?_)
  clear hK9 K9
  refine wpAnyH_ready (rs := [14]) (by kernel_rfl) (by decide) ?_
  refine AllReadyH.cons rfl ?_ AllReadyH.nil
  intro KZ hKZ
  go_simp
  refine hKZ.out _ _ hS9 (fun _ => ?_)
  clear hKZ KZ
  refine wpAnyH_done (by kernel_rfl) ?_ _
  go_wp2_with fail
  refine bodyPost_ret (v := .tuple #[.agg #[.int .i8 X, .slice (some ⟨q8, 0, none⟩) (n - 1) c8], .int .i64 0]) (by simp [results, Tryd.results13, go_sem, a0, a1]) rfl ⟨_, rfl, ?_, ?_⟩
  · exact ((HR8.out.other (by show q8 ≠ w.heap.size + 1; omega) _).other (by show q8 ≠ w.heap.size + 1; omega) _).mineL c8 (by omega)
  · exact ((K1.out.trans (T8.out.mono (Nat.le_of_lt (by omega)))).setCell (by show _ ≤ w.heap.size + 1; omega) _).setCell (by show _ ≤ w.heap.size + 1; omega) _

set_option maxRecDepth 100000 in
set_option maxHeartbeats 4000000 in
theorem specDrop_bad (X : Int) (A : Option Addr) (n cap : Nat) (g : Nat → Nat → Int) (i : Int) (hn : n ≤ 1048576) (hX : -128 ≤ X ∧ X ≤ 127) (hs : ∀ i, i < n → S16 (g i)) (c : Int) (h0i : askC X n g i = c) (hc0 : c = 1 ∨ c = 2) (G : Nat → Nat → Int) (w : World) (hr : PrsIn w A n g) :
    Calls Tryd.prog 13 #[.agg #[.int .i8 X, .slice A n cap], .int .i64 i] w (ShtOut w.heap.size 0 0 G c w) := by
  have k0 := ((Below.refl w.heap.size w).alloc (Nat.le_refl _) (.cells #[.int .i8 X, .slice A n cap] 29)).alloc (by simp) (.cells #[.int .i8 0, .slice none 0 0] 29)
  have hq := fun W c0 c1 hp => l07Asked_any w.heap.size X A n cap g i hn hX hs W c0 c1 hp
  rw [h0i] at hq
  have Hq := Lib.hid hq; clear hq hs
  have d0 : ((w.alloc (.cells #[.int .i8 X, .slice A n cap] 29)).alloc (.cells #[.int .i8 0, .slice none 0 0] 29)).cell? ⟨w.heap.size, 0, none⟩ = some (.int .i8 X) := by simp
  have d1 : ((w.alloc (.cells #[.int .i8 X, .slice A n cap] 29)).alloc (.cells #[.int .i8 0, .slice none 0 0] 29)).cell? ⟨w.heap.size, 1, none⟩ = some (.slice A n cap) := by simp
  have r0 : ((w.alloc (.cells #[.int .i8 X, .slice A n cap] 29)).alloc (.cells #[.int .i8 0, .slice none 0 0] 29)).cell? ⟨w.heap.size + 1, 0, none⟩ = some (.int .i8 0) := by simp
  have r1 : ((w.alloc (.cells #[.int .i8 X, .slice A n cap] 29)).alloc (.cells #[.int .i8 0, .slice none 0 0] 29)).cell? ⟨w.heap.size + 1, 1, none⟩ = some (.slice none 0 0) := by simp
  have f0 : ((w.alloc (.cells #[.int .i8 X, .slice A n cap] 29)).alloc (.cells #[.int .i8 0, .slice none 0 0] 29)).frozen? ⟨w.heap.size + 1, 0, none⟩ = false := by simp
  have f1 : ((w.alloc (.cells #[.int .i8 X, .slice A n cap] 29)).alloc (.cells #[.int .i8 0, .slice none 0 0] 29)).frozen? ⟨w.heap.size + 1, 1, none⟩ = false := by simp
  have hsz : w.heap.size + 1 < ((w.alloc (.cells #[.int .i8 X, .slice A n cap] 29)).alloc (.cells #[.int .i8 0, .slice none 0 0] 29)).heap.size := by simp
  have HP0 := Lib.hid (hr.below k0 (Nat.le_refl _)); clear hr
  have G4 := Lib.hid (And.intro r0 (And.intro r1 (And.intro f0 (And.intro f1 hsz)))); clear r0 r1 f0 f1 hsz
  have hcn : ¬ c = 0 := by omega
  go_enter Tryd.func13, Tryd.ntmps13
  go_wp2_with fail
  generalize ((w.alloc (.cells #[.int .i8 X, .slice A n cap] 29)).alloc (.cells #[.int .i8 0, .slice none 0 0] 29)) = W0 at *
  refine (Hq.out _ d0 d1 HP0.out).mono ?_; rintro e w1 ⟨rfl, hb1⟩
  have k1 := k0.trans (hb1.mono k0.size)
  have s0 := below_cellOf hb1 G4.out.1 (Nat.le_refl _)
  have s1 := below_cellOf hb1 G4.out.2.1 (Nat.le_refl _)
  have u0 := (hb1.frozen (p := ⟨w.heap.size + 1, 0, none⟩) G4.out.2.2.2.2).trans G4.out.2.2.1
  have u1 := (hb1.frozen (p := ⟨w.heap.size + 1, 1, none⟩) G4.out.2.2.2.2).trans G4.out.2.2.2.1
  clear hb1 d0 d1 G4 k0 Hq HP0
  go_wp2_with fail
  refine bodyPost_ret (v := .tuple #[.agg #[.int .i8 0, .slice none 0 0], .int .i64 c]) (by simp [results, Tryd.results13, go_sem, s0, s1]) rfl ⟨_, rfl, .nil _ _ _ _ _ _ _ _, ?_⟩
  exact (k1.setCell (by show _ ≤ w.heap.size + 1; omega) _).setCell (by show _ ≤ w.heap.size + 1; omega) _
end Go.Proofs.YtkmpfbjenddhjaaDoor

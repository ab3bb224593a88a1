/-
  Two frames exchanged, by the program: refusals, and the whole call. Condition: its variables hold their own errors; at most 1048576 frames of int16 numbers.
-/
import Derived.Test.YtkmpfbjenddhjaaDoorSwapJ
namespace Go.Proofs.YtkmpfbjenddhjaaDoor
open Go.RowKit

theorem frmC_two (X : Int) (n : Nat) (g : Nat → Nat → Int) (i k : Int) : frmC X n g 2 (two i k) = swpC X n g i k := by
  unfold frmC swpC askC
  rcases shtB X n g with _ | _ <;> rcases h1 : inB i 0 ((n : Int) - 1) with _ | _ <;> rcases h2 : inB k 0 ((n : Int) - 1) with _ | _ <;> simp [List.range_succ, two, h1, h2]

set_option maxRecDepth 100000 in
set_option maxHeartbeats 4000000 in
theorem swapFrames_bad (s : Ers) (X : Int) (A : Option Addr) (n cap : Nat) (g G : Nat → Nat → Int) (i k : Int) (hn : n ≤ 1048576) (hX : -128 ≤ X ∧ X ≤ 127) (w : World) (hr : PrsIn w A n g) (hE : ErrEnv s w)
    (E : Addr) (cc : Int) (hF : frmC X n g 2 (two i k) = cc) (hR : frmR s A n cap cc = #[.slice none 0 0, errV E]) (hI : IsCode s (errV E) cc) :
    Calls Tryd.prog 32 #[.agg #[.int .i8 X, .slice A n cap], .int .i64 i, .int .i64 k] w (ShtErr s w.heap.size 0 0 G cc w) := by
  have k8 := ((Below.refl w.heap.size w).alloc (Nat.le_refl _) (.cells #[.int .i8 X, .slice A n cap] 29)).alloc (by simp) (.cells #[.int .i8 0, .slice none 0 0] 29)
  have d0 : ((w.alloc (.cells #[.int .i8 X, .slice A n cap] 29)).alloc (.cells #[.int .i8 0, .slice none 0 0] 29)).cell? ⟨w.heap.size, 0, none⟩ = some (.int .i8 X) := by simp
  have d1 : ((w.alloc (.cells #[.int .i8 X, .slice A n cap] 29)).alloc (.cells #[.int .i8 0, .slice none 0 0] 29)).cell? ⟨w.heap.size, 1, none⟩ = some (.slice A n cap) := by simp
  have r0 : ((w.alloc (.cells #[.int .i8 X, .slice A n cap] 29)).alloc (.cells #[.int .i8 0, .slice none 0 0] 29)).cell? ⟨w.heap.size + 1, 0, none⟩ = some (.int .i8 0) := by simp
  have r1 : ((w.alloc (.cells #[.int .i8 X, .slice A n cap] 29)).alloc (.cells #[.int .i8 0, .slice none 0 0] 29)).cell? ⟨w.heap.size + 1, 1, none⟩ = some (.slice none 0 0) := by simp
  have f0 : ((w.alloc (.cells #[.int .i8 X, .slice A n cap] 29)).alloc (.cells #[.int .i8 0, .slice none 0 0] 29)).frozen? ⟨w.heap.size + 1, 0, none⟩ = false := by simp
  have f1 : ((w.alloc (.cells #[.int .i8 X, .slice A n cap] 29)).alloc (.cells #[.int .i8 0, .slice none 0 0] 29)).frozen? ⟨w.heap.size + 1, 1, none⟩ = false := by simp
  have hsz : w.heap.size + 1 < ((w.alloc (.cells #[.int .i8 X, .slice A n cap] 29)).alloc (.cells #[.int .i8 0, .slice none 0 0] 29)).heap.size := by simp
  have k9 := (Below.refl ((w.alloc (.cells #[.int .i8 X, .slice A n cap] 29)).alloc (.cells #[.int .i8 0, .slice none 0 0] 29)).heap.size ((w.alloc (.cells #[.int .i8 X, .slice A n cap] 29)).alloc (.cells #[.int .i8 0, .slice none 0 0] 29))).alloc (Nat.le_refl _) (.cells #[.int .i64 i, .int .i64 k] 2)
  have k0 := k8.trans (k9.mono k8.size)
  have d0 := below_cellOf k9 d0 (Nat.le_refl _)
  have d1 := below_cellOf k9 d1 (Nat.le_refl _)
  have r0 := below_cellOf k9 r0 (Nat.le_refl _)
  have r1 := below_cellOf k9 r1 (Nat.le_refl _)
  have f0 := (k9.frozen (p := ⟨w.heap.size + 1, 0, none⟩) hsz).trans f0
  have f1 := (k9.frozen (p := ⟨w.heap.size + 1, 1, none⟩) hsz).trans f1
  have hsz := Nat.lt_of_lt_of_le hsz k9.size
  clear k8 k9
  clear d0 d1
  have hi9 : IntsIn (((w.alloc (.cells #[.int .i8 X, .slice A n cap] 29)).alloc (.cells #[.int .i8 0, .slice none 0 0] 29)).alloc (.cells #[.int .i64 i, .int .i64 k] 2)) (some ⟨w.heap.size + 1 + 1, 0, none⟩) 2 (two i k) := by simpa using two_in ((w.alloc (.cells #[.int .i8 X, .slice A n cap] 29)).alloc (.cells #[.int .i8 0, .slice none 0 0] 29)) i k
  have hq := framesOf_any s X A n cap g hn hX _ 2 2 (two i k) (by omega) _ (hr.below k0 (Nat.le_refl _)) hi9 (hE.below k0 (Nat.le_refl _))
  rw [hF, hR] at hq
  have Hq := Lib.hid hq; clear hq hr hE hF hR hi9
  have G4 := Lib.hid (And.intro r0 (And.intro r1 (And.intro f0 (And.intro f1 hsz)))); clear r0 r1 f0 f1 hsz
  go_enter Tryd.func32, Tryd.ntmps32
  go_wp2_with fail
  generalize (((w.alloc (.cells #[.int .i8 X, .slice A n cap] 29)).alloc (.cells #[.int .i8 0, .slice none 0 0] 29)).alloc (.cells #[.int .i64 i, .int .i64 k] 2)) = W0 at *
  refine Hq.out.mono ?_; rintro e w1 ⟨rfl, hb1⟩
  have s0 := below_cellOf hb1 G4.out.1 (Nat.le_refl _)
  have s1 := below_cellOf hb1 G4.out.2.1 (Nat.le_refl _)
  have u0 := (hb1.frozen (p := ⟨w.heap.size + 1, 0, none⟩) G4.out.2.2.2.2).trans G4.out.2.2.1
  have u1 := (hb1.frozen (p := ⟨w.heap.size + 1, 1, none⟩) G4.out.2.2.2.2).trans G4.out.2.2.2.1
  have KE := Lib.hid (k0.trans (hb1.mono k0.size))
  clear hb1 G4 k0 Hq
  go_wp2_with fail
  refine bodyPost_ret (v := .tuple #[.agg #[.int .i8 0, .slice none 0 0], errV E]) (by simp [results, Tryd.results32, go_sem, s0, s1]) rfl ⟨_, _, _, rfl, hI, .nil _ _ _ _ _ _ _ _, ?_⟩
  exact (KE.out.setCell (by show _ ≤ w.heap.size + 1; omega) _).setCell (by show _ ≤ w.heap.size + 1; omega) _

end Go.Proofs.YtkmpfbjenddhjaaDoor

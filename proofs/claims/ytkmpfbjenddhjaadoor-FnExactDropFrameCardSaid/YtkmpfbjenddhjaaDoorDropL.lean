/-
  A frame left out: what both sides hand back. Condition of the program's: its variables hold their own errors; at most 1048576 frames of int16 numbers, a list no longer than its room.
-/
import Derived.Test.YtkmpfbjenddhjaaDoorDropI
namespace Go.Proofs.YtkmpfbjenddhjaaDoor
open Go.RowKit

/-- What leaving out hands back. -/
def DrpOut (L : Nat) (X : Int) (n : Nat) (g : Nat → Nat → Int) (i : Int) (w : World) (e : Ending) (w' : World) : Prop :=
  ShtOut L (if askC X n g i = 0 then X else 0) (if askC X n g i = 0 then n - 1 else 0) (drpF g i.toNat) (askC X n g i) w e w'
theorem dropFrame_any (s : Ers) (X : Int) (A : Option Addr) (n cap : Nat) (g : Nat → Nat → Int) (i : Int) (hn : n ≤ 1048576) (hcap : n ≤ cap) (hX : -128 ≤ X ∧ X ≤ 127) (w : World) (hr : PrsIn w A n g) (hE : ErrEnv s w) :
    Calls Tryd.prog 36 #[.agg #[.int .i8 X, .slice A n cap], .int .i64 i] w (ShtErr s w.heap.size (if askC X n g i = 0 then X else 0) (if askC X n g i = 0 then n - 1 else 0) (drpF g i.toNat) (askC X n g i) w) := by
  rcases askC_cases X n g i with ⟨h, _, h1, h2⟩ | h | h
  · obtain ⟨j, rfl⟩ : ∃ j : Nat, i = j := ⟨i.toNat, by omega⟩
    rw [h]
    exact dropFrame_ok s X A n cap g j hn hX w hr hE hcap (by omega) (by rw [frmC_one]; exact h)
  · rw [h]
    exact dropFrame_bad s X A n cap g _ i hn hX w hr hE s.einvalid 1 (by rw [frmC_one]; exact h) rfl .einvalid
  · rw [h]
    exact dropFrame_bad s X A n cap g _ i hn hX w hr hE s.erange 2 (by rw [frmC_one]; exact h) rfl .erange
theorem specDrop_any (X : Int) (A : Option Addr) (n cap : Nat) (g : Nat → Nat → Int) (i : Int) (hn : n ≤ 1048576) (hcap : n ≤ cap) (hX : -128 ≤ X ∧ X ≤ 127) (hs : ∀ i, i < n → S16 (g i)) (w : World) (hr : PrsIn w A n g) :
    Calls Tryd.prog 13 #[.agg #[.int .i8 X, .slice A n cap], .int .i64 i] w (DrpOut w.heap.size X n g i w) := by
  unfold DrpOut
  rcases askC_cases X n g i with ⟨h, _, h1, h2⟩ | h | h
  · obtain ⟨j, rfl⟩ : ∃ j : Nat, i = j := ⟨i.toNat, by omega⟩
    rw [h]
    exact specDrop_ok X A n cap g j hn hcap hX hs (by omega) h w hr
  · rw [h]
    exact specDrop_bad X A n cap g i hn hX hs 1 h (.inl rfl) _ w hr
  · rw [h]
    exact specDrop_bad X A n cap g i hn hX hs 2 h (.inr rfl) _ w hr

set_option maxRecDepth 100000 in
set_option maxHeartbeats 4000000 in
theorem DropFrame_any (s : Ers) (X : Int) (A : Option Addr) (n cap : Nat) (g : Nat → Nat → Int) (i : Int) (hn : n ≤ 1048576) (hcap : n ≤ cap) (hX : -128 ≤ X ∧ X ≤ 127) (w : World) (hr : PrsIn w A n g) (hE : ErrEnv s w) :
    Calls Tryd.prog 14 #[.agg #[.int .i8 X, .slice A n cap], .int .i64 i] w (DrpOut w.heap.size X n g i w) := by
  have k0 := ((Below.refl w.heap.size w).alloc (Nat.le_refl _) (.cells #[.int .i8 X, .slice A n cap] 29)).alloc (by simp) (.cells #[.int .i8 0, .slice none 0 0] 29)
  have r0 : ((w.alloc (.cells #[.int .i8 X, .slice A n cap] 29)).alloc (.cells #[.int .i8 0, .slice none 0 0] 29)).cell? ⟨w.heap.size + 1, 0, none⟩ = some (.int .i8 0) := by simp
  have r1 : ((w.alloc (.cells #[.int .i8 X, .slice A n cap] 29)).alloc (.cells #[.int .i8 0, .slice none 0 0] 29)).cell? ⟨w.heap.size + 1, 1, none⟩ = some (.slice none 0 0) := by simp
  have f0 : ((w.alloc (.cells #[.int .i8 X, .slice A n cap] 29)).alloc (.cells #[.int .i8 0, .slice none 0 0] 29)).frozen? ⟨w.heap.size + 1, 0, none⟩ = false := by simp
  have f1 : ((w.alloc (.cells #[.int .i8 X, .slice A n cap] 29)).alloc (.cells #[.int .i8 0, .slice none 0 0] 29)).frozen? ⟨w.heap.size + 1, 1, none⟩ = false := by simp
  have hsz : w.heap.size + 1 < ((w.alloc (.cells #[.int .i8 X, .slice A n cap] 29)).alloc (.cells #[.int .i8 0, .slice none 0 0] 29)).heap.size := by simp
  have hq := dropFrame_any s X A n cap g i hn hcap hX _ (hr.below k0 (Nat.le_refl _)) (hE.below k0 (Nat.le_refl _))
  have HE := Lib.hid (hE.below k0 (Nat.le_refl _))
  unfold DrpOut
  generalize (if askC X n g i = 0 then X else 0) = RX at *
  generalize (if askC X n g i = 0 then n - 1 else 0) = RN at *
  generalize askC X n g i = C at *
  generalize drpF g i.toNat = G at *
  have Hq := Lib.hid hq; clear hq hr hE
  have G4 := Lib.hid (And.intro r0 (And.intro r1 (And.intro f0 (And.intro f1 hsz)))); clear r0 r1 f0 f1
  have d0 : ((w.alloc (.cells #[.int .i8 X, .slice A n cap] 29)).alloc (.cells #[.int .i8 0, .slice none 0 0] 29)).cell? ⟨w.heap.size, 0, none⟩ = some (.int .i8 X) := by simp
  have d1 : ((w.alloc (.cells #[.int .i8 X, .slice A n cap] 29)).alloc (.cells #[.int .i8 0, .slice none 0 0] 29)).cell? ⟨w.heap.size, 1, none⟩ = some (.slice A n cap) := by simp
  go_enter Tryd.func14, Tryd.ntmps14
  go_wp2_with fail
  generalize ((w.alloc (.cells #[.int .i8 X, .slice A n cap] 29)).alloc (.cells #[.int .i8 0, .slice none 0 0] 29)) = W0 at *
  refine Hq.out.mono ?_; rintro e w1 ⟨A1, c1, v1, rfl, hI, hM, hb1⟩
  have R1 := Lib.hid hb1
  clear hb1 Hq d0 d1
  go_wp2_with fail
  refine (codedSheet_any RX A1 RN c1 hI _ (HE.out.below R1.out (Nat.le_refl _))).mono ?_; rintro e w2 ⟨rfl, hb2⟩
  have R2 := R1.out.trans (hb2.mono R1.out.size)
  have hM2 := hM.below hb2 (Nat.le_refl _)
  have s0 := below_cellOf R2 G4.out.1 (Nat.le_refl _)
  have s1 := below_cellOf R2 G4.out.2.1 (Nat.le_refl _)
  have u0 := (R2.frozen (p := ⟨w.heap.size + 1, 0, none⟩) G4.out.2.2.2.2).trans G4.out.2.2.1
  have u1 := (R2.frozen (p := ⟨w.heap.size + 1, 1, none⟩) G4.out.2.2.2.2).trans G4.out.2.2.2.1
  have KE := Lib.hid (k0.trans (R2.mono k0.size))
  have hz1 := hb2.size
  clear R2 hb2 hM
  go_wp2_with fail
  refine bodyPost_ret (v := .tuple #[.agg #[.int .i8 RX, .slice A1 RN c1], .int .i64 C]) (by simp [results, Tryd.results14, go_sem, s0, s1]) rfl ⟨_, rfl, ?_, ?_⟩
  · refine (hM2.keep (fun b h1 h2 h3 => ?_)).mono (by omega) (by simpa [World.setCell] using hz1)
    rw [Below.heap_setCell _ _ _ _ (by show b ≠ w.heap.size + 1; omega), Below.heap_setCell _ _ _ _ (by show b ≠ w.heap.size + 1; omega)]
  · exact (KE.out.setCell (by show _ ≤ w.heap.size + 1; omega) _).setCell (by show _ ≤ w.heap.size + 1; omega) _
end Go.Proofs.YtkmpfbjenddhjaaDoor

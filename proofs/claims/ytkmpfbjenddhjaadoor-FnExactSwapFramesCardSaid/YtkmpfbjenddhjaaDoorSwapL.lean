/-
  Two frames exchanged: what both sides hand back. Condition of the program's: its variables hold their own errors; at most 1048576 frames of int16 numbers.
-/
import Derived.Test.YtkmpfbjenddhjaaDoorSwapK
namespace Go.Proofs.YtkmpfbjenddhjaaDoor
open Go.RowKit

/-- What exchanging hands back. -/
def SwpOut (L : Nat) (X : Int) (n : Nat) (g : Nat → Nat → Int) (i k : Int) (w : World) (e : Ending) (w' : World) : Prop :=
  ShtOut L (if swpC X n g i k = 0 then X else 0) (if swpC X n g i k = 0 then n else 0) (swpF g i.toNat k.toNat) (swpC X n g i k) w e w'
theorem two_nat {n : Nat} {i k : Int} (ha : ∀ j, j < 2 → inB (two i k j) 0 ((n : Int) - 1) = true) : ∃ i' k' : Nat, i = i' ∧ k = k' ∧ i' < n ∧ k' < n := by
  have h1 := inB_true.1 (ha 0 (by omega))
  have h2 := inB_true.1 (ha 1 (by omega))
  simp only [two, if_true] at h1
  rw [show two i k 1 = k from rfl] at h2
  exact ⟨i.toNat, k.toNat, by omega, by omega, by omega, by omega⟩
theorem swapFrames_any (s : Ers) (X : Int) (A : Option Addr) (n cap : Nat) (g : Nat → Nat → Int) (i k : Int) (hn : n ≤ 1048576) (hX : -128 ≤ X ∧ X ≤ 127) (w : World) (hr : PrsIn w A n g) (hE : ErrEnv s w) :
    Calls Tryd.prog 32 #[.agg #[.int .i8 X, .slice A n cap], .int .i64 i, .int .i64 k] w (ShtErr s w.heap.size (if swpC X n g i k = 0 then X else 0) (if swpC X n g i k = 0 then n else 0) (swpF g i.toNat k.toNat) (swpC X n g i k) w) := by
  rcases frmC_cases X n 2 g (two i k) with ⟨h, _, ha⟩ | h | h
  · obtain ⟨i', k', rfl, rfl, hi, hk⟩ := two_nat ha
    rw [(frmC_two X n g i' k').symm.trans h]
    exact swapFrames_ok s X A n cap g i' k' hn hX w hr hE hi hk h
  · rw [(frmC_two X n g i k).symm.trans h]
    exact swapFrames_bad s X A n cap g _ i k hn hX w hr hE s.einvalid 1 h rfl .einvalid
  · rw [(frmC_two X n g i k).symm.trans h]
    exact swapFrames_bad s X A n cap g _ i k hn hX w hr hE s.erange 2 h rfl .erange
theorem specSwap_any (X : Int) (A : Option Addr) (n cap : Nat) (g : Nat → Nat → Int) (i k : Int) (hn : n ≤ 1048576) (hX : -128 ≤ X ∧ X ≤ 127) (hs : ∀ i, i < n → S16 (g i)) (w : World) (hr : PrsIn w A n g) :
    Calls Tryd.prog 7 #[.agg #[.int .i8 X, .slice A n cap], .int .i64 i, .int .i64 k] w (SwpOut w.heap.size X n g i k w) := by
  unfold SwpOut
  rcases frmC_cases X n 2 g (two i k) with ⟨h, hv, ha⟩ | h | h
  · have h3 := ha 0 (by omega)
    have h4 := ha 1 (by omega)
    obtain ⟨i', k', rfl, rfl, hi, hk⟩ := two_nat ha
    rw [(frmC_two X n g i' k').symm.trans h]
    exact specSwap_ok X A n cap g i' k' hn hX hs hi hk (askC_ok hv h3) (askC_ok hv h4) w hr
  · have h2 := (frmC_two X n g i k).symm.trans h
    rw [h2]
    exact (specSwap_bad X A n cap g i k hn hX hs 1 h2 (.inl rfl) w hr).mono fun e w' ⟨v, he, hm, hb⟩ => ⟨v, he, by obtain ⟨A', c', hv, _⟩ := hm; exact ⟨A', c', hv, .inl rfl⟩, hb⟩
  · have h2 := (frmC_two X n g i k).symm.trans h
    rw [h2]
    exact (specSwap_bad X A n cap g i k hn hX hs 2 h2 (.inr rfl) w hr).mono fun e w' ⟨v, he, hm, hb⟩ => ⟨v, he, by obtain ⟨A', c', hv, _⟩ := hm; exact ⟨A', c', hv, .inl rfl⟩, hb⟩

set_option maxRecDepth 100000 in
set_option maxHeartbeats 4000000 in
theorem SwapFrames_any (s : Ers) (X : Int) (A : Option Addr) (n cap : Nat) (g : Nat → Nat → Int) (i k : Int) (hn : n ≤ 1048576) (hX : -128 ≤ X ∧ X ≤ 127) (w : World) (hr : PrsIn w A n g) (hE : ErrEnv s w) :
    Calls Tryd.prog 9 #[.agg #[.int .i8 X, .slice A n cap], .int .i64 i, .int .i64 k] w (SwpOut w.heap.size X n g i k w) := by
  have k0 := ((Below.refl w.heap.size w).alloc (Nat.le_refl _) (.cells #[.int .i8 X, .slice A n cap] 29)).alloc (by simp) (.cells #[.int .i8 0, .slice none 0 0] 29)
  have r0 : ((w.alloc (.cells #[.int .i8 X, .slice A n cap] 29)).alloc (.cells #[.int .i8 0, .slice none 0 0] 29)).cell? ⟨w.heap.size + 1, 0, none⟩ = some (.int .i8 0) := by simp
  have r1 : ((w.alloc (.cells #[.int .i8 X, .slice A n cap] 29)).alloc (.cells #[.int .i8 0, .slice none 0 0] 29)).cell? ⟨w.heap.size + 1, 1, none⟩ = some (.slice none 0 0) := by simp
  have f0 : ((w.alloc (.cells #[.int .i8 X, .slice A n cap] 29)).alloc (.cells #[.int .i8 0, .slice none 0 0] 29)).frozen? ⟨w.heap.size + 1, 0, none⟩ = false := by simp
  have f1 : ((w.alloc (.cells #[.int .i8 X, .slice A n cap] 29)).alloc (.cells #[.int .i8 0, .slice none 0 0] 29)).frozen? ⟨w.heap.size + 1, 1, none⟩ = false := by simp
  have hsz : w.heap.size + 1 < ((w.alloc (.cells #[.int .i8 X, .slice A n cap] 29)).alloc (.cells #[.int .i8 0, .slice none 0 0] 29)).heap.size := by simp
  have hq := swapFrames_any s X A n cap g i k hn hX _ (hr.below k0 (Nat.le_refl _)) (hE.below k0 (Nat.le_refl _))
  have HE := Lib.hid (hE.below k0 (Nat.le_refl _))
  unfold SwpOut
  generalize (if swpC X n g i k = 0 then X else 0) = RX at *
  generalize (if swpC X n g i k = 0 then n else 0) = RN at *
  generalize swpC X n g i k = C at *
  generalize swpF g i.toNat k.toNat = G at *
  have Hq := Lib.hid hq; clear hq hr hE
  have G4 := Lib.hid (And.intro r0 (And.intro r1 (And.intro f0 (And.intro f1 hsz)))); clear r0 r1 f0 f1
  have d0 : ((w.alloc (.cells #[.int .i8 X, .slice A n cap] 29)).alloc (.cells #[.int .i8 0, .slice none 0 0] 29)).cell? ⟨w.heap.size, 0, none⟩ = some (.int .i8 X) := by simp
  have d1 : ((w.alloc (.cells #[.int .i8 X, .slice A n cap] 29)).alloc (.cells #[.int .i8 0, .slice none 0 0] 29)).cell? ⟨w.heap.size, 1, none⟩ = some (.slice A n cap) := by simp
  go_enter Tryd.func9, Tryd.ntmps9
  go_wp2_with fail
  generalize ((w.alloc (.cells #[.int .i8 X, .slice A n cap] 29)).alloc (.cells #[.int .i8 0, .slice none 0 0] 29)) = W0 at *
  refine Hq.out.mono ?_; rintro e w1 ⟨A1, c1, v1, rfl, hI, hM, hb1⟩
  have R1 := Lib.hid hb1
  clear hb1 Hq d0 d1
  go_wp2_with fail
  refine (codedSheet_any RX A1 RN c1 hI _ (HE.out.below R1.out (Nat.le_refl _))).mono ?_; rintro e w2 ⟨rfl, hb2⟩
  have R2 := R1.out.trans (hb2.mono R1.out.size)
  have hM2 := hM.below hb2 (Nat.le_refl _)
  have s0 := below_cellOf R2 G4.out.1 (Nat.le_refl _)
  have s1 := below_cellOf R2 G4.out.2.1 (Nat.le_refl _)
  have u0 := (R2.frozen (p := ⟨w.heap.size + 1, 0, none⟩) G4.out.2.2.2.2).trans G4.out.2.2.1
  have u1 := (R2.frozen (p := ⟨w.heap.size + 1, 1, none⟩) G4.out.2.2.2.2).trans G4.out.2.2.2.1
  have KE := Lib.hid (k0.trans (R2.mono k0.size))
  have hz1 := hb2.size
  clear R2 hb2 hM
  go_wp2_with fail
  refine bodyPost_ret (v := .tuple #[.agg #[.int .i8 RX, .slice A1 RN c1], .int .i64 C]) (by simp [results, Tryd.results9, go_sem, s0, s1]) rfl ⟨_, rfl, ?_, ?_⟩
  · refine (hM2.keep (fun b h1 h2 h3 => ?_)).mono (by omega) (by simpa [World.setCell] using hz1)
    rw [Below.heap_setCell _ _ _ _ (by show b ≠ w.heap.size + 1; omega), Below.heap_setCell _ _ _ _ (by show b ≠ w.heap.size + 1; omega)]
  · exact (KE.out.setCell (by show _ ≤ w.heap.size + 1; omega) _).setCell (by show _ ≤ w.heap.size + 1; omega) _
end Go.Proofs.YtkmpfbjenddhjaaDoor

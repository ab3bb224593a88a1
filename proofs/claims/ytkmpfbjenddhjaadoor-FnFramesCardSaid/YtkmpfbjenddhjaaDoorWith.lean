/-
  A sheet with other frames, by the reference. Condition: at most 1048576 frames.
-/
import Derived.Test.YtkmpfbjenddhjaaDoorPrL
namespace Go.Proofs.YtkmpfbjenddhjaaDoor
open Go.RowKit

set_option maxRecDepth 100000 in
set_option maxHeartbeats 4000000 in
theorem l07With_any (b : Nat) (X : Int) (b' o' n c : Nat) (g : Nat → Nat → Int) (hn : n ≤ 1048576) (w : World) (c0 : w.cell? ⟨b, 0, none⟩ = some (.int .i8 X)) (hx : PrsAt w b' o' n g) (hb' : b' < w.heap.size) :
    Calls Tryd.prog 29 #[.pointer (some ⟨b, 0, none⟩), .slice (some ⟨b', o', none⟩) n c] w fun e w' => ∃ q cap, e = .returned (.agg #[.int .i8 X, .slice (some ⟨q, 0, none⟩) n cap]) ∧ w.heap.size ≤ q ∧ PrRow w' q n g ∧ Below w.heap.size w w' := by
  have hb := World.block_lt_of_cell? w _ c0
  simp only at hb
  have k0 := (Below.refl w.heap.size w).alloc (Nat.le_refl _) (.cells #[.int .i8 0, .slice none 0 0] 29)
  have hx1 := hx.below k0 hb'
  have c1 := below_cellOf k0 c0 (Nat.le_refl _)
  have o0 : ((w.alloc (.cells #[.int .i8 0, .slice none 0 0] 29)).alloc (.cells #[] 58)).ownsRow (w.heap.size + 1) 58 64 (.slice (some ⟨w.heap.size + 1, 0, none⟩) 0 0) 0 (prL g 0) := by
    have h := World.ownsRow_lit (base := w.heap.size + 1) (e := 58) (size := 64) (w.alloc (.cells #[.int .i8 0, .slice none 0 0] 29)) #[] 0 (by simp) (Nat.zero_le _) rfl
    simpa [prL_nil] using h
  have x0 := hx1.below ((Below.refl _ _).alloc (Nat.le_refl _) (.cells #[] 58)) (show b' < (w.alloc (.cells #[.int .i8 0, .slice none 0 0] 29)).heap.size by simp; omega)
  have hv0 : (Value.slice (some ⟨w.heap.size + 1, 0, none⟩) 0 0) ≠ .slice none 0 0 := by simp
  have hn0 : 0 + n ≤ 2097152 := by omega
  have hL0 : w.heap.size + 1 ≤ ((w.alloc (.cells #[.int .i8 0, .slice none 0 0] 29)).alloc (.cells #[] 58)).drew.heap.size := by
    show w.heap.size + 1 ≤ ((w.alloc (.cells #[.int .i8 0, .slice none 0 0] 29)).alloc (.cells #[] 58)).heap.size
    simp
  have O0 := Lib.hid o0; have X0 := Lib.hid x0; have V0 := Lib.hid hv0; have N0 := Lib.hid hn0; have L0 := Lib.hid hL0
  clear o0 x0 hv0 hn0 hL0
  have hbn : ¬ w.heap.size = b := by omega
  have hbn' : ¬ b = w.heap.size := by omega
  go_enter Tryd.func29, Tryd.ntmps29
  go_wp2_with fail
  go_region_held3 (fun w' => w'.cell? ⟨b, 0, none⟩ = some (.int .i8 X)) (first | go_keep | (have hK : w5.cell? ⟨b, 0, none⟩ = some (.int .i8 X) := (by assumption); simp [hbn, hbn', hK]; done) | (rw [hgr.cell_far _ (by simp; omega) (by simp [Value.ownBlock]; omega)]; assumption))
    (go_loud (refine step_append_prs (by rfl) _ _ (by rfl) Tryd.underlying27 (by rfl) O0.out.drew (.inl V0.out) (by rfl) (show PrsAt (World.drew _) b' o' n g from X0.out) N0.out L0.out ?_; intro gg cq w5 hown hbl hgr; have r0 : w5.cell? ⟨w.heap.size, 0, none⟩ = some (.int .i8 0) := (by rw [hgr.cell_far _ (by simp; omega) (by simp [Value.ownBlock])]; simp); have r1 : w5.cell? ⟨w.heap.size, 1, none⟩ = some (.slice none 0 0) := (by rw [hgr.cell_far _ (by simp; omega) (by simp [Value.ownBlock])]; simp); have f0 : w5.frozen? ⟨w.heap.size, 0, none⟩ = false := (by rw [hgr.frozen_far _ (by simp; omega) (by simp [Value.ownBlock])]; simp); have f1 : w5.frozen? ⟨w.heap.size, 1, none⟩ = false := (by rw [hgr.frozen_far _ (by simp; omega) (by simp [Value.ownBlock])]; simp)))
  have hrow : PrRow w5 gg n g := by
    have h := (own_row hown).2
    have e : appF g g 0 = g := by funext i; simp [appF]
    rw [e] at h
    simpa using h
  have hL := (own_row hown).1
  have hB5 : Below w.heap.size w w5 := Below.trans (by (repeat (first | exact Below.refl _ _ | assumption | apply Below.drew | apply below_drewL | apply below_drewP | (refine Below.alloc ?_ (by first | omega | (simp; done) | (simp; omega)) _) | (refine Below.setCell ?_ (by first | omega | (simp; done) | (simp; omega)) _)))) (hbl.mono (by omega))
  have hgg : gg ≠ w.heap.size := by omega
  go_wp2_with fail
  refine bodyPost_ret (v := .agg #[.int .i8 X, .slice (some ⟨gg, 0, none⟩) n cq]) (by simp [results, Tryd.results29, go_sem, r0, r1]) rfl ⟨_, _, rfl, by omega, ?_, ?_⟩
  · exact (hrow.other (by show _ ≠ w.heap.size; exact hgg) _).other (by show _ ≠ w.heap.size; exact hgg) _
  · exact (hB5.setCell (by show _ ≤ w.heap.size; omega) _).setCell (by show _ ≤ w.heap.size; omega) _
end Go.Proofs.YtkmpfbjenddhjaaDoor

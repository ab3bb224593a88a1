/-
  The steepest part of a curve, by the program. Condition: its variables hold their own errors; at most 1048576 points.
-/
import Derived.Test.YtnlcjbobfhmnmabDoorSteepS
import Derived.Test.YtnlcjbobfhmnmabDoorAt
import Derived.BigRegionIn
namespace Go.Proofs.YtnlcjbobfhmnmabDoor
open Go.RowKit Go.Shelf
attribute [local go_sem] Oper.semAt_some

set_option maxRecDepth 100000 in
set_option maxHeartbeats 1000000 in
theorem steeper_any (x0 y0 x1 y1 u0 v0 u1 v1 P1 P2 : Int) (hx0 : -200 ≤ x0 ∧ x0 ≤ 200) (hy0 : 0 ≤ y0 ∧ y0 ≤ 400) (hx1 : -200 ≤ x1 ∧ x1 ≤ 200) (hy1 : 0 ≤ y1 ∧ y1 ≤ 400) (hu0 : -200 ≤ u0 ∧ u0 ≤ 200) (hv0 : 0 ≤ v0 ∧ v0 ≤ 400) (hu1 : -200 ≤ u1 ∧ u1 ≤ 200) (hv1 : 0 ≤ v1 ∧ v1 ≤ 400)
    (h1 : (y1 - y0) * (u1 - u0) = P1) (h2 : (v1 - v0) * (x1 - x0) = P2) (hb1 : -440000000 ≤ P1 ∧ P1 ≤ 440000000) (hb2 : -440000000 ≤ P2 ∧ P2 ≤ 440000000) (w : World) :
    Calls Tryd.prog 18 #[partV x0 y0 x1 y1, partV u0 v0 u1 v1] w fun e w' => e = .returned (.bool (decide (P2 < P1))) ∧ Below w.heap.size w w' := by
  have hr1 := partRun_any x0 y0 x1 y1 (by omega) (by omega)
  have hr2 := partRise_any x0 y0 x1 y1 (by omega) (by omega)
  have hq1 := partRun_any u0 v0 u1 v1 (by omega) (by omega)
  have hq2 := partRise_any u0 v0 u1 v1 (by omega) (by omega)
  unfold partV at *
  have Hr1 := Lib.hid hr1; clear hr1
  have Hr2 := Lib.hid hr2; clear hr2
  have Hq1 := Lib.hid hq1; clear hq1
  have Hq2 := Lib.hid hq2; clear hq2
  have e1 : IntKind.i64.wrap P1 = P1 := IntWalk.i64_in _ (by omega)
  have e2 : IntKind.i64.wrap P2 = P2 := IntWalk.i64_in _ (by omega)
  go_enter Tryd.func18, Tryd.ntmps18
  go_wp2
  generalize hW : (w.alloc (.cells #[.int .i16 x0, .int .i16 y0, .int .i16 x1, .int .i16 y1] 47)).alloc (.cells #[.int .i16 u0, .int .i16 v0, .int .i16 u1, .int .i16 v1] 47) = W
  have c0 : W.cell? ⟨w.heap.size, 0, none⟩ = some (.int .i16 x0) := by rw [← hW]; simp
  have c1 : W.cell? ⟨w.heap.size, 1, none⟩ = some (.int .i16 y0) := by rw [← hW]; simp
  have c2 : W.cell? ⟨w.heap.size, 2, none⟩ = some (.int .i16 x1) := by rw [← hW]; simp
  have c3 : W.cell? ⟨w.heap.size, 3, none⟩ = some (.int .i16 y1) := by rw [← hW]; simp
  have d0 : W.cell? ⟨w.heap.size + 1, 0, none⟩ = some (.int .i16 u0) := by rw [← hW]; simp
  have d1 : W.cell? ⟨w.heap.size + 1, 1, none⟩ = some (.int .i16 v0) := by rw [← hW]; simp
  have d2 : W.cell? ⟨w.heap.size + 1, 2, none⟩ = some (.int .i16 u1) := by rw [← hW]; simp
  have d3 : W.cell? ⟨w.heap.size + 1, 3, none⟩ = some (.int .i16 v1) := by rw [← hW]; simp
  have hB : Below w.heap.size w W := by rw [← hW]; exact ((Below.refl _ _).alloc (Nat.le_refl _) _).alloc (by simp) _
  clear hW
  refine wp_region_quietD (Below W.heap.size W) (by kernel_rfl) (by kernel_rfl) (below_drew1 _) ?_
  have n0 := below_nonempty W
  have f0 := inCell c0
  have f1 := inCell c1
  have f2 := inCell c2
  have f3 := inCell c3
  have g0 := inCell d0
  have g1 := inCell d1
  have g2 := inCell d2
  have g3 := inCell d3
  repeat (go_big_quiet_step (first | (go_at_call 20; first | (with_reducible exact inCall _ (Hr2.out _)) | (with_reducible exact inCall _ (Hq2.out _))) | (go_at_call 21; first | (with_reducible exact inCall _ (Hr1.out _)) | (with_reducible exact inCall _ (Hq1.out _)))))
  refine wpQuiet_nil ?_
  rintro _ ⟨y, rfl⟩
  go_wp2
  go_ret
  exact ⟨rfl, hB.trans (y.ok.mono hB.size)⟩
end Go.Proofs.YtnlcjbobfhmnmabDoor

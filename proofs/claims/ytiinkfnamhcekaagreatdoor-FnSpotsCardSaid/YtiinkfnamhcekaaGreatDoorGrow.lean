/-
  A mask with all neighbours, by the program: what its functions return. Of whatever mask; no condition.
-/
import Derived.Test.YtiinkfnamhcekaaGreatDoorBv
import Derived.Deep.WholeRow
namespace Go.Proofs.YtiinkfnamhcekaaGreatDoor
open Go.RowKit

/-- The four ways to move a mask. -/
def sidesV : Array Value := #[.func (.func 60) #[] #[], .func (.func 61) #[] #[], .func (.func 62) #[] #[], .func (.func 63) #[] #[]]
theorem sizeSides : (Tryz.prog.info? 81).map (·.size) = some 4 := by kernel_rfl

theorem side0 (W : World) : (Instr.index 81 (.agg sidesV) (.int .i64 0)).run Tryz.prog W = .ok (.func (.func 60) #[] #[]) W := by kernel_rfl
theorem side1 (W : World) : (Instr.index 81 (.agg sidesV) (.int .i64 1)).run Tryz.prog W = .ok (.func (.func 61) #[] #[]) W := by kernel_rfl
theorem side2 (W : World) : (Instr.index 81 (.agg sidesV) (.int .i64 2)).run Tryz.prog W = .ok (.func (.func 62) #[] #[]) W := by kernel_rfl
theorem side3 (W : World) : (Instr.index 81 (.agg sidesV) (.int .i64 3)).run Tryz.prog W = .ok (.func (.func 63) #[] #[]) W := by kernel_rfl

set_option maxHeartbeats 1000000 in
theorem sides_any (w : World) :
    Calls Tryz.prog 48 #[] w fun e w' => e = .returned (.agg sidesV) ∧ Below w.heap.size w w' := by
  have a0 : (w.alloc (.cells #[.nilFunc, .nilFunc, .nilFunc, .nilFunc] 81)).heap[w.heap.size]? = some (.cells #[.nilFunc, .nilFunc, .nilFunc, .nilFunc] 81 (0, 0)) := heap_alloc_last w _
  have k0 : Below w.heap.size w ((w.alloc (.cells #[.nilFunc, .nilFunc, .nilFunc, .nilFunc] 81)).setRow w.heap.size sidesV) :=
    ((Below.refl w.heap.size w).alloc (Nat.le_refl _) _).trans ⟨rfl, rfl, rfl, by simp, fun k hk => setRow_other _ _ k _ (by omega)⟩
  have a1 := setRow_heap _ _ _ sidesV _ _ a0
  have h1 : sidesV.all (·.oneCell') = true := by simp [sidesV, Value.oneCell']
  have h2 : (Tryz.prog.info? 81).map (·.size) = some sidesV.size := sizeSides
  go_enter Tryz.func48, Tryz.ntmps48
  go_wp2_with (refine wpList_store_row rfl _ _ _ rfl w.heap.size sidesV rfl rfl _ _ a0 h2 rfl h1 ?_)
  refine bodyPost_ret (v := .agg sidesV) ?_ rfl ⟨rfl, k0⟩
  exact results_cell_row rfl _ _ _ _ _ _ _ rfl a1 Tryz.underlying81 rfl sizeSides

set_option maxHeartbeats 2000000 in
theorem grown_any (m : BitVec 64) (w : World) :
    Calls Tryz.prog 27 #[.int .u64 (bvI m)] w fun e w' => e = .returned (.int .u64 (bvI (growB m))) ∧ Below w.heap.size w w' := by
  unfold growB
  have hs := Lib.hid (sides_any w)
  go_enter Tryz.func27, Tryz.ntmps27
  go_wp2_with fail
  refine hs.out.mono ?_; rintro e w1 ⟨rfl, k1⟩
  clear hs
  have i0 := side0
  have i1 := side1
  have i2 := side2
  have i3 := side3
  generalize sidesV = V at *
  go_wp2_with fail
  refine wp_loop_rounds 5 ?_
  rw [rounds_succ]
  go_wp2_with (first | (go_at_call 60; refine (northward_any _ _).mono ?_; rintro e w' ⟨rfl, rfl⟩) | (go_at_call 61; refine (westward_any _ _).mono ?_; rintro e w' ⟨rfl, rfl⟩) | (go_at_call 62; refine (eastward_any _ _).mono ?_; rintro e w' ⟨rfl, rfl⟩) | (go_at_call 63; refine (southward_any _ _).mono ?_; rintro e w' ⟨rfl, rfl⟩) | (refine wpList_yield rfl (run_or_bv rfl rfl rfl) ?_))
  rw [rounds_succ]
  go_wp2_with (first | (go_at_call 60; refine (northward_any _ _).mono ?_; rintro e w' ⟨rfl, rfl⟩) | (go_at_call 61; refine (westward_any _ _).mono ?_; rintro e w' ⟨rfl, rfl⟩) | (go_at_call 62; refine (eastward_any _ _).mono ?_; rintro e w' ⟨rfl, rfl⟩) | (go_at_call 63; refine (southward_any _ _).mono ?_; rintro e w' ⟨rfl, rfl⟩) | (refine wpList_yield rfl (run_or_bv rfl rfl rfl) ?_))
  rw [rounds_succ]
  go_wp2_with (first | (go_at_call 60; refine (northward_any _ _).mono ?_; rintro e w' ⟨rfl, rfl⟩) | (go_at_call 61; refine (westward_any _ _).mono ?_; rintro e w' ⟨rfl, rfl⟩) | (go_at_call 62; refine (eastward_any _ _).mono ?_; rintro e w' ⟨rfl, rfl⟩) | (go_at_call 63; refine (southward_any _ _).mono ?_; rintro e w' ⟨rfl, rfl⟩) | (refine wpList_yield rfl (run_or_bv rfl rfl rfl) ?_))
  rw [rounds_succ]
  go_wp2_with (first | (go_at_call 60; refine (northward_any _ _).mono ?_; rintro e w' ⟨rfl, rfl⟩) | (go_at_call 61; refine (westward_any _ _).mono ?_; rintro e w' ⟨rfl, rfl⟩) | (go_at_call 62; refine (eastward_any _ _).mono ?_; rintro e w' ⟨rfl, rfl⟩) | (go_at_call 63; refine (southward_any _ _).mono ?_; rintro e w' ⟨rfl, rfl⟩) | (refine wpList_yield rfl (run_or_bv rfl rfl rfl) ?_))
  rw [rounds_succ]
  go_wp2_with (first | (go_at_call 60; refine (northward_any _ _).mono ?_; rintro e w' ⟨rfl, rfl⟩) | (go_at_call 61; refine (westward_any _ _).mono ?_; rintro e w' ⟨rfl, rfl⟩) | (go_at_call 62; refine (eastward_any _ _).mono ?_; rintro e w' ⟨rfl, rfl⟩) | (go_at_call 63; refine (southward_any _ _).mono ?_; rintro e w' ⟨rfl, rfl⟩) | (refine wpList_yield rfl (run_or_bv rfl rfl rfl) ?_))
  go_ret
  exact ⟨rfl, k1⟩

theorem GrowMask_any (m : BitVec 64) (w : World) :
    Calls Tryz.prog 11 #[.int .u64 (bvI m)] w fun e w' => e = .returned (.int .u64 (bvI (growB m))) ∧ Below w.heap.size w w' := by
  have hg := Lib.hid (grown_any m w)
  go_enter Tryz.func11, Tryz.ntmps11
  go_wp2_with (go_at_call 27; refine hg.out.mono ?_; rintro e w1 ⟨rfl, k1⟩)
  go_ret
  exact ⟨rfl, k1⟩
end Go.Proofs.YtiinkfnamhcekaaGreatDoor

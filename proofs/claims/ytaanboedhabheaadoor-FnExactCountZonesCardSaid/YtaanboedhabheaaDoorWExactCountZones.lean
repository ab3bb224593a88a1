/-
  The walk of the law FnExactCountZones: it returns true for every argument. Condition: the listed variables hold what the row lists.
-/
import Derived.Test.YtaanboedhabheaaDoorOpenA
import Derived.Test.YtaanboedhabheaaDoorCnz
import Derived.Test.YtaanboedhabheaaDoorPhaseG
import Derived.Test.YtaanboedhabheaaDoorEnv
namespace Go.Proofs.YtaanboedhabheaaDoor
open Go.RowKit

set_option maxRecDepth 100000 in
set_option maxHeartbeats 4000000 in
theorem walk_FnExactCountZones (f : Nat → Int) (r z : Int) (hr : -128 ≤ r) (hr' : r ≤ 127) (hz : -128 ≤ z) (hz' : z ≤ 127) (w : World) (hL : laidMetH Tryd.prog Rows.fnExactCountZonesRow.laid w) (hf : S8 f) :
    Calls Tryd.prog 8 #[.agg (arrV .i8 24 f), plcV r z] w fun e w' => e = .returned (.bool true) ∧ Below w.heap.size w w' := by
  obtain ⟨s, hE⟩ := errEnv_of_row hL (by kernel_rfl) (by kernel_rfl)
  have hsp := fun W => specCountZones_any f hf r z hr hr' hz hz' W
  have him := fun W h => CountZones_any s f hf r z hr hr' hz hz' W h
  generalize czV f r z = V0 at hsp him
  generalize ((cntF 32 (osL f r z) : Nat) : Int) = X1 at hsp him
  generalize ((cntF 32 (osH f r z) : Nat) : Int) = X2 at hsp him
  generalize bC f r z = C at hsp him
  have Hsp := Lib.hid hsp; clear hsp
  have Him := Lib.hid him; clear him
  have k0 : Below w.heap.size w ((w.alloc (.cells (arrV .i8 24 f) 23)).alloc (.cells #[.int .i8 r, .int .i8 z] 35)) := ((Below.refl _ _).alloc (Nat.le_refl _) _).alloc (by simp) _
  have a0 := (HasArr.new w 23 .i8 24 f).alloc (.cells #[.int .i8 r, .int .i8 z] 35)
  have q2 := new2P (w.alloc (.cells (arrV .i8 24 f) 23)) (g := w.heap.size + 1) (by simp) (.int .i8 r) (.int .i8 z) 35
  have p0 := q2.1
  have p1 := q2.2
  clear q2
  go_enter Tryd.func8, Tryd.ntmps8
  go_wp2_with fail
  generalize ((w.alloc (.cells (arrV .i8 24 f) 23)).alloc (.cells #[.int .i8 r, .int .i8 z] 35)) = W at *
  have HE := Lib.hid (hE.below k0 (Nat.le_refl _)); clear hE
  have K0 := Lib.hid k0; clear k0
  have A0 := Lib.hid a0; clear a0
  have Qp0 := Lib.hid p0; clear p0
  have Qp1 := Lib.hid p1; clear p1
  refine wp_region_phases 10 (clG W #[.int .i64 0, .int .i64 0, .int .i64 0, .int .i64 0, .int .i64 0, .int .i64 0, .int .i64 0, .int .i64 0, .int .i64 0, .int .i64 0, .int .i64 0] (arrV .i64 11 V0) 44) .p0 (by kernel_rfl) (by kernel_rfl) ⟨⟨_, below_drew1 _⟩, rfl⟩ ?_
  apply Exists.intro
  refine ⟨fun ph => ?_, ?_⟩
  · skip
    simp only [List.take_succ_cons, List.take_zero]
    have n0 := phG_nonempty W #[.int .i64 0, .int .i64 0, .int .i64 0, .int .i64 0, .int .i64 0, .int .i64 0, .int .i64 0, .int .i64 0, .int .i64 0, .int .i64 0, .int .i64 0] (arrV .i64 11 V0) 44 ph
    have fp0 := fun (x : WIn (phG W #[.int .i64 0, .int .i64 0, .int .i64 0, .int .i64 0, .int .i64 0, .int .i64 0, .int .i64 0, .int .i64 0, .int .i64 0, .int .i64 0, .int .i64 0] (arrV .i64 11 V0) 44 ph)) => inCellG Qp0.out x
    have fp1 := fun (x : WIn (phG W #[.int .i64 0, .int .i64 0, .int .i64 0, .int .i64 0, .int .i64 0, .int .i64 0, .int .i64 0, .int .i64 0, .int .i64 0, .int .i64 0, .int .i64 0] (arrV .i64 11 V0) 44 ph)) => inCellG Qp1.out x
    refine wpQuiet_load_arr (fun W2 hW => by obtain ⟨x, rfl⟩ := hW; exact A0.out.below x.ok.bel A0.out.lt) 23 (.tmp 2) rfl rfl rfl Tryd.underlying23 sizeA24 ?_
    go_frame
    quiet_step ((go_at_call 16; exact inCallG _ (toScene_any _ _)))
    first | quiet_step (fail) | go_big_quiet_step (fail)
    first | quiet_step ((go_at_call 23; exact inCallG _ (toPlacement_any _ _ _))) | go_big_quiet_step ((go_at_call 23; exact inCallG _ (toPlacement_any _ _ _)))
    first | quiet_step ((go_at_call 28; exact inCallG _ (Hsp.out _))) | go_big_quiet_step ((go_at_call 28; exact inCallG _ (Hsp.out _)))
    go_big_quiet_step (fail)
    refine wpQuiet_yield (.agg (arrV .i64 11 V0)) rfl (fun _ => rfl) ?_
    go_frame
    refine wpQuiet_yield (.int .i64 X1) rfl (fun _ => rfl) ?_
    go_frame
    refine wpQuiet_yield (.int .i64 X2) rfl (fun _ => rfl) ?_
    go_frame
    refine wpQuiet_yield (.int .i64 C) rfl (fun _ => rfl) ?_
    go_frame
    exact wpQuiet_nil rfl
  · skip
    simp only [List.drop_succ_cons, List.drop_zero]
    refine tail_G rfl (fun w' => ?rA) (fun q => rfl) (fun q w' hw' => ?rS) (fun k => ?_)
    case rA => first | rfl | kernel_rfl | (go_simp; done) | simp [go_sem]
    case rS => exact run_store_rowG _ _ _ rfl rfl rfl hw' (by rw [arrV_size]; exact sizeA11) (by rw [arrV_size]; rfl) (arrV_one _ _ _)
    refine tList_yield (.int .i64 X1) rfl (fun w' => ?rZ0) ?_
    case rZ0 => first | rfl | (go_simp; done) | simp [go_sem]
    refine tList_yield (.int .i64 X2) rfl (fun w' => ?rZ1) ?_
    case rZ1 => first | rfl | (go_simp; done) | simp [go_sem]
    refine tList_yield (.int .i64 C) rfl (fun w' => ?rZ2) ?_
    case rZ2 => first | rfl | (go_simp; done) | simp [go_sem]
    rintro _ ⟨y0, rfl⟩
    have Y0 := y0.ok
    generalize y0.w = W1 at *
    obtain ⟨ky0, X1⟩ := Y0
    simp [Act.put]
    have K1 := Lib.hid (K0.out.trans (ky0.mono K0.out.size))
    have HE1 := Lib.hid (HE.out.below ky0 (Nat.le_refl _))
    have A1 := Lib.hid (A0.out.below ky0 A0.out.lt)
    have Rp0 := Lib.hid (below_cellOf ky0 Qp0.out (Nat.le_refl _))
    have Rp1 := Lib.hid (below_cellOf ky0 Qp1.out (Nat.le_refl _))
    clear HE K0 A0 Qp0 Qp1 ky0
    have Y1 := Lib.hid X1; clear X1
    go_wp2_with fail
    refine wp_region_phases 10 (clG W1 #[.int .i64 0, .int .i64 0, .int .i64 0, .int .i64 0, .int .i64 0, .int .i64 0, .int .i64 0, .int .i64 0, .int .i64 0, .int .i64 0, .int .i64 0] (arrV .i64 11 V0) 44) .p0 (by kernel_rfl) (by kernel_rfl) ⟨⟨_, below_drew1 _⟩, rfl⟩ ?_
    apply Exists.intro
    refine ⟨fun ph => ?_, ?_⟩
    · skip
      simp only [List.take_succ_cons, List.take_zero]
      have n0 := phG_nonempty W1 #[.int .i64 0, .int .i64 0, .int .i64 0, .int .i64 0, .int .i64 0, .int .i64 0, .int .i64 0, .int .i64 0, .int .i64 0, .int .i64 0, .int .i64 0] (arrV .i64 11 V0) 44 ph
      have fp0 := fun (x : WIn (phG W1 #[.int .i64 0, .int .i64 0, .int .i64 0, .int .i64 0, .int .i64 0, .int .i64 0, .int .i64 0, .int .i64 0, .int .i64 0, .int .i64 0, .int .i64 0] (arrV .i64 11 V0) 44 ph)) => inCellG Rp0.out x
      have fp1 := fun (x : WIn (phG W1 #[.int .i64 0, .int .i64 0, .int .i64 0, .int .i64 0, .int .i64 0, .int .i64 0, .int .i64 0, .int .i64 0, .int .i64 0, .int .i64 0, .int .i64 0] (arrV .i64 11 V0) 44 ph)) => inCellG Rp1.out x
      have Hiy := Lib.hid (fun (x : WIn (phG W1 #[.int .i64 0, .int .i64 0, .int .i64 0, .int .i64 0, .int .i64 0, .int .i64 0, .int .i64 0, .int .i64 0, .int .i64 0, .int .i64 0, .int .i64 0] (arrV .i64 11 V0) 44 ph)) => Him.out x.w (HE1.out.below x.ok.bel (Nat.le_refl _)))
      refine wpQuiet_load_arr (fun W2 hW => by obtain ⟨x, rfl⟩ := hW; exact A1.out.below x.ok.bel A1.out.lt) 23 (.tmp 2) rfl rfl rfl Tryd.underlying23 sizeA24 ?_
      go_frame
      quiet_step ((go_at_call 16; exact inCallG _ (toScene_any _ _)))
      first | quiet_step (fail) | go_big_quiet_step (fail)
      first | quiet_step ((go_at_call 23; exact inCallG _ (toPlacement_any _ _ _))) | go_big_quiet_step ((go_at_call 23; exact inCallG _ (toPlacement_any _ _ _)))
      first | quiet_step ((go_at_call 29; exact inCallG _ (Hiy.out _))) | go_big_quiet_step ((go_at_call 29; exact inCallG _ (Hiy.out _)))
      go_big_quiet_step (fail)
      refine wpQuiet_yield (.agg (arrV .i64 11 V0)) rfl (fun _ => rfl) ?_
      go_frame
      refine wpQuiet_yield (.int .i64 X1) rfl (fun _ => rfl) ?_
      go_frame
      refine wpQuiet_yield (.int .i64 X2) rfl (fun _ => rfl) ?_
      go_frame
      refine wpQuiet_yield (.int .i64 C) rfl (fun _ => rfl) ?_
      go_frame
      exact wpQuiet_nil rfl
    · skip
      simp only [List.drop_succ_cons, List.drop_zero]
      refine tail_G rfl (fun w' => ?rA) (fun q => rfl) (fun q w' hw' => ?rS) (fun k => ?_)
      case rA => first | rfl | kernel_rfl | (go_simp; done) | simp [go_sem]
      case rS => exact run_store_rowG _ _ _ rfl rfl rfl hw' (by rw [arrV_size]; exact sizeA11) (by rw [arrV_size]; rfl) (arrV_one _ _ _)
      refine tList_yield (.int .i64 X1) rfl (fun w' => ?rZ0) ?_
      case rZ0 => first | rfl | (go_simp; done) | simp [go_sem]
      refine tList_yield (.int .i64 X2) rfl (fun w' => ?rZ1) ?_
      case rZ1 => first | rfl | (go_simp; done) | simp [go_sem]
      refine tList_yield (.int .i64 C) rfl (fun w' => ?rZ2) ?_
      case rZ2 => first | rfl | (go_simp; done) | simp [go_sem]
      rintro _ ⟨y1, rfl⟩
      have Y1 := y1.ok
      generalize y1.w = W2 at *
      obtain ⟨ky1, X2⟩ := Y1
      simp [Act.put]
      have Z1 := row_belowG Y1.out ky1 (Nat.le_refl _)
      have k2 := K1.out.trans (ky1.mono K1.out.size)
      have g1 : HasArr W2 _ 44 _ _ V0 := Z1
      have g2 : HasArr W2 _ 44 _ _ V0 := X2
      clear X2 Y1 Z1 ky1 A1
      go_wp2_with (first | (refine wpList_load_arr g2 _ _ rfl rfl rfl Tryd.underlying44 sizeA11 ?_) | (refine wpList_load_arr g1 _ _ rfl rfl rfl Tryd.underlying44 sizeA11 ?_))
      refine (eqInt64A11_same V0 _).mono ?_; rintro e w4 ⟨rfl, hb4⟩
      go_wp2_with fail
      go_ret
      exact ⟨rfl, k2.trans (hb4.mono k2.size)⟩
end Go.Proofs.YtaanboedhabheaaDoor

/-
  The walk of the law FnExactSettingFor: it returns true for every argument. Condition: the listed variables hold what the row lists.
-/
import Derived.Test.YtaanboedhabheaaDoorStf
import Derived.Test.YtaanboedhabheaaDoorPhaseG
import Derived.Test.YtaanboedhabheaaDoorWSets
import Derived.Test.YtaanboedhabheaaDoorEnv
namespace Go.Proofs.YtaanboedhabheaaDoor
open Go.RowKit

set_option maxRecDepth 100000 in
set_option maxHeartbeats 4000000 in
theorem walk_FnExactSettingFor (a b c : Int) (ha : -128 ≤ a) (ha' : a ≤ 127) (hb : -128 ≤ b) (hb' : b ≤ 127) (hc : -128 ≤ c) (hc' : c ≤ 127) (m : Int) (_hm : -9223372036854775808 ≤ m) (_hm' : m ≤ 9223372036854775807) (r z : Int) (hr : -128 ≤ r) (hr' : r ≤ 127) (hz : -128 ≤ z) (hz' : z ≤ 127) (w : World) (hL : laidMetH Tryd.prog Rows.fnExactSettingForRow.laid w) :
    Calls Tryd.prog 12 #[setV a b c, .int .i64 m, plcV r z] w fun e w' => e = .returned (.bool true) ∧ Below w.heap.size w w' := by
  obtain ⟨s, hE⟩ := errEnv_of_row hL (by kernel_rfl) (by kernel_rfl)
  have hsp := fun W => specSettingFor_any a b c m r z ha ha' hb hb' hc hc' hr hr' hz hz' W
  have him := fun W h => SettingFor_any s a b c m r z ha ha' hb hb' hc hc' hr hr' hz hz' W h
  obtain ⟨X0, Y0, Z0, hv⟩ := stV_set a b c m r z
  rw [hv] at hsp him
  generalize stC a b c m r z = C at hsp him
  have Hsp := Lib.hid hsp; clear hsp
  have Him := Lib.hid him; clear him
  have k0 : Below w.heap.size w ((w.alloc (.cells #[.int .i8 a, .int .i8 b, .int .i8 c] 56)).alloc (.cells #[.int .i8 r, .int .i8 z] 35)) := ((Below.refl _ _).alloc (Nat.le_refl _) _).alloc (by simp) _
  have s0 : ((w.alloc (.cells #[.int .i8 a, .int .i8 b, .int .i8 c] 56)).alloc (.cells #[.int .i8 r, .int .i8 z] 35)).cell? ⟨w.heap.size, 0, none⟩ = some (.int .i8 a) := by simp
  have s1 : ((w.alloc (.cells #[.int .i8 a, .int .i8 b, .int .i8 c] 56)).alloc (.cells #[.int .i8 r, .int .i8 z] 35)).cell? ⟨w.heap.size, 1, none⟩ = some (.int .i8 b) := by simp
  have s2 : ((w.alloc (.cells #[.int .i8 a, .int .i8 b, .int .i8 c] 56)).alloc (.cells #[.int .i8 r, .int .i8 z] 35)).cell? ⟨w.heap.size, 2, none⟩ = some (.int .i8 c) := by simp
  have p0 : ((w.alloc (.cells #[.int .i8 a, .int .i8 b, .int .i8 c] 56)).alloc (.cells #[.int .i8 r, .int .i8 z] 35)).cell? ⟨w.heap.size + 1, 0, none⟩ = some (.int .i8 r) := by simp
  have p1 : ((w.alloc (.cells #[.int .i8 a, .int .i8 b, .int .i8 c] 56)).alloc (.cells #[.int .i8 r, .int .i8 z] 35)).cell? ⟨w.heap.size + 1, 1, none⟩ = some (.int .i8 z) := by simp
  go_enter Tryd.func12, Tryd.ntmps12
  go_wp2_with fail
  generalize ((w.alloc (.cells #[.int .i8 a, .int .i8 b, .int .i8 c] 56)).alloc (.cells #[.int .i8 r, .int .i8 z] 35)) = W at *
  have HE := Lib.hid (hE.below k0 (Nat.le_refl _)); clear hE
  have K0 := Lib.hid k0; clear k0
  have Qs0 := Lib.hid s0; clear s0
  have Qs1 := Lib.hid s1; clear s1
  have Qs2 := Lib.hid s2; clear s2
  have Qp0 := Lib.hid p0; clear p0
  have Qp1 := Lib.hid p1; clear p1
  refine wp_region_phases 9 (clG W #[.int .i8 0, .int .i8 0, .int .i8 0] (#[.int .i8 X0, .int .i8 Y0, .int .i8 Z0]) 57) .p0 (by kernel_rfl) (by kernel_rfl) ⟨⟨_, below_drew1 _⟩, rfl⟩ ?_
  apply Exists.intro
  refine ⟨fun ph => ?_, ?_⟩
  · skip
    simp only [List.take_succ_cons, List.take_zero]
    have n0 := phG_nonempty W #[.int .i8 0, .int .i8 0, .int .i8 0] (#[.int .i8 X0, .int .i8 Y0, .int .i8 Z0]) 57 ph
    have fs0 := fun (x : WIn (phG W #[.int .i8 0, .int .i8 0, .int .i8 0] (#[.int .i8 X0, .int .i8 Y0, .int .i8 Z0]) 57 ph)) => inCellG Qs0.out x
    have fs1 := fun (x : WIn (phG W #[.int .i8 0, .int .i8 0, .int .i8 0] (#[.int .i8 X0, .int .i8 Y0, .int .i8 Z0]) 57 ph)) => inCellG Qs1.out x
    have fs2 := fun (x : WIn (phG W #[.int .i8 0, .int .i8 0, .int .i8 0] (#[.int .i8 X0, .int .i8 Y0, .int .i8 Z0]) 57 ph)) => inCellG Qs2.out x
    have fp0 := fun (x : WIn (phG W #[.int .i8 0, .int .i8 0, .int .i8 0] (#[.int .i8 X0, .int .i8 Y0, .int .i8 Z0]) 57 ph)) => inCellG Qp0.out x
    have fp1 := fun (x : WIn (phG W #[.int .i8 0, .int .i8 0, .int .i8 0] (#[.int .i8 X0, .int .i8 Y0, .int .i8 Z0]) 57 ph)) => inCellG Qp1.out x
    repeat (go_big_quiet_step (first | (go_at_call 39; exact inCallG _ (toSetting_any _ _ _ _)) | (go_at_call 23; exact inCallG _ (toPlacement_any _ _ _)) | (go_at_call 38; exact inCallG _ (Hsp.out _))))
    exact wpQuiet_nil rfl
  · skip
    simp only [List.drop_succ_cons, List.drop_zero]
    refine tail_G rfl (fun w' => ?rA) (fun q => rfl) (fun q w' hw' => ?rS) (fun k => ?_)
    case rA => first | rfl | kernel_rfl | (go_simp; done) | simp [go_sem]
    case rS => exact run_store_rowG _ _ _ rfl rfl rfl hw' (by kernel_rfl) (rfl) (by simp [Value.oneCell'])
    refine tList_yield (.int .i64 C) rfl (fun w' => ?rZ0) ?_
    case rZ0 => first | rfl | (go_simp; done) | simp [go_sem]
    rintro _ ⟨y0, rfl⟩
    have Y0 := y0.ok
    generalize y0.w = W1 at *
    obtain ⟨ky0, X1⟩ := Y0
    simp [Act.put]
    have K1 := Lib.hid (K0.out.trans (ky0.mono K0.out.size))
    have HE1 := Lib.hid (HE.out.below ky0 (Nat.le_refl _))
    have Rs0 := Lib.hid (below_cellOf ky0 Qs0.out (Nat.le_refl _))
    have Rs1 := Lib.hid (below_cellOf ky0 Qs1.out (Nat.le_refl _))
    have Rs2 := Lib.hid (below_cellOf ky0 Qs2.out (Nat.le_refl _))
    have Rp0 := Lib.hid (below_cellOf ky0 Qp0.out (Nat.le_refl _))
    have Rp1 := Lib.hid (below_cellOf ky0 Qp1.out (Nat.le_refl _))
    clear HE K0 Qs0 Qs1 Qs2 Qp0 Qp1 ky0
    have Y1 := Lib.hid X1; clear X1
    go_wp2_with fail
    refine wp_region_phases 9 (clG W1 #[.int .i8 0, .int .i8 0, .int .i8 0] (#[.int .i8 X0, .int .i8 Y0, .int .i8 Z0]) 57) .p0 (by kernel_rfl) (by kernel_rfl) ⟨⟨_, below_drew1 _⟩, rfl⟩ ?_
    apply Exists.intro
    refine ⟨fun ph => ?_, ?_⟩
    · skip
      simp only [List.take_succ_cons, List.take_zero]
      have n0 := phG_nonempty W1 #[.int .i8 0, .int .i8 0, .int .i8 0] (#[.int .i8 X0, .int .i8 Y0, .int .i8 Z0]) 57 ph
      have fs0 := fun (x : WIn (phG W1 #[.int .i8 0, .int .i8 0, .int .i8 0] (#[.int .i8 X0, .int .i8 Y0, .int .i8 Z0]) 57 ph)) => inCellG Rs0.out x
      have fs1 := fun (x : WIn (phG W1 #[.int .i8 0, .int .i8 0, .int .i8 0] (#[.int .i8 X0, .int .i8 Y0, .int .i8 Z0]) 57 ph)) => inCellG Rs1.out x
      have fs2 := fun (x : WIn (phG W1 #[.int .i8 0, .int .i8 0, .int .i8 0] (#[.int .i8 X0, .int .i8 Y0, .int .i8 Z0]) 57 ph)) => inCellG Rs2.out x
      have fp0 := fun (x : WIn (phG W1 #[.int .i8 0, .int .i8 0, .int .i8 0] (#[.int .i8 X0, .int .i8 Y0, .int .i8 Z0]) 57 ph)) => inCellG Rp0.out x
      have fp1 := fun (x : WIn (phG W1 #[.int .i8 0, .int .i8 0, .int .i8 0] (#[.int .i8 X0, .int .i8 Y0, .int .i8 Z0]) 57 ph)) => inCellG Rp1.out x
      have Hiy := Lib.hid (fun (x : WIn (phG W1 #[.int .i8 0, .int .i8 0, .int .i8 0] (#[.int .i8 X0, .int .i8 Y0, .int .i8 Z0]) 57 ph)) => Him.out x.w (HE1.out.below x.ok.bel (Nat.le_refl _)))
      repeat (go_big_quiet_step (first | (go_at_call 39; exact inCallG _ (toSetting_any _ _ _ _)) | (go_at_call 23; exact inCallG _ (toPlacement_any _ _ _)) | (go_at_call 40; exact inCallG _ (Hiy.out _))))
      exact wpQuiet_nil rfl
    · skip
      simp only [List.drop_succ_cons, List.drop_zero]
      refine tail_G rfl (fun w' => ?rA) (fun q => rfl) (fun q w' hw' => ?rS) (fun k => ?_)
      case rA => first | rfl | kernel_rfl | (go_simp; done) | simp [go_sem]
      case rS => exact run_store_rowG _ _ _ rfl rfl rfl hw' (by kernel_rfl) (rfl) (by simp [Value.oneCell'])
      refine tList_yield (.int .i64 C) rfl (fun w' => ?rZ0) ?_
      case rZ0 => first | rfl | (go_simp; done) | simp [go_sem]
      rintro _ ⟨y1, rfl⟩
      have Y1 := y1.ok
      generalize y1.w = W2 at *
      obtain ⟨ky1, X2⟩ := Y1
      simp [Act.put]
      have Z1 := row_belowG Y1.out ky1 (Nat.le_refl _)
      have k2 := K1.out.trans (ky1.mono K1.out.size)
      have x0 := cellOfRowG Z1 0 (by decide)
      have y0 := cellOfRowG X2 0 (by decide)
      have x1 := cellOfRowG Z1 1 (by decide)
      have y1 := cellOfRowG X2 1 (by decide)
      have x2 := cellOfRowG Z1 2 (by decide)
      have y2 := cellOfRowG X2 2 (by decide)
      simp only [List.getElem?_toArray, List.getElem?_cons_zero, List.getElem?_cons_succ] at x0 x1 x2 y0 y1 y2
      clear X2 Y1 Z1
      go_wp2_with fail
      refine (eqSetting_same X0 Y0 Z0 _).mono ?_; rintro e w4 ⟨rfl, hb4⟩
      go_wp2_with fail
      go_ret
      exact ⟨rfl, k2.trans (hb4.mono k2.size)⟩
end Go.Proofs.YtaanboedhabheaaDoor

/-
  The walk of the law FnExactSettingText: it returns true for every setting. Condition: the listed variables hold what the row lists.
-/
import Derived.Test.YtakmekidnfeciaaDoorSetTexts2
import Derived.Test.YtakmekidnfeciaaDoorWSets
import Derived.Test.YtakmekidnfeciaaDoorEnvN
namespace Go.Proofs.YtakmekidnfeciaaDoor
open Go.RowKit

set_option maxRecDepth 100000 in
set_option maxHeartbeats 1000000 in
theorem walk_FnExactSettingText (a b c : Int) (ha : -128 ≤ a) (ha' : a ≤ 127) (hb : -128 ≤ b) (hb' : b ≤ 127) (hc : -128 ≤ c) (hc' : c ≤ 127) (w : World) (hL : laidMetH Tryd.prog Rows.fnExactSettingTextRow.laid w) :
    Calls Tryd.prog 9 #[setV a b c] w fun e w' => e = .returned (.bool true) ∧ Below w.heap.size w w' := by
  have hN := shutEnv hL (by kernel_rfl) (by kernel_rfl)
  have hP := aperEnv hL (by kernel_rfl) (by kernel_rfl)
  have hM := markEnv hL (by kernel_rfl) (by kernel_rfl)
  have k1 := specSettingText_any a b c ha ha' hb hb' hc hc'
  have k2 := SettingText_any a b c ha ha' hb hb' hc hc'
  generalize setTx a b c = x at k1 k2
  have K1 := Lib.hid k1; clear k1
  have K2 := Lib.hid k2; clear k2
  have HN := Lib.hid hN; clear hN
  have HP := Lib.hid hP; clear hP
  have HM := Lib.hid hM; clear hM
  have k0 : Below w.heap.size w (w.alloc (.cells #[.int .i8 a, .int .i8 b, .int .i8 c] 44)) := (Below.refl _ _).alloc (Nat.le_refl _) _
  go_enter Tryd.func9, Tryd.ntmps9
  go_wp2_with fail
  refine (toSetting_any a b c _).mono ?_; rintro e w1 ⟨rfl, hb1⟩
  obtain ⟨q1, f1⟩ := bcell hb1
  have hz1 : w.heap.size < w1.heap.size := by have := hb1.size; simp at this; omega
  have k1 := k0.trans (hb1.mono k0.size)
  go_wp2_with fail
  refine (K1.out _).mono ?_; rintro e w2 ⟨rfl, hb2⟩
  obtain ⟨q2, f2⟩ := bcell hb2
  have k2 := k1.trans (hb2.mono k1.size)
  go_wp2_with fail
  refine (toSetting_any a b c _).mono ?_; rintro e w3 ⟨rfl, hb3⟩
  have k3 := k2.trans (hb3.mono k2.size)
  go_wp2_with fail
  refine (K2.out _ (HN.out.below k3 (Nat.le_refl _)) (HP.out.below k3 (Nat.le_refl _)) (HM.out.below k3 (Nat.le_refl _))).mono ?_; rintro e w4 ⟨rfl, hb4⟩
  go_wp2_with fail
  go_ret
  exact ⟨rfl, k3.trans (hb4.mono k3.size)⟩
end Go.Proofs.YtakmekidnfeciaaDoor

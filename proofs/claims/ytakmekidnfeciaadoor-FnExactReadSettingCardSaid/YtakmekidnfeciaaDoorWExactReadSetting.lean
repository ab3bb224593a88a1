/-
  The walk of the law FnExactReadSetting: it returns true for every text. Condition: the listed variables hold what the row lists.
-/
import Derived.Test.YtakmekidnfeciaaDoorReadImpl
import Derived.Test.YtakmekidnfeciaaDoorWSets
import Derived.Test.YtakmekidnfeciaaDoorEnvN
namespace Go.Proofs.YtakmekidnfeciaaDoor
open Go.RowKit

set_option maxRecDepth 100000 in
set_option maxHeartbeats 2000000 in
theorem walk_FnExactReadSetting (s : ByteArray) (hs : s.size ≤ maxLen) (w : World) (hL : laidMetH Tryd.prog Rows.fnExactReadSettingRow.laid w) :
    Calls Tryd.prog 10 #[.string s] w fun e w' => e = .returned (.bool true) ∧ Below w.heap.size w w' := by
  obtain ⟨r, hE⟩ := errEnv_of_row hL (by kernel_rfl) (by kernel_rfl)
  have hN := shutEnv hL (by kernel_rfl) (by kernel_rfl)
  have hP := aperEnv hL (by kernel_rfl) (by kernel_rfl)
  have hM := markEnv hL (by kernel_rfl) (by kernel_rfl)
  unfold maxLen at hs
  have HE := Lib.hid hE; clear hE
  have HN := Lib.hid hN; clear hN
  have HP := Lib.hid hP; clear hP
  have HM := Lib.hid hM; clear hM
  by_cases hn : s.size ≤ 1048576
  · have k1 := specReadSetting_any s hn
    have k2 := fun (W : World) hW a b c => ReadSetting_any r s.data.toList (by simpa using hn) W hW a b c
    rw [strV_self] at k2
    obtain ⟨x, y, z, hv⟩ := rdV_set s.data.toList
    rw [hv] at k1 k2
    generalize rdC s.data.toList = C at k1 k2
    unfold SetOut at k1 k2
    have K1 := Lib.hid k1; clear k1 hv
    have K2 := Lib.hid k2; clear k2
    go_enter Tryd.func10, Tryd.ntmps10
    go_wp2_with fail
    refine (K1.out _).mono ?_; rintro e w1 ⟨rfl, hb1⟩
    obtain ⟨q1, f1⟩ := bcell hb1
    have b1 : Below w.heap.size w (w1.alloc (.cells #[.int .i8 x, .int .i8 y, .int .i8 z] 46)) := hb1.alloc hb1.size _
    go_wp2_with fail
    refine (K2.out _ (HE.out.below b1 (Nat.le_refl _)) (HN.out.below b1 (Nat.le_refl _)) (HP.out.below b1 (Nat.le_refl _)) (HM.out.below b1 (Nat.le_refl _))).mono ?_; rintro e w2 ⟨rfl, hb2⟩
    obtain ⟨q2, f2⟩ := bcell hb2
    have z2 : w1.heap.size < w2.heap.size := by have := hb2.size; simp at this; omega
    have b2 := b1.trans (hb2.mono (by have := b1.size; simpa using this))
    go_wp2_with fail
    refine (eqSetting_same x y z _).mono ?_; rintro e w3 ⟨rfl, hb3⟩
    go_wp2_with fail
    go_ret
    exact ⟨rfl, (b2.alloc b2.size _).trans (hb3.mono (by have := b2.size; simp; omega))⟩
  · go_enter Tryd.func10, Tryd.ntmps10
    go_wp2
    go_ret
    exact ⟨rfl, Below.refl _ _⟩
end Go.Proofs.YtakmekidnfeciaaDoor

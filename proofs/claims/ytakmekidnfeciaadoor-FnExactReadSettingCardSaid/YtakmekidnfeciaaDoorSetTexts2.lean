/-
  The text of a setting: what the program's function returns. Condition: its tables of names hold what its text lays.
-/
import Derived.Test.YtakmekidnfeciaaDoorSetTexts
import Derived.Test.YtakmekidnfeciaaDoorWSets
namespace Go.Proofs.YtakmekidnfeciaaDoor
open Go.RowKit

theorem StrTab.drewN {g : Nat} {zs : List (List UInt8)} {w : World} (h : StrTab g zs w) (n : Nat) : StrTab g zs (w.drewN n) := fun i hi => h i hi
theorem quiet_same1 {P : Program} {f : FuncId} {args : Array Value} {w : World} {n : Nat} {v : Value}
    (h : Calls P f args (w.drewN n) fun e w' => e = .returned v ∧ w.drewN n = w') : Calls P f args (w.drewN n) fun e w'' => e = .returned v ∧ ∃ m, w'' = w.drewN m :=
  h.mono fun _ _ ⟨he, hm⟩ => ⟨he, n, hm.symm⟩
theorem quiet_more {P : Program} {f : FuncId} {args : Array Value} {w : World} {n : Nat} {v : Value}
    (h : Calls P f args (w.drewN n) fun e w' => e = .returned v ∧ ∃ m, w' = (w.drewN n).drewN m) : Calls P f args (w.drewN n) fun e w'' => e = .returned v ∧ ∃ m, w'' = w.drewN m :=
  h.mono fun _ _ ⟨he, m, hm⟩ => ⟨he, n + m, by rw [hm, World.drewN_drewN]⟩

set_option maxRecDepth 100000 in
set_option maxHeartbeats 1000000 in
theorem SettingText_any (a b c : Int) (ha : -128 ≤ a) (ha' : a ≤ 127) (hb : -128 ≤ b) (hb' : b ≤ 127) (hc : -128 ≤ c) (hc' : c ≤ 127) (w : World)
    (hN : StrTab 4 shuttersL w) (hP : StrTab 6 aperturesL w) (hM : StrTab 5 marksL w) :
    Calls Tryd.prog 35 #[setV a b c] w fun e w' => e = .returned (strV (setTx a b c)) ∧ Below w.heap.size w w' := by
  have hk := implValid_any a b c ha ha' hb hb' hc hc'
  rcases h1 : okS a b c with _ | _
  · have e : setTx a b c = [] := by simp [setTx, h1]
    rw [e]; clear e
    rw [h1] at hk
    have Hk := Lib.hid hk; clear hk h1 hN hP hM
    go_enter Tryd.func35, Tryd.ntmps35
    go_wp2_with fail
    refine (Hk.out _).mono ?_; rintro e w1 ⟨rfl, hb1⟩
    go_wp2_with fail
    go_ret
    exact ⟨rfl, ((Below.refl _ _).alloc (Nat.le_refl _) _).trans (hb1.mono (by simp))⟩
  · have e : setTx a b c = setT a b c := by simp [setTx, h1]
    rw [e]; clear e
    have hin := okS_true.1 h1
    obtain ⟨⟨a0, a1⟩, ⟨b0, b1⟩, c0, c1⟩ := hin
    clear ha ha' hb hb' hc hc'
    rw [h1] at hk
    have la := nameOf_le (zs := shuttersL) (by decide) a
    have lb := nameOf_le (zs := aperturesL) (by decide) b
    have lc : (decI c).length ≤ 19 := decN_le _ (by omega)
    have k1 := ShutterName_any a
    have k2 := ApertureName_any b
    have k3 := speedName_any c c0 c1
    rw [show shutN a = nameOf shuttersL a by simp [shutN, inB_true.2 ⟨a0, a1⟩]] at k1
    rw [show aperN b = nameOf aperturesL b by simp [aperN, inB_true.2 ⟨b0, b1⟩]] at k2
    unfold setT
    generalize nameOf shuttersL a = x at la k1 ⊢
    generalize nameOf aperturesL b = y at lb k2 ⊢
    generalize decI c = u at lc k3 ⊢
    have e1 : IntKind.i64.wrap a = a := IntWalk.i64_in _ (by omega)
    have e2 : IntKind.i64.wrap b = b := IntWalk.i64_in _ (by omega)
    have e3 : IntKind.i64.wrap c = c := IntWalk.i64_in _ (by omega)
    have ad1 := fun W => run_string_add_lists (P := Tryd.prog) W x [32] (by omega) (by simp)
    have ad2 := fun W => run_string_add_lists (P := Tryd.prog) W (x ++ [32]) y (by simp; omega) (by omega)
    have ad3 := fun W => run_string_add_lists (P := Tryd.prog) W (x ++ 32 :: y) [32] (by simp; omega) (by simp)
    have ad4 := fun W => run_string_add_lists (P := Tryd.prog) W (x ++ 32 :: (y ++ [32])) u (by simp; omega) (by omega)
    have Hk := Lib.hid hk; clear hk h1
    have K1 := Lib.hid k1; clear k1
    have K2 := Lib.hid k2; clear k2
    have K3 := Lib.hid k3; clear k3
    have HN := Lib.hid hN; clear hN
    have HP := Lib.hid hP; clear hP
    have HM := Lib.hid hM; clear hM
    go_enter Tryd.func35, Tryd.ntmps35
    go_wp2_with fail
    refine (Hk.out _).mono ?_; rintro e w1 ⟨rfl, hb1⟩
    obtain ⟨q1, f1⟩ := bcell hb1
    have hz1 := hb1.size
    simp at hz1
    have k0 : Below w.heap.size w w1 := ((Below.refl _ _).alloc (Nat.le_refl _) _).trans (hb1.mono (by simp))
    go_wp2_with fail
    go_quiet ((first
      | (go_at_call 73; exact quiet_more (K1.out _ ((HN.out.below k0 (Nat.le_refl _)).drewN _) ((HM.out.below k0 (Nat.le_refl _)).drewN _)))
      | (go_at_call 74; exact quiet_more (K2.out _ ((HP.out.below k0 (Nat.le_refl _)).drewN _) ((HM.out.below k0 (Nat.le_refl _)).drewN _)))
      | (go_at_call 75; exact quiet_same1 (K3.out _))))
    go_wp2
    go_ret
    exact ⟨rfl, below_drewN k0 _⟩
end Go.Proofs.YtakmekidnfeciaaDoor

/-
  What the reference and the program say of whether a setting is valid, for every setting. No condition.
-/
import Derived.Test.YtakmekidnfeciaaDoorBase
namespace Go.Proofs.YtakmekidnfeciaaDoor
open Go.RowKit

/-- A setting as a value. -/
abbrev setV (a b c : Int) : Value := .agg #[.int .i8 a, .int .i8 b, .int .i8 c]
/-- Is it valid? -/
def okS (a b c : Int) : Bool := inB a 0 45 && inB b 0 30 && inB c 0 21
theorem okS_true {a b c : Int} : okS a b c = true ↔ (0 ≤ a ∧ a ≤ 45) ∧ (0 ≤ b ∧ b ≤ 30) ∧ 0 ≤ c ∧ c ≤ 21 := by
  simp [okS, inB_true, and_assoc]
theorem okS_false {a b c : Int} : okS a b c = false ↔ ¬ ((0 ≤ a ∧ a ≤ 45) ∧ (0 ≤ b ∧ b ≤ 30) ∧ 0 ≤ c ∧ c ≤ 21) := by
  rw [← okS_true]; cases okS a b c <;> simp

set_option maxHeartbeats 400000 in
theorem l01Ok_any (a b c : Int) (ha : -128 ≤ a) (ha' : a ≤ 127) (hb : -128 ≤ b) (hb' : b ≤ 127) (hc : -128 ≤ c) (hc' : c ≤ 127) (w : World) :
    Calls Tryd.prog 70 #[setV a b c] w fun e w' => e = .returned (.bool (okS a b c)) ∧ Below w.heap.size w w' := by
  rcases h1 : inB a 0 45 with _ | _
  · go_enter Tryd.func70, Tryd.ntmps70
    go_wp2_with (go_at_call 59; refine (l00In_any _ _ _ _).mono ?_; rintro e w' ⟨rfl, rfl⟩)
    go_ret
    exact ⟨by simp [okS, *], (Below.refl _ _).alloc (Nat.le_refl _) _⟩
  · rcases h2 : inB b 0 30 with _ | _
    all_goals
      go_enter Tryd.func70, Tryd.ntmps70
      go_wp2_with (go_at_call 59; refine (l00In_any _ _ _ _).mono ?_; rintro e w' ⟨rfl, rfl⟩)
      go_ret
      exact ⟨by simp [okS, *], (Below.refl _ _).alloc (Nat.le_refl _) _⟩

set_option maxHeartbeats 400000 in
theorem implValid_any (a b c : Int) (ha : -128 ≤ a) (ha' : a ≤ 127) (hb : -128 ≤ b) (hb' : b ≤ 127) (hc : -128 ≤ c) (hc' : c ≤ 127) (w : World) :
    Calls Tryd.prog 72 #[setV a b c] w fun e w' => e = .returned (.bool (okS a b c)) ∧ Below w.heap.size w w' := by
  go_enter Tryd.func72, Tryd.ntmps72
  go_wp2
  all_goals
    go_ret
    exact ⟨ret_bool (by first | (symm; rw [okS_false]; omega) | (symm; rw [okS_true]; omega)), (Below.refl _ _).alloc (Nat.le_refl _) _⟩

set_option maxHeartbeats 400000 in
theorem toSetting_any (a b c : Int) (w : World) :
    Calls Tryd.prog 34 #[setV a b c] w fun e w' => e = .returned (setV a b c) ∧ Below w.heap.size w w' := by
  go_enter Tryd.func34, Tryd.ntmps34
  go_wp2
  refine bodyPost_ret (v := setV a b c) (by simp [results, Tryd.results34, go_sem]) rfl ⟨rfl, ?_⟩
  exact (((Below.refl _ _).alloc (Nat.le_refl _) _).alloc (by simp) _).alloc (by simp; omega) _
end Go.Proofs.YtakmekidnfeciaaDoor

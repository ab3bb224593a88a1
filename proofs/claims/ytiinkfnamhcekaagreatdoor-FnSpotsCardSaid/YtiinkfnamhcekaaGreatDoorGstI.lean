/-
  The greatest spot, by the program. Condition: its variables hold their own errors.
-/
import Derived.Test.YtiinkfnamhcekaaGreatDoorGst
namespace Go.Proofs.YtiinkfnamhcekaaGreatDoor
open Go.RowKit

def cmpI (x y : Int) : Int := if x < y then -1 else if y < x then 1 else 0
theorem isNaNi_any (x : Int) (w : World) : Calls Tryz.prog 59 #[.int .i64 x] w fun e w' => e = .returned (.bool false) ∧ w = w' := by
  go_enter Tryz.func59, Tryz.ntmps59
  go_wp2
  go_ret
  exact ⟨rfl, rfl⟩
set_option maxHeartbeats 1000000 in
theorem compareInt_any (x y : Int) (w : World) : Calls Tryz.prog 46 #[.int .i64 x, .int .i64 y] w fun e w' => e = .returned (.int .i64 (cmpI x y)) ∧ w = w' := by
  unfold cmpI
  rcases Int.lt_trichotomy x y with h | h | h
  · rw [if_pos h]
    go_enter Tryz.func46, Tryz.ntmps46
    go_wp2_with (go_at_call 59; refine (isNaNi_any _ _).mono ?_; rintro e w' ⟨rfl, rfl⟩)
    go_ret
    exact ⟨rfl, rfl⟩
  · subst h
    rw [if_neg (by omega), if_neg (by omega)]
    go_enter Tryz.func46, Tryz.ntmps46
    go_wp2_with (go_at_call 59; refine (isNaNi_any _ _).mono ?_; rintro e w' ⟨rfl, rfl⟩)
    go_ret
    exact ⟨rfl, rfl⟩
  · have h2 : ¬ x < y := by omega
    rw [if_neg h2, if_pos h]
    go_enter Tryz.func46, Tryz.ntmps46
    go_wp2_with (go_at_call 59; refine (isNaNi_any _ _).mono ?_; rintro e w' ⟨rfl, rfl⟩)
    go_ret
    exact ⟨rfl, rfl⟩
theorem byCount_any (X Y : BitVec 64) (w : World) : Calls Tryz.prog 45 #[.int .u64 (bvI X), .int .u64 (bvI Y)] w fun e w' => e = .returned (.int .i64 (cmpI (cntB X 64 : Nat) (cntB Y 64 : Nat))) ∧ w = w' := by
  have h1 := Lib.hid (OnesCount64_any X w)
  have h2 := Lib.hid (OnesCount64_any Y w)
  have h3 := Lib.hid (fun x y => compareInt_any x y w)
  go_enter Tryz.func45, Tryz.ntmps45
  go_wp2_with fail
  refine h1.out.mono ?_; rintro e w2 ⟨rfl, rfl⟩
  go_wp2_with fail
  refine h2.out.mono ?_; rintro e w2 ⟨rfl, rfl⟩
  go_wp2_with fail
  refine (h3.out _ _).mono ?_; rintro e w2 ⟨rfl, rfl⟩
  go_wp2_with fail
  go_ret
  exact ⟨rfl, rfl⟩

set_option maxRecDepth 100000 in
set_option maxHeartbeats 2000000 in
theorem MaxFunc_any (g n cap : Nat) (F : Nat → BitVec 64) (hn : 1 ≤ n) (hl : n ≤ 64) (w : World) (hg : g < w.heap.size) (hc : ∀ j, j < n → w.cell? ⟨g, j, none⟩ = some (.int .u64 (bvI (F j)))) :
    Calls Tryz.prog 44 #[.slice (some ⟨g, 0, none⟩) n cap, .func (.func 45) #[] #[]] w fun e w' => e = .returned (.int .u64 (bvI (gB F (n - 1)))) ∧ w = w' := by
  have c0 := hc 0 (by omega)
  have HC := Lib.hid hc; clear hc
  have Hb := Lib.hid (fun X Y W => byCount_any X Y W)
  go_enter Tryz.func44, Tryz.ntmps44
  go_wp2_with fail
  go_loopw [5, 6] (fun bv iv wr => ∃ k : Nat, k + 1 ≤ n ∧ iv = .int .i64 ((k + 1 : Nat) : Int) ∧ bv = .int .u64 (bvI (gB F k)) ∧ wr = w) (fun _ iv _ => n - (intOf iv).toNat)
  case atStart => exact ⟨0, by omega, rfl, rfl, rfl⟩
  case round =>
    obtain ⟨k, hk, rfl, rfl, rfl⟩ := hrel
    by_cases hkn : k + 1 < n
    · have c1 := HC.out (k + 1) hkn
      have hG : Hid (gB F (k + 1) = if cntB (gB F k) 64 < cntB (F (k + 1)) 64 then F (k + 1) else gB F k) := Lib.hid rfl
      have q1 := Lib.hid (Hb.out (F (k + 1)) (gB F k) wr)
      generalize F (k + 1) = X at *
      generalize gB F k = Y at *
      generalize cntB X 64 = x at *
      generalize cntB Y 64 = y at *
      by_cases hlt : y < x
      · rw [if_pos hlt] at hG
        have hv : cmpI (x : Nat) (y : Nat) = 1 := by unfold cmpI; rw [if_neg (by omega), if_pos (by omega)]
        rw [hv] at q1
        go_wp2_with fail
        refine q1.out.mono ?_; rintro e w3 ⟨rfl, rfl⟩
        go_wp2_with fail
        go_roundw
        case rel => exact ⟨k + 1, by omega, by go_num, by rw [hG.out], trivial⟩
        case measure => simp [intOf]; omega
      · rw [if_neg hlt] at hG
        have hv : cmpI (x : Nat) (y : Nat) ≤ 0 := by unfold cmpI; split <;> (try split) <;> omega
        generalize cmpI (x : Nat) (y : Nat) = z at *
        go_wp2_with fail
        refine q1.out.mono ?_; rintro e w3 ⟨rfl, rfl⟩
        go_wp2_with fail
        go_roundw
        case rel => exact ⟨k + 1, by omega, by go_num, by rw [hG.out], trivial⟩
        case measure => simp [intOf]; omega
    · obtain rfl : n = k + 1 := by omega
      go_wp2_with fail
      go_ret
      exact ⟨rfl, rfl⟩
end Go.Proofs.YtiinkfnamhcekaaGreatDoor

/-
  Valid steps, and steps that are the same: what both sides' functions return, for every list of at most 1048576. No condition beside.
-/
import Derived.Test.YtnlcjbobfhmnmaaDoorSts
import Derived.BigQuiet
import Derived.Deep.QuietTactic
namespace Go.Proofs.YtnlcjbobfhmnmaaDoor
open Go.RowKit

theorem below_drewS {B : Nat} {a w : World} (h : Below B a w) (n : Nat) : Below B a (w.drewN n) := ⟨h.os, h.tape, h.output, h.size, h.block⟩
/-- Are the first n thirds those of light? -/
def litB (es : Nat → Int) (n : Nat) : Bool := (List.range n).all fun k => inB (es k) 0 36
theorem litB_iff {es : Nat → Int} {n : Nat} : litB es n = true ↔ ∀ k, k < n → inB (es k) 0 36 = true := by simp [litB]
theorem litB_no {es : Nat → Int} {n k : Nat} (hk : k < n) (h : inB (es k) 0 36 = false) : litB es n = false := by
  rcases h' : litB es n with _ | _
  · rfl
  · rw [litB_iff.1 h' k hk] at h; cases h
def stpB (n : Nat) (es : Nat → Int) : Bool := litB es n && decide (n ≤ 30)

theorem l03Thirds_any (x : Int) (w : World) : Calls Tryd.prog 37 #[.int .i64 x] w fun e w' => e = .returned (.bool (inB x 0 36)) ∧ w = w' := by
  go_enter Tryd.func37, Tryd.ntmps37
  go_wp2_with (go_at_call 52; refine (l00In_any _ _ _ _).mono ?_; rintro e w' ⟨rfl, rfl⟩)
  go_ret
  exact ⟨rfl, rfl⟩

theorem isLight_any (x : Int) (w : World) : Calls Tryd.prog 78 #[.int .i64 x] w fun e w' => e = .returned (.bool (inB x 0 36)) ∧ w = w' := by
  go_enter Tryd.func78, Tryd.ntmps78
  go_wp2_with (go_at_call 79; refine (inRange_any _ _ _ _).mono ?_; rintro e w' ⟨rfl, rfl⟩)
  go_ret
  exact ⟨rfl, rfl⟩

set_option maxHeartbeats 1000000 in
theorem l03Ok_any (b n cap : Nat) (fs es : Nat → Int) (hn : n ≤ 1048576) (hs : SmallS n fs es) (w : World) (hr : StRow w b n fs es) :
    Calls Tryd.prog 23 #[.slice (some ⟨b, 0, none⟩) n cap] w fun e w' => e = .returned (.bool (stpB n es)) ∧ w = w' := by
  have hq := fun x W => l03Thirds_any x W
  have Hq := Lib.hid hq; clear hq
  have Hs := Lib.hid hs; clear hs
  go_enter Tryd.func23, Tryd.ntmps23
  go_wp2_with fail
  go_loop [3] (fun i => ∃ k : Nat, k ≤ n ∧ i = .int .i64 (k : Int) ∧ ∀ j, j < k → inB (es j) 0 36 = true) (fun i => n - (intOf i).toNat)
  case atStart => exact ⟨0, Nat.zero_le _, rfl, fun j hj => by omega⟩
  case round =>
    obtain ⟨k, hk, rfl, hj⟩ := hrel
    have HJ := Lib.hid hj; clear hj
    by_cases hkn : k < n
    · have c1 := hr.cell1 hkn
      have b1 := (Hs.out k hkn).2
      have hd := fun W => Hq.out (es k) W
      rcases hv : inB (es k) 0 36 with _ | _
      · have hz : stpB n es = false := by rw [stpB, litB_no hkn hv]; rfl
        have Hz := Lib.hid hz; clear hz
        rw [hv] at hd
        have Hd := Lib.hid hd; clear hd hv
        generalize es k = X at *
        go_wp2_with fail
        refine (Hd.out _).mono ?_; rintro e w1 ⟨rfl, rfl⟩
        go_wp2_with fail
        go_ret
        exact ⟨ret_bool Hz.out.symm, rfl⟩
      · rw [hv] at hd
        have Hd := Lib.hid hd; clear hd
        have HV := Lib.hid hv; clear hv
        generalize hX : es k = X at *
        have HX := Lib.hid hX; clear hX
        go_wp2_with fail
        refine (Hd.out _).mono ?_; rintro e w1 ⟨rfl, rfl⟩
        go_wp2_with fail
        go_round
        case rel => exact ⟨k + 1, by omega, by go_num, fun j hj => by
          by_cases e : j = k
          · subst e; rw [HX.out]; exact HV.out
          · exact HJ.out j (by omega)⟩
        case measure => simp [intOf]; omega
    · obtain rfl : k = n := by omega
      have hz : stpB k es = decide ((k : Int) ≤ 30) := by
        rw [stpB, litB_iff.2 HJ.out, Bool.true_and]
        exact decide_eq_decide.2 (by omega)
      have Hz := Lib.hid hz; clear hz
      go_wp2_with fail
      go_ret
      refine ⟨?_, rfl⟩
      rw [Hz.out]
      rfl

set_option maxHeartbeats 1000000 in
theorem ValidSteps_any (b n cap : Nat) (fs es : Nat → Int) (hn : n ≤ 1048576) (hs : SmallS n fs es) (w : World) (hr : StRow w b n fs es) :
    Calls Tryd.prog 68 #[.slice (some ⟨b, 0, none⟩) n cap] w fun e w' => e = .returned (.bool (stpB n es)) ∧ Below w.heap.size w w' := by
  have hq := fun x W => isLight_any x W
  have Hq := Lib.hid hq; clear hq
  have Hs := Lib.hid hs; clear hs
  by_cases h30 : n ≤ 30
  rotate_left
  · have hz : stpB n es = false := by
      rw [stpB, decide_eq_false h30, Bool.and_false]
    have Hz := Lib.hid hz; clear hz
    have h31 : (30 : Int) < n := by omega
    clear h30
    go_enter Tryd.func68, Tryd.ntmps68
    go_wp2_with fail
    go_ret
    exact ⟨ret_bool Hz.out.symm, Below.refl _ _⟩
  have h31 : ¬ (30 : Int) < n := by omega
  go_enter Tryd.func68, Tryd.ntmps68
  go_wp2_with fail
  go_loopw [10] (fun i wr => ∃ k : Nat, k ≤ n ∧ i = .int .i64 (k : Int) ∧ (∀ j, j < k → inB (es j) 0 36 = true) ∧ Below w.heap.size w wr) (fun i _ => n - (intOf i).toNat)
  case atStart => exact ⟨0, Nat.zero_le _, rfl, fun j hj => by omega, Below.refl _ _⟩
  case round =>
    obtain ⟨k, hk, rfl, hj, hB⟩ := hrel
    have HJ := Lib.hid hj; clear hj
    by_cases hkn : k < n
    · have hrk := hr.below hB hr.lt
      have c0 := hrk.cell0 hkn
      have c1 := hrk.cell1 hkn
      clear hrk
      have b1 := (Hs.out k hkn).2
      have kB := hB.alloc hB.size (.cells #[.int .u64 (fs k), .int .i8 (es k)] 60)
      have hd := fun W => Hq.out (es k) W
      have w1 : (k : Int) < n := by omega
      rcases hv : inB (es k) 0 36 with _ | _
      · have hz : stpB n es = false := by rw [stpB, litB_no hkn hv]; rfl
        have Hz := Lib.hid hz; clear hz
        rw [hv] at hd
        have Hd := Lib.hid hd; clear hd hv
        generalize es k = X at *
        generalize fs k = Y at *
        go_wp2_with fail
        refine (Hd.out _).mono ?_; rintro e w1 ⟨rfl, rfl⟩
        go_wp2_with fail
        go_ret
        exact ⟨ret_bool Hz.out.symm, kB⟩
      · rw [hv] at hd
        have Hd := Lib.hid hd; clear hd
        have HV := Lib.hid hv; clear hv
        generalize hX : es k = X at *
        have HX := Lib.hid hX; clear hX
        generalize fs k = Y at *
        go_wp2_with fail
        refine (Hd.out _).mono ?_; rintro e w1 ⟨rfl, rfl⟩
        go_wp2_with fail
        go_roundw
        case rel => exact ⟨k + 1, by omega, by go_num, fun j hj => by
          by_cases e : j = k
          · subst e; rw [HX.out]; exact HV.out
          · exact HJ.out j (by omega), kB⟩
        case measure => simp [intOf]; omega
    · obtain rfl : k = n := by omega
      have hz : stpB k es = true := by
        rw [stpB, litB_iff.2 HJ.out, Bool.true_and]
        exact decide_eq_true h30
      have Hz := Lib.hid hz; clear hz
      go_wp2_with fail
      go_ret
      exact ⟨ret_bool Hz.out.symm, hB⟩
end Go.Proofs.YtnlcjbobfhmnmaaDoor

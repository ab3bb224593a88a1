/-
  Masks: what both sides' functions return, for every rectangle. Condition of the program's: its variables hold their own errors.
-/
import Derived.Test.YtmibinfaafhgdaaGreatDoorBvX
import Derived.Test.YtmibinfaafhgdaaGreatDoorArrTools
namespace Go.Proofs.YtmibinfaafhgdaaGreatDoor
open Go.RowKit

theorem bitOf_any (k : Nat) (hk : k < 64) (w : World) : Calls Tryz.prog 85 #[.int .i64 (k : Int)] w fun e w' => e = .returned (.int .u64 ((2 ^ k : Nat) : Int)) ∧ w = w' := by
  go_enter Tryz.func85, Tryz.ntmps85
  go_wp2_with (refine wpList_shl1 (κ := .i64) (k := k) _ _ rfl rfl rfl rfl hk ?_)
  go_ret
  exact ⟨rfl, rfl⟩

set_option maxRecDepth 100000 in
set_option maxHeartbeats 1000000 in
theorem maskWhere_differIn (p : Nat → Bool) (q1 q2 q3 : Nat) (w : World)
    (hcl : ∀ k : Nat, k < 64 → ∀ W, Below w.heap.size w W → Calls Tryz.prog 66 #[.int .i64 (k : Int), .pointer (some ⟨q1, 0, none⟩), .pointer (some ⟨q2, 0, none⟩), .pointer (some ⟨q3, 0, none⟩)] W fun e w' => e = .returned (.bool (p k)) ∧ Below W.heap.size W w') :
    Calls Tryz.prog 65 #[.func (.func 66) #[] #[.pointer (some ⟨q1, 0, none⟩), .pointer (some ⟨q2, 0, none⟩), .pointer (some ⟨q3, 0, none⟩)]] w fun e w' => e = .returned (.int .u64 ((maskN p 64 : Nat) : Int)) ∧ Below w.heap.size w w' := by
  have Hcl := Lib.hid hcl; clear hcl
  have hb := fun k (hk : k < 64) => bitOf_any k hk
  have Hb := Lib.hid hb; clear hb
  go_enter Tryz.func65, Tryz.ntmps65
  go_wp2_with fail
  go_loopw [3, 5] (fun m i wr => ∃ k : Nat, k ≤ 64 ∧ i = .int .i64 (k : Int) ∧ m = .int .u64 ((maskN p k : Nat) : Int) ∧ Below w.heap.size w wr) (fun _ i _ => 64 - (intOf i).toNat)
  case atStart => exact ⟨0, by omega, rfl, rfl, Below.refl _ _⟩
  case round =>
    obtain ⟨k, hk, rfl, rfl, hB⟩ := hrel
    by_cases hkn : k < 64
    · have hq := Hcl.out k hkn wr hB
      have hlt := maskN_lt p k hk
      have hyes := maskN_yes (p := p) (k := k)
      have hno := maskN_no (p := p) (k := k)
      have h2 := two_pow_lt64 hkn
      have bk := fun W => Hb.out k hkn W
      rcases hv : p k with _ | _
      · rw [hv] at hq
        have HN := Lib.hid (hno hv)
        clear hno hyes hv h2
        generalize maskN p k = m at *
        have Hq := Lib.hid hq; clear hq
        have HL := Lib.hid hlt; clear hlt
        go_wp2_with fail
        refine Hq.out.mono ?_; rintro e w1 ⟨rfl, hb1⟩
        have hB1 := hB.trans (hb1.mono hB.size)
        clear hb1 hB
        go_wp2_with fail
        go_roundw
        case rel => exact ⟨k + 1, by omega, by go_num, by rw [HN.out], hB1⟩
        case measure => simp [intOf]; omega
      · rw [hv] at hq
        have HY := Lib.hid (hyes hv)
        clear hno hyes hv
        generalize maskN p k = m at *
        have Hq := Lib.hid hq; clear hq
        have HL := Lib.hid hlt; clear hlt
        have H2 := Lib.hid h2; clear h2
        have Bk := Lib.hid bk; clear bk
        go_wp2_with fail
        refine Hq.out.mono ?_; rintro e w1 ⟨rfl, hb1⟩
        have hB1 := hB.trans (hb1.mono hB.size)
        clear hb1 hB
        go_wp2_with fail
        refine (Bk.out _).mono ?_; rintro e w2 ⟨rfl, rfl⟩
        go_wp2_with (refine wpList_or _ _ rfl rfl rfl rfl HL.out H2.out ?_)
        go_roundw
        case rel => exact ⟨k + 1, by omega, by go_num, by rw [HY.out], hB1⟩
        case measure => simp [intOf]; omega
    · obtain rfl : k = 64 := by omega
      go_wp2_with fail
      go_ret
      exact ⟨rfl, hB⟩

theorem codedMask_any {s : Ers} {v : Value} {c : Int} (h : IsCode s v c) (x : Int) (w : World) (hE : ErrEnv s w) :
    Calls Tryz.prog 38 #[.int .u64 x, v] w fun e w' => e = .returned (.tuple #[.int .u64 x, .int .i64 c]) ∧ w = w' := by
  go_enter Tryz.func38, Tryz.ntmps38
  go_wp2_with fail
  refine (codeOf_any h _ hE).mono ?_; rintro e w1 ⟨rfl, rfl⟩
  go_wp2_with fail
  go_ret2
  exact ⟨rfl, rfl⟩

/-- Is a cell in a rectangle? -/
def rctP (W N E S : Int) (k : Nat) : Bool := inB ((k : Int) % 8) W E && inB ((k : Int) / 8) N S

/-- What a function hands out that gives a mask and an error. -/
def MskOut (s : Ers) (w : World) (V C : Int) (e : Ending) (w' : World) : Prop :=
  ∃ v, e = .returned (.tuple #[.int .u64 V, v]) ∧ IsCode s v C ∧ Below w.heap.size w w'
/-- Is there such a rectangle? -/
def rctB (W N E S : Int) : Bool := inB W 0 7 && (inB N 0 7 && (inB E 0 7 && (inB S 0 7 && (decide (W ≤ E) && decide (N ≤ S)))))
theorem rctB_iff {W N E S : Int} : rctB W N E S = true ↔ inB W 0 7 = true ∧ inB N 0 7 = true ∧ inB E 0 7 = true ∧ inB S 0 7 = true ∧ W ≤ E ∧ N ≤ S := by
  simp [rctB]
def rctV (W N E S : Int) : Int := if rctB W N E S = true then ((maskN (rctP W N E S) 64 : Nat) : Int) else 0
def rctC (W N E S : Int) : Int := if rctB W N E S = true then 0 else 2

end Go.Proofs.YtmibinfaafhgdaaGreatDoor

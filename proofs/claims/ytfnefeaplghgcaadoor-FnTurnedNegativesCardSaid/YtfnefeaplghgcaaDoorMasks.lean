/-
  Masks: what both sides' functions return, for every rectangle. Condition of the program's: its variables hold their own errors.
-/
import Derived.Test.YtfnefeaplghgcaaDoorMaskT
import Derived.Test.YtfnefeaplghgcaaDoorArrTools
namespace Go.Proofs.YtfnefeaplghgcaaDoor
open Go.RowKit

theorem bitOf_any (k : Nat) (hk : k < 64) (w : World) : Calls Tryd.prog 54 #[.int .i64 (k : Int)] w fun e w' => e = .returned (.int .u64 ((2 ^ k : Nat) : Int)) ∧ w = w' := by
  go_enter Tryd.func54, Tryd.ntmps54
  go_wp2_with (refine wpList_shl1 (κ := .i64) (k := k) _ _ rfl rfl rfl rfl hk ?_)
  go_ret
  exact ⟨rfl, rfl⟩

set_option maxRecDepth 100000 in
set_option maxHeartbeats 1000000 in
theorem maskWhere_maskOf (p : Nat → Bool) (q1 q2 q3 q4 : Nat) (w : World)
    (hcl : ∀ k : Nat, k < 64 → ∀ W, Below w.heap.size w W → Calls Tryd.prog 50 #[.int .i64 (k : Int), .pointer (some ⟨q1, 0, none⟩), .pointer (some ⟨q2, 0, none⟩), .pointer (some ⟨q3, 0, none⟩), .pointer (some ⟨q4, 0, none⟩)] W fun e w' => e = .returned (.bool (p k)) ∧ Below W.heap.size W w') :
    Calls Tryd.prog 44 #[.func (.func 50) #[] #[.pointer (some ⟨q1, 0, none⟩), .pointer (some ⟨q2, 0, none⟩), .pointer (some ⟨q3, 0, none⟩), .pointer (some ⟨q4, 0, none⟩)]] w fun e w' => e = .returned (.int .u64 ((maskN p 64 : Nat) : Int)) ∧ Below w.heap.size w w' := by
  have Hcl := Lib.hid hcl; clear hcl
  have hb := fun k (hk : k < 64) => bitOf_any k hk
  have Hb := Lib.hid hb; clear hb
  go_enter Tryd.func44, Tryd.ntmps44
  go_wp2_with fail
  go_loopw [3, 5] (fun m i wr => ∃ k : Nat, k ≤ 64 ∧ i = .int .i64 (k : Int) ∧ m = .int .u64 ((maskN p k : Nat) : Int) ∧ Below w.heap.size w wr) (fun _ i _ => 64 - (intOf i).toNat)
  case atStart => exact ⟨0, by omega, rfl, rfl, Below.refl _ _⟩
  case round =>
    obtain ⟨k, hk, rfl, rfl, hB⟩ := hrel
    by_cases hkn : k < 64
    · have hq := Hcl.out k hkn wr hB
      have hlt := maskN_lt p k hk
      have hyes := maskN_yes (p := p) (k := k)
      have hno := maskN_no (p := p) (k := k)
      have h2 := two_pow_lt64 hkn
      have bk := fun W => Hb.out k hkn W
      rcases hv : p k with _ | _
      · rw [hv] at hq
        have HN := Lib.hid (hno hv)
        clear hno hyes hv h2
        generalize maskN p k = m at *
        have Hq := Lib.hid hq; clear hq
        have HL := Lib.hid hlt; clear hlt
        go_wp2_with fail
        refine Hq.out.mono ?_; rintro e w1 ⟨rfl, hb1⟩
        have hB1 := hB.trans (hb1.mono hB.size)
        clear hb1 hB
        go_wp2_with fail
        go_roundw
        case rel => exact ⟨k + 1, by omega, by go_num, by rw [HN.out], hB1⟩
        case measure => simp [intOf]; omega
      · rw [hv] at hq
        have HY := Lib.hid (hyes hv)
        clear hno hyes hv
        generalize maskN p k = m at *
        have Hq := Lib.hid hq; clear hq
        have HL := Lib.hid hlt; clear hlt
        have H2 := Lib.hid h2; clear h2
        have Bk := Lib.hid bk; clear bk
        go_wp2_with fail
        refine Hq.out.mono ?_; rintro e w1 ⟨rfl, hb1⟩
        have hB1 := hB.trans (hb1.mono hB.size)
        clear hb1 hB
        go_wp2_with fail
        refine (Bk.out _).mono ?_; rintro e w2 ⟨rfl, rfl⟩
        go_wp2_with (refine wpList_or _ _ rfl rfl rfl rfl HL.out H2.out ?_)
        go_roundw
        case rel => exact ⟨k + 1, by omega, by go_num, by rw [HY.out], hB1⟩
        case measure => simp [intOf]; omega
    · obtain rfl : k = 64 := by omega
      go_wp2_with fail
      go_ret
      exact ⟨rfl, hB⟩

set_option maxRecDepth 100000 in
set_option maxHeartbeats 1000000 in
theorem maskWhere_differIn (p : Nat → Bool) (q1 q2 q3 : Nat) (w : World)
    (hcl : ∀ k : Nat, k < 64 → ∀ W, Below w.heap.size w W → Calls Tryd.prog 45 #[.int .i64 (k : Int), .pointer (some ⟨q1, 0, none⟩), .pointer (some ⟨q2, 0, none⟩), .pointer (some ⟨q3, 0, none⟩)] W fun e w' => e = .returned (.bool (p k)) ∧ Below W.heap.size W w') :
    Calls Tryd.prog 44 #[.func (.func 45) #[] #[.pointer (some ⟨q1, 0, none⟩), .pointer (some ⟨q2, 0, none⟩), .pointer (some ⟨q3, 0, none⟩)]] w fun e w' => e = .returned (.int .u64 ((maskN p 64 : Nat) : Int)) ∧ Below w.heap.size w w' := by
  have Hcl := Lib.hid hcl; clear hcl
  have hb := fun k (hk : k < 64) => bitOf_any k hk
  have Hb := Lib.hid hb; clear hb
  go_enter Tryd.func44, Tryd.ntmps44
  go_wp2_with fail
  go_loopw [3, 5] (fun m i wr => ∃ k : Nat, k ≤ 64 ∧ i = .int .i64 (k : Int) ∧ m = .int .u64 ((maskN p k : Nat) : Int) ∧ Below w.heap.size w wr) (fun _ i _ => 64 - (intOf i).toNat)
  case atStart => exact ⟨0, by omega, rfl, rfl, Below.refl _ _⟩
  case round =>
    obtain ⟨k, hk, rfl, rfl, hB⟩ := hrel
    by_cases hkn : k < 64
    · have hq := Hcl.out k hkn wr hB
      have hlt := maskN_lt p k hk
      have hyes := maskN_yes (p := p) (k := k)
      have hno := maskN_no (p := p) (k := k)
      have h2 := two_pow_lt64 hkn
      have bk := fun W => Hb.out k hkn W
      rcases hv : p k with _ | _
      · rw [hv] at hq
        have HN := Lib.hid (hno hv)
        clear hno hyes hv h2
        generalize maskN p k = m at *
        have Hq := Lib.hid hq; clear hq
        have HL := Lib.hid hlt; clear hlt
        go_wp2_with fail
        refine Hq.out.mono ?_; rintro e w1 ⟨rfl, hb1⟩
        have hB1 := hB.trans (hb1.mono hB.size)
        clear hb1 hB
        go_wp2_with fail
        go_roundw
        case rel => exact ⟨k + 1, by omega, by go_num, by rw [HN.out], hB1⟩
        case measure => simp [intOf]; omega
      · rw [hv] at hq
        have HY := Lib.hid (hyes hv)
        clear hno hyes hv
        generalize maskN p k = m at *
        have Hq := Lib.hid hq; clear hq
        have HL := Lib.hid hlt; clear hlt
        have H2 := Lib.hid h2; clear h2
        have Bk := Lib.hid bk; clear bk
        go_wp2_with fail
        refine Hq.out.mono ?_; rintro e w1 ⟨rfl, hb1⟩
        have hB1 := hB.trans (hb1.mono hB.size)
        clear hb1 hB
        go_wp2_with fail
        refine (Bk.out _).mono ?_; rintro e w2 ⟨rfl, rfl⟩
        go_wp2_with (refine wpList_or _ _ rfl rfl rfl rfl HL.out H2.out ?_)
        go_roundw
        case rel => exact ⟨k + 1, by omega, by go_num, by rw [HY.out], hB1⟩
        case measure => simp [intOf]; omega
    · obtain rfl : k = 64 := by omega
      go_wp2_with fail
      go_ret
      exact ⟨rfl, hB⟩

theorem codedMask_any {s : Ers} {v : Value} {c : Int} (h : IsCode s v c) (x : Int) (w : World) (hE : ErrEnv s w) :
    Calls Tryd.prog 28 #[.int .u64 x, v] w fun e w' => e = .returned (.tuple #[.int .u64 x, .int .i64 c]) ∧ w = w' := by
  go_enter Tryd.func28, Tryd.ntmps28
  go_wp2_with fail
  refine (codeOf_any h _ hE).mono ?_; rintro e w1 ⟨rfl, rfl⟩
  go_wp2_with fail
  go_ret2
  exact ⟨rfl, rfl⟩

/-- Is a cell in a rectangle? -/
def rctP (W N E S : Int) (k : Nat) : Bool := inB ((k : Int) % 8) W E && inB ((k : Int) / 8) N S

set_option maxHeartbeats 1000000 in
theorem maskOf1_any (W N E S : Int) (k : Nat) (hk : k < 64) (q1 q2 q3 q4 : Nat) (w : World) (c1 : w.cell? ⟨q1, 0, none⟩ = some (.int .i64 W)) (c2 : w.cell? ⟨q2, 0, none⟩ = some (.int .i64 E)) (c3 : w.cell? ⟨q3, 0, none⟩ = some (.int .i64 N)) (c4 : w.cell? ⟨q4, 0, none⟩ = some (.int .i64 S)) :
    Calls Tryd.prog 50 #[.int .i64 (k : Int), .pointer (some ⟨q1, 0, none⟩), .pointer (some ⟨q2, 0, none⟩), .pointer (some ⟨q3, 0, none⟩), .pointer (some ⟨q4, 0, none⟩)] w fun e w' => e = .returned (.bool (rctP W N E S k)) ∧ Below w.heap.size w w' := by
  have hx := fun V => inRange_any ((k : Int) % 8) W E V
  have hy := fun V => inRange_any ((k : Int) / 8) N S V
  unfold rctP
  rcases h1 : inB ((k : Int) % 8) W E with _ | _
  · rw [h1] at hx
    simp only [Bool.false_and]
    have Hx := Lib.hid hx; clear hx hy h1
    go_enter Tryd.func50, Tryd.ntmps50
    go_wp2_with fail
    refine (Hx.out _).mono ?_; rintro e w1 ⟨rfl, rfl⟩
    go_wp2_with fail
    go_ret
    exact ⟨rfl, Below.refl _ _⟩
  · rw [h1] at hx
    simp only [Bool.true_and]
    generalize inB ((k : Int) / 8) N S = V at *
    have Hx := Lib.hid hx; clear hx h1
    have Hy := Lib.hid hy; clear hy
    go_enter Tryd.func50, Tryd.ntmps50
    go_wp2_with fail
    refine (Hx.out _).mono ?_; rintro e w1 ⟨rfl, rfl⟩
    go_wp2_with fail
    refine (Hy.out _).mono ?_; rintro e w1 ⟨rfl, rfl⟩
    go_wp2_with fail
    go_ret
    exact ⟨rfl, Below.refl _ _⟩

/-- What a function hands out that gives a mask and an error. -/
def MskOut (s : Ers) (w : World) (V C : Int) (e : Ending) (w' : World) : Prop :=
  ∃ v, e = .returned (.tuple #[.int .u64 V, v]) ∧ IsCode s v C ∧ Below w.heap.size w w'
/-- Is there such a rectangle? -/
def rctB (W N E S : Int) : Bool := inB W 0 7 && (inB N 0 7 && (inB E 0 7 && (inB S 0 7 && (decide (W ≤ E) && decide (N ≤ S)))))
theorem rctB_iff {W N E S : Int} : rctB W N E S = true ↔ inB W 0 7 = true ∧ inB N 0 7 = true ∧ inB E 0 7 = true ∧ inB S 0 7 = true ∧ W ≤ E ∧ N ≤ S := by
  simp [rctB]
def rctV (W N E S : Int) : Int := if rctB W N E S = true then ((maskN (rctP W N E S) 64 : Nat) : Int) else 0
def rctC (W N E S : Int) : Int := if rctB W N E S = true then 0 else 2

set_option maxRecDepth 100000 in
set_option maxHeartbeats 4000000 in
theorem maskOf_any (s : Ers) (W N E S : Int) (w : World) (hE : ErrEnv s w) :
    Calls Tryd.prog 34 #[.int .i64 W, .int .i64 N, .int .i64 E, .int .i64 S] w (MskOut s w (rctV W N E S) (rctC W N E S)) := by
  have i0 : ∀ V : World, (Instr.index 86 (.agg #[.int .i64 W, .int .i64 N, .int .i64 E, .int .i64 S]) (.int .i64 0)).run Tryd.prog V = .ok (.int .i64 W) V := fun _ => by kernel_rfl
  have i1 : ∀ V : World, (Instr.index 86 (.agg #[.int .i64 W, .int .i64 N, .int .i64 E, .int .i64 S]) (.int .i64 1)).run Tryd.prog V = .ok (.int .i64 N) V := fun _ => by kernel_rfl
  have i2 : ∀ V : World, (Instr.index 86 (.agg #[.int .i64 W, .int .i64 N, .int .i64 E, .int .i64 S]) (.int .i64 2)).run Tryd.prog V = .ok (.int .i64 E) V := fun _ => by kernel_rfl
  have i3 : ∀ V : World, (Instr.index 86 (.agg #[.int .i64 W, .int .i64 N, .int .i64 E, .int .i64 S]) (.int .i64 3)).run Tryd.prog V = .ok (.int .i64 S) V := fun _ => by kernel_rfl
  have I := Lib.hid (And.intro i0 (And.intro i1 (And.intro i2 i3)))
  clear i0 i1 i2 i3
  have hno : ¬ rctB W N E S = true → rctV W N E S = 0 ∧ rctC W N E S = 2 := fun h => by simp [rctV, rctC, h]
  have hye : rctB W N E S = true → rctV W N E S = ((maskN (rctP W N E S) 64 : Nat) : Int) ∧ rctC W N E S = 0 := fun h => by simp [rctV, rctC, h]
  rw [rctB_iff] at hno hye
  have hm := fun a b c d V h => maskWhere_maskOf (rctP W N E S) a b c d V h
  have hc := fun k hk a b c d V h1 h2 h3 h4 => maskOf1_any W N E S k hk a b c d V h1 h2 h3 h4
  have hW := fun V => inRange_any W 0 7 V
  have hN := fun V => inRange_any N 0 7 V
  have hEE := fun V => inRange_any E 0 7 V
  have hS := fun V => inRange_any S 0 7 V
  generalize rctP W N E S = p at *
  generalize rctV W N E S = V at *
  generalize rctC W N E S = C at *
  have k0 : Below w.heap.size w ((((w.alloc (.cells #[.int .i64 W] 2)).alloc (.cells #[.int .i64 N] 2)).alloc (.cells #[.int .i64 E] 2)).alloc (.cells #[.int .i64 S] 2)) := by
    repeat (first | exact Below.refl _ _ | (refine Below.alloc ?_ (by first | exact Nat.le_refl _ | (simp; done) | (simp; omega)) _))
  have ce := (hE.below k0 (Nat.le_refl _)).c_erange
  have K0 := Lib.hid k0; clear k0
  have Hm := Lib.hid hm; clear hm
  have Hc := Lib.hid hc; clear hc
  have Hno := Lib.hid hno; clear hno
  have Hye := Lib.hid hye; clear hye
  clear hE
  by_cases g0 : inB W 0 7 = true
  rotate_left
  · have gz : inB W 0 7 = false := by simpa using g0
    have HX := Lib.hid (Hno.out (fun h => g0 h.1))
    rw [gz] at hW
    have HW := Lib.hid hW; clear hW
    clear gz g0 hN hEE hS Hc Hm Hye Hno
    have i0 := I.out.1
    clear I
    go_enter Tryd.func34, Tryd.ntmps34
    go_wp2_with fail
    refine wp_loop_rounds 1 ?_
    rw [rounds_succ]
    go_wp2_with fail
    refine (HW.out _).mono ?_; rintro e w1 ⟨rfl, rfl⟩
    go_wp2_with fail
    go_quiet (fail)
    go_wp2
    go_ret2
    refine ⟨errV s.erange, ?_, by rw [HX.out.2]; exact .erange, below_drewA K0.out _⟩
    show Ending.returned (.tuple #[.int .u64 0, errV s.erange]) = _
    rw [HX.out.1]
  by_cases g1 : inB N 0 7 = true
  rotate_left
  · have gz : inB N 0 7 = false := by simpa using g1
    have HX := Lib.hid (Hno.out (fun h => g1 h.2.1))
    rw [g0] at hW
    rw [gz] at hN
    have HW := Lib.hid hW; clear hW
    have HN := Lib.hid hN; clear hN
    clear gz g0 g1 hEE hS Hc Hm Hye Hno
    have i0 := I.out.1
    have i1 := I.out.2.1
    clear I
    go_enter Tryd.func34, Tryd.ntmps34
    go_wp2_with fail
    refine wp_loop_rounds 2 ?_
    rw [rounds_succ]
    go_wp2_with fail
    refine (HW.out _).mono ?_; rintro e w1 ⟨rfl, rfl⟩
    go_wp2_with fail
    rw [rounds_succ]
    go_wp2_with fail
    refine (HN.out _).mono ?_; rintro e w1 ⟨rfl, rfl⟩
    go_wp2_with fail
    go_quiet (fail)
    go_wp2
    go_ret2
    refine ⟨errV s.erange, ?_, by rw [HX.out.2]; exact .erange, below_drewA K0.out _⟩
    show Ending.returned (.tuple #[.int .u64 0, errV s.erange]) = _
    rw [HX.out.1]
  by_cases g2 : inB E 0 7 = true
  rotate_left
  · have gz : inB E 0 7 = false := by simpa using g2
    have HX := Lib.hid (Hno.out (fun h => g2 h.2.2.1))
    rw [g0] at hW
    rw [g1] at hN
    rw [gz] at hEE
    have HW := Lib.hid hW; clear hW
    have HN := Lib.hid hN; clear hN
    have HE := Lib.hid hEE; clear hEE
    clear gz g0 g1 g2 hS Hc Hm Hye Hno
    have i0 := I.out.1
    have i1 := I.out.2.1
    have i2 := I.out.2.2.1
    clear I
    go_enter Tryd.func34, Tryd.ntmps34
    go_wp2_with fail
    refine wp_loop_rounds 3 ?_
    rw [rounds_succ]
    go_wp2_with fail
    refine (HW.out _).mono ?_; rintro e w1 ⟨rfl, rfl⟩
    go_wp2_with fail
    rw [rounds_succ]
    go_wp2_with fail
    refine (HN.out _).mono ?_; rintro e w1 ⟨rfl, rfl⟩
    go_wp2_with fail
    rw [rounds_succ]
    go_wp2_with fail
    refine (HE.out _).mono ?_; rintro e w1 ⟨rfl, rfl⟩
    go_wp2_with fail
    go_quiet (fail)
    go_wp2
    go_ret2
    refine ⟨errV s.erange, ?_, by rw [HX.out.2]; exact .erange, below_drewA K0.out _⟩
    show Ending.returned (.tuple #[.int .u64 0, errV s.erange]) = _
    rw [HX.out.1]
  by_cases g3 : inB S 0 7 = true
  rotate_left
  · have gz : inB S 0 7 = false := by simpa using g3
    have HX := Lib.hid (Hno.out (fun h => g3 h.2.2.2.1))
    rw [g0] at hW
    rw [g1] at hN
    rw [g2] at hEE
    rw [gz] at hS
    have HW := Lib.hid hW; clear hW
    have HN := Lib.hid hN; clear hN
    have HE := Lib.hid hEE; clear hEE
    have HS := Lib.hid hS; clear hS
    clear gz g0 g1 g2 g3  Hc Hm Hye Hno
    have i0 := I.out.1
    have i1 := I.out.2.1
    have i2 := I.out.2.2.1
    have i3 := I.out.2.2.2
    clear I
    go_enter Tryd.func34, Tryd.ntmps34
    go_wp2_with fail
    refine wp_loop_rounds 4 ?_
    rw [rounds_succ]
    go_wp2_with fail
    refine (HW.out _).mono ?_; rintro e w1 ⟨rfl, rfl⟩
    go_wp2_with fail
    rw [rounds_succ]
    go_wp2_with fail
    refine (HN.out _).mono ?_; rintro e w1 ⟨rfl, rfl⟩
    go_wp2_with fail
    rw [rounds_succ]
    go_wp2_with fail
    refine (HE.out _).mono ?_; rintro e w1 ⟨rfl, rfl⟩
    go_wp2_with fail
    rw [rounds_succ]
    go_wp2_with fail
    refine (HS.out _).mono ?_; rintro e w1 ⟨rfl, rfl⟩
    go_wp2_with fail
    go_quiet (fail)
    go_wp2
    go_ret2
    refine ⟨errV s.erange, ?_, by rw [HX.out.2]; exact .erange, below_drewA K0.out _⟩
    show Ending.returned (.tuple #[.int .u64 0, errV s.erange]) = _
    rw [HX.out.1]
  by_cases b1 : W ≤ E
  rotate_left
  · have HX := Lib.hid (Hno.out (fun h => b1 h.2.2.2.2.1))
    rw [g0] at hW
    rw [g1] at hN
    rw [g2] at hEE
    rw [g3] at hS
    have HW := Lib.hid hW; clear hW
    have HN := Lib.hid hN; clear hN
    have HE := Lib.hid hEE; clear hEE
    have HS := Lib.hid hS; clear hS
    clear g0 g1 g2 g3 Hc Hm Hye Hno
    have hgt : E < W := by omega
    clear b1
    have i0 := I.out.1
    have i1 := I.out.2.1
    have i2 := I.out.2.2.1
    have i3 := I.out.2.2.2
    clear I
    go_enter Tryd.func34, Tryd.ntmps34
    go_wp2_with fail
    refine wp_loop_rounds 5 ?_
    rw [rounds_succ]
    go_wp2_with fail
    refine (HW.out _).mono ?_; rintro e w1 ⟨rfl, rfl⟩
    go_wp2_with fail
    rw [rounds_succ]
    go_wp2_with fail
    refine (HN.out _).mono ?_; rintro e w1 ⟨rfl, rfl⟩
    go_wp2_with fail
    rw [rounds_succ]
    go_wp2_with fail
    refine (HE.out _).mono ?_; rintro e w1 ⟨rfl, rfl⟩
    go_wp2_with fail
    rw [rounds_succ]
    go_wp2_with fail
    refine (HS.out _).mono ?_; rintro e w1 ⟨rfl, rfl⟩
    go_wp2_with fail
    rw [rounds_succ]
    go_wp2_with fail
    go_quiet (fail)
    go_wp2
    go_ret2
    refine ⟨errV s.erange, ?_, by rw [HX.out.2]; exact .erange, below_drewA K0.out _⟩
    show Ending.returned (.tuple #[.int .u64 0, errV s.erange]) = _
    rw [HX.out.1]
  by_cases b2 : N ≤ S
  rotate_left
  · have HX := Lib.hid (Hno.out (fun h => b2 h.2.2.2.2.2))
    rw [g0] at hW
    rw [g1] at hN
    rw [g2] at hEE
    rw [g3] at hS
    have HW := Lib.hid hW; clear hW
    have HN := Lib.hid hN; clear hN
    have HE := Lib.hid hEE; clear hEE
    have HS := Lib.hid hS; clear hS
    clear g0 g1 g2 g3 Hc Hm Hye Hno
    have hgt : S < N := by omega
    clear b2
    have i0 := I.out.1
    have i1 := I.out.2.1
    have i2 := I.out.2.2.1
    have i3 := I.out.2.2.2
    clear I
    go_enter Tryd.func34, Tryd.ntmps34
    go_wp2_with fail
    refine wp_loop_rounds 5 ?_
    rw [rounds_succ]
    go_wp2_with fail
    refine (HW.out _).mono ?_; rintro e w1 ⟨rfl, rfl⟩
    go_wp2_with fail
    rw [rounds_succ]
    go_wp2_with fail
    refine (HN.out _).mono ?_; rintro e w1 ⟨rfl, rfl⟩
    go_wp2_with fail
    rw [rounds_succ]
    go_wp2_with fail
    refine (HE.out _).mono ?_; rintro e w1 ⟨rfl, rfl⟩
    go_wp2_with fail
    rw [rounds_succ]
    go_wp2_with fail
    refine (HS.out _).mono ?_; rintro e w1 ⟨rfl, rfl⟩
    go_wp2_with fail
    rw [rounds_succ]
    go_wp2_with fail
    go_quiet (fail)
    go_wp2
    go_ret2
    refine ⟨errV s.erange, ?_, by rw [HX.out.2]; exact .erange, below_drewA K0.out _⟩
    show Ending.returned (.tuple #[.int .u64 0, errV s.erange]) = _
    rw [HX.out.1]
  · have HX := Lib.hid (Hye.out ⟨g0, g1, g2, g3, b1, b2⟩)
    rw [g0] at hW
    rw [g1] at hN
    rw [g2] at hEE
    rw [g3] at hS
    have HW := Lib.hid hW; clear hW
    have HN := Lib.hid hN; clear hN
    have HE := Lib.hid hEE; clear hEE
    have HS := Lib.hid hS; clear hS
    have i0 := I.out.1
    have i1 := I.out.2.1
    have i2 := I.out.2.2.1
    have i3 := I.out.2.2.2
    have z0 : ((((w.alloc (.cells #[.int .i64 W] 2)).alloc (.cells #[.int .i64 N] 2)).alloc (.cells #[.int .i64 E] 2)).alloc (.cells #[.int .i64 S] 2)).cell? ⟨w.heap.size, 0, none⟩ = some (.int .i64 W) := by go_simp
    have z1 : ((((w.alloc (.cells #[.int .i64 W] 2)).alloc (.cells #[.int .i64 N] 2)).alloc (.cells #[.int .i64 E] 2)).alloc (.cells #[.int .i64 S] 2)).cell? ⟨w.heap.size + 1, 0, none⟩ = some (.int .i64 N) := by go_simp
    have z2 : ((((w.alloc (.cells #[.int .i64 W] 2)).alloc (.cells #[.int .i64 N] 2)).alloc (.cells #[.int .i64 E] 2)).alloc (.cells #[.int .i64 S] 2)).cell? ⟨w.heap.size + 1 + 1, 0, none⟩ = some (.int .i64 E) := by go_simp
    have z3 : ((((w.alloc (.cells #[.int .i64 W] 2)).alloc (.cells #[.int .i64 N] 2)).alloc (.cells #[.int .i64 E] 2)).alloc (.cells #[.int .i64 S] 2)).cell? ⟨w.heap.size + 1 + 1 + 1, 0, none⟩ = some (.int .i64 S) := by go_simp
    have Z := Lib.hid (And.intro z0 (And.intro z1 (And.intro z2 z3)))
    clear z0 z1 z2 z3
    clear I g0 g1 g2 g3 Hno Hye ce
    go_enter Tryd.func34, Tryd.ntmps34
    go_wp2_with fail
    refine wp_loop_rounds 5 ?_
    rw [rounds_succ]
    go_wp2_with fail
    refine (HW.out _).mono ?_; rintro e w1 ⟨rfl, rfl⟩
    go_wp2_with fail
    rw [rounds_succ]
    go_wp2_with fail
    refine (HN.out _).mono ?_; rintro e w1 ⟨rfl, rfl⟩
    go_wp2_with fail
    rw [rounds_succ]
    go_wp2_with fail
    refine (HE.out _).mono ?_; rintro e w1 ⟨rfl, rfl⟩
    go_wp2_with fail
    rw [rounds_succ]
    go_wp2_with fail
    refine (HS.out _).mono ?_; rintro e w1 ⟨rfl, rfl⟩
    go_wp2_with fail
    rw [rounds_succ]
    go_wp2_with fail
    refine (Hm.out _ _ _ _ _ (fun k hk V hV => Hc.out k hk _ _ _ _ V (below_cellOf hV Z.out.1 (Nat.le_refl _)) (below_cellOf hV Z.out.2.2.1 (Nat.le_refl _)) (below_cellOf hV Z.out.2.1 (Nat.le_refl _)) (below_cellOf hV Z.out.2.2.2 (Nat.le_refl _)))).mono ?_; rintro e w2 ⟨rfl, hb2⟩
    have k2 := K0.out.trans (hb2.mono K0.out.size)
    clear hb2
    go_wp2_with fail
    go_ret2
    refine ⟨.nilIface, ?_, by rw [HX.out.2]; exact .ok, k2⟩
    show Ending.returned (.tuple #[.int .u64 ((maskN p 64 : Nat) : Int), .nilIface]) = _
    rw [HX.out.1]

theorem MaskOf_any (s : Ers) (W N E S : Int) (w : World) (hE : ErrEnv s w) :
    Calls Tryd.prog 16 #[.int .i64 W, .int .i64 N, .int .i64 E, .int .i64 S] w fun e w' => e = .returned (.tuple #[.int .u64 (rctV W N E S), .int .i64 (rctC W N E S)]) ∧ Below w.heap.size w w' := by
  have hm := fun V h => maskOf_any s W N E S V h
  generalize rctV W N E S = V at *
  generalize rctC W N E S = C at *
  have Hm := Lib.hid hm; clear hm
  go_enter Tryd.func16, Tryd.ntmps16
  go_wp2_with fail
  refine (Hm.out _ hE).mono ?_; rintro e w1 ⟨v, rfl, hv, hb1⟩
  go_wp2_with fail
  refine (codedMask_any hv _ _ (hE.below hb1 (Nat.le_refl _))).mono ?_; rintro e w2 ⟨rfl, rfl⟩
  go_wp2_with fail
  go_ret2
  exact ⟨rfl, hb1⟩
end Go.Proofs.YtfnefeaplghgcaaDoor

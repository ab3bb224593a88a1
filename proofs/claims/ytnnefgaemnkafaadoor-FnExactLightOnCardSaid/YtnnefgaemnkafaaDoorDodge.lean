/-
  New lists of steps: what is handed out; dodging and burning. Condition of the program's: its variables hold their own errors.
-/
import Derived.Test.YtnnefgaemnkafaaDoorOwnStepS
import Derived.Test.YtnnefgaemnkafaaDoorSteps
import Derived.Test.YtnnefgaemnkafaaDoorErrs
import Derived.IntWalk
namespace Go.Proofs.YtnnefgaemnkafaaDoor
open Go.RowKit

/-- A new list of steps with a code, with an error. -/
def StpCode (C : Int) (F0 F1 : Nat → Int) (n : Nat) (w : World) (e : Ending) (w' : World) : Prop :=
  ∃ v, e = .returned (.tuple #[v, .int .i64 C]) ∧ Mine w' w.heap.size w'.heap.size 60 2 v (if C = 0 then n else 0) (cellStepS F0 F1) ∧ Below w.heap.size w w'
def StpErr (s : Ers) (C : Int) (F0 F1 : Nat → Int) (n : Nat) (w : World) (e : Ending) (w' : World) : Prop :=
  ∃ v ev, e = .returned (.tuple #[v, ev]) ∧ IsCode s ev C ∧ Mine w' w.heap.size w'.heap.size 60 2 v (if C = 0 then n else 0) (cellStepS F0 F1) ∧ Below w.heap.size w w'
theorem mineSt_no {w : World} {C : Int} {F0 F1 : Nat → Int} {n L U : Nat} {A : Option Addr} {cap : Nat} (h : C ≠ 0) : Mine w L U 60 2 (.slice A 0 cap) (if C = 0 then n else 0) (cellStepS F0 F1) := by
  rw [if_neg h]; exact Mine.nil _ _ _ _ _ _ _ _
theorem codedStp_any {s : Ers} {v : Value} {c : Int} (h : IsCode s v c) (x : Value) (w : World) (hE : ErrEnv s w) :
    Calls Tryd.prog 38 #[x, v] w fun e w' => e = .returned (.tuple #[x, .int .i64 c]) ∧ w = w' := by
  go_enter Tryd.func38, Tryd.ntmps38
  go_wp2_with fail
  refine (codeOf_any h _ hE).mono ?_; rintro e w1 ⟨rfl, rfl⟩
  go_wp2_with fail
  go_ret2
  exact ⟨rfl, rfl⟩

/-- Two numbers. -/
def two (a b : Int) (j : Nat) : Int := if j = 0 then a else b
theorem mineSt_two (w : World) (a b c d : Int) (L : Nat) (hL : L ≤ w.heap.size) : Mine (w.alloc (.cells #[.int .u64 a, .int .i8 b, .int .u64 c, .int .i8 d] 60)) L (w.heap.size + 1) 60 2 (.slice (some ⟨w.heap.size, 0, none⟩) 2 2) 2 (cellStepS (two a c) (two b d)) := by
  refine ⟨_, 2, rfl, .inr ⟨w.heap.size, 4, cellStepS (two a c) (two b d), rfl, hL, by omega, by omega, World.rowIs_alloc w _ _ _ fun i hi => ?_, fun j _ => rfl⟩⟩
  have h4 : i = 0 ∨ i = 1 ∨ i = 2 ∨ i = 3 := by simp at hi; omega
  rcases h4 with rfl | rfl | rfl | rfl <;> rfl

theorem stepOf_any (m t : Int) (h0 : 0 ≤ t) (h1 : t ≤ 36) (w : World) :
    Calls Tryd.prog 63 #[.int .u64 m, .int .i64 t] w fun e w' => e = .returned (.agg #[.int .u64 m, .int .i8 t]) ∧ Below w.heap.size w w' := by
  have i1 : IntKind.i8.wrap t = t := IntWalk.i8_in _ (by omega)
  go_enter Tryd.func63, Tryd.ntmps63
  go_wp2_with fail
  refine bodyPost_ret (v := .agg #[.int .u64 m, .int .i8 t]) (by simp [results, Tryd.results63, go_sem]) rfl ⟨rfl, ?_⟩
  repeat (first | exact Below.refl _ _ | assumption | (refine Below.alloc ?_ (by first | omega | (simp; done) | (simp; omega)) _) | (refine Below.setCell ?_ (by first | omega | (simp; done) | (simp; omega)) _))

/-- The other bits. -/
def notU (m : Int) : Int := bits BinOp.xor IntKind.u64 IntKind.u64.max m

/-- Is there such a list? -/
def dodgeB (t h : Int) : Bool := inB t 0 36 && (inB h 0 36 && decide (h < t))
def dodgeC (t h : Int) : Int := if dodgeB t h = true then 0 else 2

set_option maxRecDepth 100000 in
set_option maxHeartbeats 1000000 in
theorem specDodgeSteps_any (t m h : Int) (w : World) :
    Calls Tryd.prog 10 #[.int .i64 t, .int .u64 m, .int .i64 h] w (StpCode (dodgeC t h) (two (notU m) m) (two t h) 2 w) := by
  have ht := fun W => l03Thirds_any t W
  have hh := fun W => l03Thirds_any h W
  unfold dodgeC dodgeB
  rcases h1 : inB t 0 36 with _ | _
  · rw [h1] at ht
    simp only [Bool.false_and, Bool.false_eq_true, if_false]
    have Ht := Lib.hid ht; clear ht hh h1
    go_enter Tryd.func10, Tryd.ntmps10
    go_wp2_with fail
    refine (Ht.out _).mono ?_; rintro e w1 ⟨rfl, rfl⟩
    go_wp2_with fail
    go_ret2
    exact ⟨_, rfl, mineSt_no (by decide), (Below.refl _ _).alloc (Nat.le_refl _) _⟩
  rw [h1] at ht
  have b1 := inB_true.1 h1
  have Ht := Lib.hid ht; clear ht h1
  rcases h2 : inB h 0 36 with _ | _
  · rw [h2] at hh
    simp only [Bool.false_and, Bool.true_and, Bool.false_eq_true, if_false]
    have Hh := Lib.hid hh; clear hh h2
    go_enter Tryd.func10, Tryd.ntmps10
    go_wp2_with fail
    refine (Ht.out _).mono ?_; rintro e w1 ⟨rfl, rfl⟩
    go_wp2_with fail
    refine (Hh.out _).mono ?_; rintro e w1 ⟨rfl, rfl⟩
    go_wp2_with fail
    go_ret2
    exact ⟨_, rfl, mineSt_no (by decide), (Below.refl _ _).alloc (Nat.le_refl _) _⟩
  rw [h2] at hh
  have b2 := inB_true.1 h2
  have Hh := Lib.hid hh; clear hh h2
  by_cases h3 : h < t
  rotate_left
  · rw [decide_eq_false h3]
    simp only [Bool.and_false, Bool.true_and, Bool.false_eq_true, if_false]
    have h4 : t ≤ h := by omega
    clear h3
    go_enter Tryd.func10, Tryd.ntmps10
    go_wp2_with fail
    refine (Ht.out _).mono ?_; rintro e w1 ⟨rfl, rfl⟩
    go_wp2_with fail
    refine (Hh.out _).mono ?_; rintro e w1 ⟨rfl, rfl⟩
    go_wp2_with fail
    go_ret2
    exact ⟨_, rfl, mineSt_no (by decide), (Below.refl _ _).alloc (Nat.le_refl _) _⟩
  · rw [decide_eq_true h3]
    have h4 : ¬ t ≤ h := by omega
    simp only [Bool.and_self, Bool.true_and, if_true]
    have i1 : IntKind.i8.wrap t = t := IntWalk.i8_in _ (by omega)
    have i2 : IntKind.i8.wrap h = h := IntWalk.i8_in _ (by omega)
    go_enter Tryd.func10, Tryd.ntmps10
    go_wp2_with fail
    refine (Ht.out _).mono ?_; rintro e w1 ⟨rfl, rfl⟩
    go_wp2_with fail
    refine (Hh.out _).mono ?_; rintro e w1 ⟨rfl, rfl⟩
    go_wp2_with fail
    go_ret2
    refine ⟨_, rfl, ?_, (Below.refl _ _).alloc (Nat.le_refl _) _⟩
    rw [if_pos rfl, World.size_alloc]
    exact mineSt_two w (notU m) t m _ _ (Nat.le_refl _)

set_option maxRecDepth 100000 in
set_option maxHeartbeats 1000000 in
theorem dodgeSteps_any (s : Ers) (t m h : Int) (w : World) (hE : ErrEnv s w) :
    Calls Tryd.prog 39 #[.int .i64 t, .int .u64 m, .int .i64 h] w (StpErr s (dodgeC t h) (two (notU m) m) (two t h) 2 w) := by
  have ht := fun W => isLight_any t W
  have hh := fun W => isLight_any h W
  have ce := hE.c_erange
  unfold dodgeC dodgeB
  rcases h1 : inB t 0 36 with _ | _
  · rw [h1] at ht
    simp only [Bool.false_and, Bool.false_eq_true, if_false]
    have Ht := Lib.hid ht; clear ht hh h1
    go_enter Tryd.func39, Tryd.ntmps39
    go_wp2_with fail
    refine (Ht.out _).mono ?_; rintro e w1 ⟨rfl, rfl⟩
    go_wp2_with fail
    go_quiet (fail)
    go_wp2
    go_ret2
    exact ⟨_, _, rfl, .erange, mineSt_no (by decide), below_drewS (Below.refl _ _) _⟩
  rw [h1] at ht
  have b1 := inB_true.1 h1
  have Ht := Lib.hid ht; clear ht h1
  rcases h2 : inB h 0 36 with _ | _
  · rw [h2] at hh
    simp only [Bool.false_and, Bool.true_and, Bool.false_eq_true, if_false]
    have Hh := Lib.hid hh; clear hh h2
    go_enter Tryd.func39, Tryd.ntmps39
    go_wp2_with fail
    refine (Ht.out _).mono ?_; rintro e w1 ⟨rfl, rfl⟩
    go_wp2_with fail
    refine (Hh.out _).mono ?_; rintro e w1 ⟨rfl, rfl⟩
    go_wp2_with fail
    go_quiet (fail)
    go_wp2
    go_ret2
    exact ⟨_, _, rfl, .erange, mineSt_no (by decide), below_drewS (Below.refl _ _) _⟩
  rw [h2] at hh
  have b2 := inB_true.1 h2
  have Hh := Lib.hid hh; clear hh h2
  by_cases h3 : h < t
  rotate_left
  · rw [decide_eq_false h3]
    simp only [Bool.and_false, Bool.true_and, Bool.false_eq_true, if_false]
    have h4 : t ≤ h := by omega
    clear h3
    go_enter Tryd.func39, Tryd.ntmps39
    go_wp2_with fail
    refine (Ht.out _).mono ?_; rintro e w1 ⟨rfl, rfl⟩
    go_wp2_with fail
    refine (Hh.out _).mono ?_; rintro e w1 ⟨rfl, rfl⟩
    go_wp2_with fail
    go_quiet (fail)
    go_wp2
    go_ret2
    exact ⟨_, _, rfl, .erange, mineSt_no (by decide), below_drewS (Below.refl _ _) _⟩
  · rw [decide_eq_true h3]
    have h4 : ¬ t ≤ h := by omega
    simp only [Bool.and_self, Bool.true_and, if_true]
    have hs := fun M T W h0 h1 => stepOf_any M T h0 h1 W
    have Hs := Lib.hid hs; clear hs ce
    go_enter Tryd.func39, Tryd.ntmps39
    go_wp2_with fail
    refine (Ht.out _).mono ?_; rintro e w1 ⟨rfl, rfl⟩
    go_wp2_with fail
    refine (Hh.out _).mono ?_; rintro e w1 ⟨rfl, rfl⟩
    go_wp2_with fail
    refine (Hs.out _ _ _ b1.1 b1.2).mono ?_; rintro e w1 ⟨rfl, hb1⟩
    go_wp2_with fail
    refine (Hs.out _ _ _ b2.1 b2.2).mono ?_; rintro e w2 ⟨rfl, hb2⟩
    have k2 := hb1.trans (hb2.mono hb1.size)
    clear hb1 hb2
    go_wp2_with fail
    go_ret2
    refine ⟨_, _, rfl, .ok, ?_, k2.alloc k2.size _⟩
    rw [if_pos rfl, World.size_alloc]
    exact mineSt_two w2 (notU m) t m _ _ k2.size

theorem DodgeSteps_any (s : Ers) (t m h : Int) (w : World) (hE : ErrEnv s w) :
    Calls Tryd.prog 11 #[.int .i64 t, .int .u64 m, .int .i64 h] w (StpCode (dodgeC t h) (two (notU m) m) (two t h) 2 w) := by
  have hm := fun V h' => dodgeSteps_any s t m h V h'
  generalize dodgeC t h = C at *
  generalize two (notU m) m = F0 at *
  generalize two t h = F1 at *
  have Hm := Lib.hid hm; clear hm
  go_enter Tryd.func11, Tryd.ntmps11
  go_wp2_with fail
  refine (Hm.out _ hE).mono ?_; rintro e w1 ⟨v, ev, rfl, hv, hM, hb1⟩
  go_wp2_with fail
  refine (codedStp_any hv _ _ (hE.below hb1 (Nat.le_refl _))).mono ?_; rintro e w2 ⟨rfl, rfl⟩
  go_wp2_with fail
  go_ret2
  exact ⟨v, rfl, hM, hb1⟩

/-- Is there such a list? -/
def burnB (t h : Int) : Bool := inB t 0 36 && (inB h 0 36)
def burnC (t h : Int) : Int := if burnB t h = true then 0 else 2

set_option maxRecDepth 100000 in
set_option maxHeartbeats 1000000 in
theorem specBurnSteps_any (t m h : Int) (w : World) :
    Calls Tryd.prog 15 #[.int .i64 t, .int .u64 m, .int .i64 h] w (StpCode (burnC t h) (two 18446744073709551615 m) (two t h) 2 w) := by
  have ht := fun W => l03Thirds_any t W
  have hh := fun W => l03Thirds_any h W
  unfold burnC burnB
  rcases h1 : inB t 0 36 with _ | _
  · rw [h1] at ht
    simp only [Bool.false_and, Bool.false_eq_true, if_false]
    have Ht := Lib.hid ht; clear ht hh h1
    go_enter Tryd.func15, Tryd.ntmps15
    go_wp2_with fail
    refine (Ht.out _).mono ?_; rintro e w1 ⟨rfl, rfl⟩
    go_wp2_with fail
    go_ret2
    exact ⟨_, rfl, mineSt_no (by decide), (Below.refl _ _).alloc (Nat.le_refl _) _⟩
  rw [h1] at ht
  have b1 := inB_true.1 h1
  have Ht := Lib.hid ht; clear ht h1
  rcases h2 : inB h 0 36 with _ | _
  · rw [h2] at hh
    simp only [Bool.false_and, Bool.true_and, Bool.false_eq_true, if_false]
    have Hh := Lib.hid hh; clear hh h2
    go_enter Tryd.func15, Tryd.ntmps15
    go_wp2_with fail
    refine (Ht.out _).mono ?_; rintro e w1 ⟨rfl, rfl⟩
    go_wp2_with fail
    refine (Hh.out _).mono ?_; rintro e w1 ⟨rfl, rfl⟩
    go_wp2_with fail
    go_ret2
    exact ⟨_, rfl, mineSt_no (by decide), (Below.refl _ _).alloc (Nat.le_refl _) _⟩
  rw [h2] at hh
  have b2 := inB_true.1 h2
  have Hh := Lib.hid hh; clear hh h2
  · simp only [Bool.and_self, Bool.true_and, if_true]
    have i1 : IntKind.i8.wrap t = t := IntWalk.i8_in _ (by omega)
    have i2 : IntKind.i8.wrap h = h := IntWalk.i8_in _ (by omega)
    go_enter Tryd.func15, Tryd.ntmps15
    go_wp2_with fail
    refine (Ht.out _).mono ?_; rintro e w1 ⟨rfl, rfl⟩
    go_wp2_with fail
    refine (Hh.out _).mono ?_; rintro e w1 ⟨rfl, rfl⟩
    go_wp2_with fail
    go_ret2
    refine ⟨_, rfl, ?_, (Below.refl _ _).alloc (Nat.le_refl _) _⟩
    rw [if_pos rfl, World.size_alloc]
    exact mineSt_two w 18446744073709551615 t m _ _ (Nat.le_refl _)

set_option maxRecDepth 100000 in
set_option maxHeartbeats 1000000 in
theorem burnSteps_any (s : Ers) (t m h : Int) (w : World) (hE : ErrEnv s w) :
    Calls Tryd.prog 41 #[.int .i64 t, .int .u64 m, .int .i64 h] w (StpErr s (burnC t h) (two 18446744073709551615 m) (two t h) 2 w) := by
  have ht := fun W => isLight_any t W
  have hh := fun W => isLight_any h W
  have ce := hE.c_erange
  unfold burnC burnB
  rcases h1 : inB t 0 36 with _ | _
  · rw [h1] at ht
    simp only [Bool.false_and, Bool.false_eq_true, if_false]
    have Ht := Lib.hid ht; clear ht hh h1
    go_enter Tryd.func41, Tryd.ntmps41
    go_wp2_with fail
    refine (Ht.out _).mono ?_; rintro e w1 ⟨rfl, rfl⟩
    go_wp2_with fail
    go_quiet (fail)
    go_wp2
    go_ret2
    exact ⟨_, _, rfl, .erange, mineSt_no (by decide), below_drewS (Below.refl _ _) _⟩
  rw [h1] at ht
  have b1 := inB_true.1 h1
  have Ht := Lib.hid ht; clear ht h1
  rcases h2 : inB h 0 36 with _ | _
  · rw [h2] at hh
    simp only [Bool.false_and, Bool.true_and, Bool.false_eq_true, if_false]
    have Hh := Lib.hid hh; clear hh h2
    go_enter Tryd.func41, Tryd.ntmps41
    go_wp2_with fail
    refine (Ht.out _).mono ?_; rintro e w1 ⟨rfl, rfl⟩
    go_wp2_with fail
    refine (Hh.out _).mono ?_; rintro e w1 ⟨rfl, rfl⟩
    go_wp2_with fail
    go_quiet (fail)
    go_wp2
    go_ret2
    exact ⟨_, _, rfl, .erange, mineSt_no (by decide), below_drewS (Below.refl _ _) _⟩
  rw [h2] at hh
  have b2 := inB_true.1 h2
  have Hh := Lib.hid hh; clear hh h2
  · simp only [Bool.and_self, Bool.true_and, if_true]
    have hs := fun M T W h0 h1 => stepOf_any M T h0 h1 W
    have Hs := Lib.hid hs; clear hs ce
    go_enter Tryd.func41, Tryd.ntmps41
    go_wp2_with fail
    refine (Ht.out _).mono ?_; rintro e w1 ⟨rfl, rfl⟩
    go_wp2_with fail
    refine (Hh.out _).mono ?_; rintro e w1 ⟨rfl, rfl⟩
    go_wp2_with fail
    refine (Hs.out _ _ _ b1.1 b1.2).mono ?_; rintro e w1 ⟨rfl, hb1⟩
    go_wp2_with fail
    refine (Hs.out _ _ _ b2.1 b2.2).mono ?_; rintro e w2 ⟨rfl, hb2⟩
    have k2 := hb1.trans (hb2.mono hb1.size)
    clear hb1 hb2
    go_wp2_with fail
    go_ret2
    refine ⟨_, _, rfl, .ok, ?_, k2.alloc k2.size _⟩
    rw [if_pos rfl, World.size_alloc]
    exact mineSt_two w2 18446744073709551615 t m _ _ k2.size

theorem BurnSteps_any (s : Ers) (t m h : Int) (w : World) (hE : ErrEnv s w) :
    Calls Tryd.prog 16 #[.int .i64 t, .int .u64 m, .int .i64 h] w (StpCode (burnC t h) (two 18446744073709551615 m) (two t h) 2 w) := by
  have hm := fun V h' => burnSteps_any s t m h V h'
  generalize burnC t h = C at *
  generalize two 18446744073709551615 m = F0 at *
  generalize two t h = F1 at *
  have Hm := Lib.hid hm; clear hm
  go_enter Tryd.func16, Tryd.ntmps16
  go_wp2_with fail
  refine (Hm.out _ hE).mono ?_; rintro e w1 ⟨v, ev, rfl, hv, hM, hb1⟩
  go_wp2_with fail
  refine (codedStp_any hv _ _ (hE.below hb1 (Nat.le_refl _))).mono ?_; rintro e w2 ⟨rfl, rfl⟩
  go_wp2_with fail
  go_ret2
  exact ⟨v, rfl, hM, hb1⟩
end Go.Proofs.YtnnefgaemnkafaaDoor

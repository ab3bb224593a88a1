/-
  The steepest part of a curve: plain arithmetic, the greatest common divisor, what the reference returns. Condition: at most 1048576 points.
-/
import Derived.Test.YtnlcjbobfhmnmabDoorValidC
import Derived.Test.YtnlcjbobfhmnmabDoorPlainAt
import Derived.Test.YtnlcjbobfhmnmabDoorCurA
namespace Go.Proofs.YtnlcjbobfhmnmabDoor
open Go.RowKit

/-- Is part k steeper than part i? -/
def stMore (xs ys : Nat → Int) (k i : Nat) : Bool := decide ((ys (i + 1) - ys i) * (xs (k + 1) - xs k) < (ys (k + 1) - ys k) * (xs (i + 1) - xs i))
/-- The steepest of some parts, one after the other. -/
def stL (xs ys : Nat → Int) {m : Nat} (l : List (Fin m)) : Nat := l.foldl (fun i x => if stMore xs ys x.1 i = true then x.1 else i) 0
theorem stL_nil (xs ys : Nat → Int) (m : Nat) : stL xs ys ([] : List (Fin m)) = 0 := rfl
theorem stL_snoc (xs ys : Nat → Int) {m : Nat} (l : List (Fin m)) (x : Fin m) : stL xs ys (l ++ [x]) = if stMore xs ys x.1 (stL xs ys l) = true then x.1 else stL xs ys l := by
  unfold stL
  rw [List.foldl_append]
  rfl
theorem stL_from (xs ys : Nat → Int) {m : Nat} : ∀ (l : List (Fin m)) (i : Nat), i < m → l.foldl (fun i x => if stMore xs ys x.1 i = true then x.1 else i) i < m
  | [], i, h => h
  | x :: l, i, h => by
    simp only [List.foldl_cons]
    exact stL_from xs ys l _ (by split; exact x.2; exact h)
theorem stL_lt (xs ys : Nat → Int) {m : Nat} (hm : 0 < m) (l : List (Fin m)) : stL xs ys l < m := stL_from xs ys l 0 hm
theorem stL_one (xs ys : Nat → Int) {m : Nat} (hm : 0 < m) : stL xs ys (fins m 1) = 0 := by
  rw [fins_succ hm, fins_zero, stL_snoc, stL_nil]
  split <;> rfl
theorem stL_step (xs ys : Nat → Int) {m k : Nat} (h : k < m) : stL xs ys (fins m (k + 1)) = if stMore xs ys k (stL xs ys (fins m k)) = true then k else stL xs ys (fins m k) := by
  rw [fins_succ h, stL_snoc]
/-- Its index, how much it rises, how far it runs. -/
def stA (n : Nat) (xs ys : Nat → Int) : Nat := stL xs ys (List.finRange (n - 1))
def stP (n : Nat) (xs ys : Nat → Int) : Nat := (ys (stA n xs ys + 1) - ys (stA n xs ys)).toNat
def stQ (n : Nat) (xs ys : Nat → Int) : Nat := (xs (stA n xs ys + 1) - xs (stA n xs ys)).toNat
def stG (n : Nat) (xs ys : Nat → Int) : Nat := Nat.gcd (stP n xs ys) (stQ n xs ys)
def stC (n : Nat) (xs ys : Nat → Int) : Int := if validC n xs ys = true then (if n = 1 then 6 else 0) else 1
theorem st_1 {n : Nat} {xs ys : Nat → Int} (h : validC n xs ys = false) : stC n xs ys = 1 := by simp [stC, h]
theorem st_6 {n : Nat} {xs ys : Nat → Int} (h : validC n xs ys = true) (h2 : n = 1) : stC n xs ys = 6 := by
  unfold stC
  rw [if_pos h, if_pos h2]
theorem st_0 {n : Nat} {xs ys : Nat → Int} (h : validC n xs ys = true) (h2 : n ≠ 1) : stC n xs ys = 0 := by simp [stC, h, h2]
theorem st_facts {n : Nat} {xs ys : Nat → Int} (c : Crv n xs ys) (h : 1 < n) : stA n xs ys < n - 1 ∧ ys (stA n xs ys + 1) - ys (stA n xs ys) = (stP n xs ys : Int) ∧ xs (stA n xs ys + 1) - xs (stA n xs ys) = (stQ n xs ys : Int) ∧ stP n xs ys ≤ 400 ∧ stQ n xs ys ≤ 400 ∧ 0 < stQ n xs ys := by
  have hA : stA n xs ys < n - 1 := stL_lt xs ys (by omega) _
  have h0 := c.scale (stA n xs ys) (by omega)
  have h1 := c.scale (stA n xs ys + 1) (by omega)
  have hr := c.rise (stA n xs ys) (by omega)
  unfold stP stQ
  omega

theorem gcd_next (a b : Nat) : Nat.gcd b (a % b) = Nat.gcd a b := by rw [Nat.gcd_comm b (a % b), ← Nat.gcd_rec, Nat.gcd_comm]
set_option maxHeartbeats 1000000 in
theorem l02Gcd_any (b : Nat) : ∀ a : Nat, a ≤ 1000 → b ≤ 1000 → ∀ w : World, Calls Tryd.prog 10 #[.int .i64 a, .int .i64 b] w fun e w' => e = .returned (.int .i64 (Nat.gcd a b : Nat)) ∧ w = w' := by
  induction b using Nat.strongRecOn with
  | ind b ih =>
    intro a ha hb w
    by_cases h0 : b = 0
    · subst h0
      go_enter Tryd.func10, Tryd.ntmps10
      go_wp2
      go_ret
      exact ⟨by simp, rfl⟩
    · obtain ⟨R, hR⟩ : ∃ R, R = a % b := ⟨_, rfl⟩
      have hlt : R < b := by rw [hR]; exact Nat.mod_lt _ (by omega)
      have hih := ih R hlt b hb (by omega)
      rw [hR, gcd_next a b, ← hR] at hih
      have t0 : Int.tmod (a : Int) (b : Int) = (R : Int) := by rw [hR]; rfl
      have t1 : (a : Int) % (b : Int) = (R : Int) := by rw [hR]; rfl
      have hb0 : ¬ (b : Int) = 0 := by omega
      generalize Nat.gcd a b = G at hih ⊢
      have Hih := Lib.hid hih; clear hih
      clear ih hR
      go_enter Tryd.func10, Tryd.ntmps10
      go_wp2_with fail
      refine (Hih.out _).mono ?_; rintro e w1 ⟨rfl, rfl⟩
      go_wp2_with fail
      go_ret
      exact ⟨rfl, rfl⟩
set_option maxHeartbeats 1000000 in
theorem commonDivisor_any (a b : Nat) (ha : a ≤ 1000) (hb : b ≤ 1000) (w : World) : Calls Tryd.prog 19 #[.int .i64 a, .int .i64 b] w fun e w' => e = .returned (.int .i64 (Nat.gcd a b : Nat)) ∧ Below w.heap.size w w' := by
  go_enter Tryd.func19, Tryd.ntmps19
  go_wp2
  go_loopw [0, 1] (fun x y wr => ∃ A B : Nat, x = .int .i64 A ∧ y = .int .i64 B ∧ A ≤ 1000 ∧ B ≤ 1000 ∧ Nat.gcd A B = Nat.gcd a b ∧ Below w.heap.size w wr) (fun _ y _ => (intOf y).toNat)
  case atStart => exact ⟨a, b, rfl, rfl, ha, hb, rfl, Below.refl _ _⟩
  case round =>
    obtain ⟨A, B, rfl, rfl, hA, hB, hg, hw⟩ := hrel
    have Hg := Lib.hid hg; clear hg
    by_cases h0 : B = 0
    · subst h0
      go_wp2
      go_ret
      exact ⟨ret_int (by have := Hg.out; simp at this; rw [this]), hw⟩
    · obtain ⟨R, hR⟩ : ∃ R, R = A % B := ⟨_, rfl⟩
      have hlt : R < B := by rw [hR]; exact Nat.mod_lt _ (by omega)
      have t0 : Int.tmod (A : Int) (B : Int) = (R : Int) := by rw [hR]; rfl
      have t1 : (A : Int) % (B : Int) = (R : Int) := by rw [hR]; rfl
      have t2 : IntKind.i64.wrap (R : Int) = R := IntWalk.i64_in _ (by omega)
      have hb0 : ¬ (B : Int) = 0 := by omega
      have HR := Lib.hid hR; clear hR
      go_wp2
      go_quiet (fail)
      go_wp2
      go_roundw
      case rel => exact ⟨B, R, rfl, rfl, hB, by omega, by rw [HR.out, gcd_next]; exact Hg.out, below_drewL hw _⟩
      case measure => simp [intOf]; omega
end Go.Proofs.YtnlcjbobfhmnmabDoor

/-
  The sum of several times: what the program's and the reference's functions return, for every list of at most 1048576 numbers. Condition of the program's: its table of times holds its three numbers, its variables their own errors.
-/
import Derived.Test.YtmjoccgdpchjbaaDoorTimes2
import Derived.Test.YtmjoccgdpchjbaaDoorInts
namespace Go.Proofs.YtmjoccgdpchjbaaDoor
open Go.RowKit

theorem IsCode.zero {s : Ers} {v : Value} {c : Int} (h : IsCode s v c) (hc : c = 0) : v = .nilIface := by
  cases h <;> simp at hc ⊢
theorem IsCode.two {s : Ers} {v : Value} {c : Int} (h : IsCode s v c) (hc : c = 2) : v = errV s.erange := by
  cases h <;> simp at hc ⊢

def allIn (lo hi : Int) (xs : Nat → Int) : Nat → Bool
  | 0 => true
  | k + 1 => allIn lo hi xs k && inB (xs k) lo hi
def sumT (xs : Nat → Int) : Nat → Int
  | 0 => 0
  | k + 1 => sumT xs k + tm (xs k)
theorem allIn_mono {lo hi : Int} {xs : Nat → Int} {k n : Nat} (h : k ≤ n) (hf : allIn lo hi xs k = false) : allIn lo hi xs n = false := by
  induction n with
  | zero => obtain rfl : k = 0 := by omega
            exact hf
  | succ n ih =>
    rcases Nat.lt_or_ge n k with h1 | h1
    · obtain rfl : k = n + 1 := by omega
      exact hf
    · simp [allIn, ih h1]
theorem sumT_bd {xs : Nat → Int} : ∀ (k : Nat), allIn 0 36 xs k = true → 0 ≤ sumT xs k ∧ sumT xs k ≤ 5160960 * k
  | 0, _ => ⟨by simp [sumT], by simp [sumT]⟩
  | k + 1, h => by
    simp only [allIn, Bool.and_eq_true] at h
    have h1 := sumT_bd k h.1
    have h2 := inB_true.1 h.2
    have h3 := tm_bd (xs k) h2.1 (by omega)
    simp only [sumT]
    constructor
    · omega
    · have : ((k + 1 : Nat) : Int) = k + 1 := by omega
      rw [this]; omega
def tsOk (n : Nat) (xs : Nat → Int) : Bool := decide (n ≤ 100) && allIn 0 36 xs n
def tsR (n : Nat) (xs : Nat → Int) : Int := if tsOk n xs = true then sumT xs n else 0
def tsC (n : Nat) (xs : Nat → Int) : Int := if tsOk n xs = true then 0 else 2
theorem ts_no {n : Nat} {xs : Nat → Int} (h : tsOk n xs = false) : tsR n xs = 0 ∧ tsC n xs = 2 := by simp [tsR, tsC, h]
theorem ts_yes {n : Nat} {xs : Nat → Int} (h : tsOk n xs = true) : tsR n xs = sumT xs n ∧ tsC n xs = 0 := by simp [tsR, tsC, h]

theorem errNe (a : Addr) (w : World) : (binOp .neq 69 (errV a) .nilIface).run Tryd.prog w = .ok (.bool true) w := by kernel_rfl
theorem nilNe (w : World) : (binOp .neq 69 .nilIface .nilIface).run Tryd.prog w = .ok (.bool false) w := by kernel_rfl

end Go.Proofs.YtmjoccgdpchjbaaDoor

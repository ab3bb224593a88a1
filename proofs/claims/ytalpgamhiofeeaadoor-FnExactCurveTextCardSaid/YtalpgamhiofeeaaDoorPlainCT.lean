/-
  Texts of curves, as lists of bytes: word by word, and joined. No condition.
-/
import Derived.Test.YtalpgamhiofeeaaDoorTexts
import Derived.Test.YtalpgamhiofeeaaDoorPlainCurves
import Derived.Lib.ItoaNum
import Derived.Lib.Join
namespace Go.Proofs.YtalpgamhiofeeaaDoor
open Go.RowKit

theorem decN_decC (n : Nat) : Lib.decDigits n = decN n := by
  induction n using Nat.strongRecOn with
  | _ n ih =>
    by_cases h : n < 10
    · rw [decN_lo h, Lib.decDigits, dif_pos h]
    · rw [decN_hi (by omega), Lib.decDigits, dif_neg h, ih (n / 10) (by omega)]
/-- A number with its sign. -/
def sgT (x : Int) : List UInt8 := if x < 0 then 45 :: decI (-x) else decI x
theorem sgT_neg {x : Int} (h : x < 0) : sgT x = 45 :: decI (-x) := by simp [sgT, h]
theorem sgT_pos {x : Int} (h : 0 ≤ x) : sgT x = decI x := by simp [sgT, show ¬ x < 0 by omega]
theorem itoa_sgT (x : Int) : Lib.itoa x = sgT x := by
  unfold Lib.itoa sgT decI
  rw [decN_decC, decN_decC]
  by_cases h : x < 0
  · rw [if_pos h, if_pos h, show x.natAbs = (-x).toNat by omega]
  · rw [if_neg h, if_neg h]
def cwT (xs ys : Nat → Int) (k : Nat) : List UInt8 := sgT (xs k) ++ 58 :: decI (ys k)
def ctxT (xs ys : Nat → Int) : Nat → List UInt8
  | 0 => []
  | k + 1 => if k = 0 then cwT xs ys 0 else ctxT xs ys k ++ 32 :: cwT xs ys k
theorem ctxT_one (xs ys : Nat → Int) : ctxT xs ys 1 = cwT xs ys 0 := rfl
theorem ctxT_next (xs ys : Nat → Int) {k : Nat} (h : 0 < k) : ctxT xs ys (k + 1) = ctxT xs ys k ++ 32 :: cwT xs ys k := by
  rw [ctxT, if_neg (by omega)]
theorem join_snoc (sep : List UInt8) (l : List (List UInt8)) (x : List UInt8) (h : l ≠ []) : Lib.join (l ++ [x]) sep = Lib.join l sep ++ sep ++ x := by
  cases l with
  | nil => exact absurd rfl h
  | cons a r =>
    rw [List.cons_append, Lib.join_cons, Lib.join_cons]
    simp [Lib.joinTail, List.append_assoc]
/-- The words. -/
def cwsT (xs ys : Nat → Int) (n : Nat) : List (List UInt8) := (List.range n).map (cwT xs ys)
theorem cwsT_succ (xs ys : Nat → Int) (n : Nat) : cwsT xs ys (n + 1) = cwsT xs ys n ++ [cwT xs ys n] := by
  simp [cwsT, List.range_succ]
theorem cwsT_len (xs ys : Nat → Int) (n : Nat) : (cwsT xs ys n).length = n := by simp [cwsT]
theorem join_ctx (xs ys : Nat → Int) : ∀ n, Lib.join (cwsT xs ys n) [32] = ctxT xs ys n
  | 0 => rfl
  | n + 1 => by
    rw [cwsT_succ]
    by_cases h : n = 0
    · subst h
      rw [show cwsT xs ys 0 = [] from rfl, List.nil_append, Lib.join_one]; rfl
    · rw [join_snoc _ _ _ (fun e => h (by have := congrArg List.length e; rw [cwsT_len] at this; simpa using this)), join_ctx xs ys n, ctxT_next _ _ (by omega)]
      simp
theorem sgT_len {x : Int} (h : -1000000 ≤ x) (h' : x ≤ 1000000) : (sgT x).length ≤ 20 := by
  unfold sgT
  split
  · have : (decI (-x)).length ≤ 19 := decN_le _ (by omega)
    simp; omega
  · have : (decI x).length ≤ 19 := decN_le _ (by omega)
    omega
theorem cwT_len {n : Nat} {xs ys : Nat → Int} (c : Crv n xs ys) {k : Nat} (hk : k < n) : (cwT xs ys k).length ≤ 40 := by
  have h := c.scale k hk
  have h1 := sgT_len (x := xs k) (by omega) (by omega)
  have h2 : (decI (ys k)).length ≤ 19 := decN_le _ (by omega)
  simp [cwT]; omega
theorem ctxT_len {n : Nat} {xs ys : Nat → Int} (c : Crv n xs ys) : ∀ k, k ≤ n → (ctxT xs ys k).length ≤ 41 * k
  | 0, _ => by simp [ctxT]
  | k + 1, h => by
    have h1 := cwT_len c (k := k) (by omega)
    have h2 := ctxT_len c k (by omega)
    rw [ctxT]
    split
    · subst_vars; omega
    · simp; omega
/-- The text of a curve; none if it is not valid. -/
def crvT (n : Nat) (xs ys : Nat → Int) : List UInt8 := if validC n xs ys = true then ctxT xs ys n else []
theorem crvT_no {n : Nat} {xs ys : Nat → Int} (h : validC n xs ys = false) : crvT n xs ys = [] := by simp [crvT, h]
theorem crvT_yes {n : Nat} {xs ys : Nat → Int} (h : validC n xs ys = true) : crvT n xs ys = ctxT xs ys n := by simp [crvT, h]
end Go.Proofs.YtalpgamhiofeeaaDoor

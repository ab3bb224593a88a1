/-
  Plain texts: splitting at a byte, cutting at a byte, numbers in decimal. Imports nothing of the program.
-/
import Derived.IntWalk
import Derived.RowKit
import Derived.Lib.Bytealg
import Derived.Test.YtnlcjbobfhmnmabGreatDoorNames
import Derived.Deep.RegionWith
namespace Go.Proofs.YtnlcjbobfhmnmabGreatDoor
open Go.RowKit

/-! ### SPLITTING -/
def spStep (c0 : UInt8) (a : List (List UInt8) × List UInt8) (c : UInt8) : List (List UInt8) × List UInt8 := if c = c0 then (a.1 ++ [a.2], []) else (a.1, a.2 ++ [c])
/-- The words that have ended, and the one that has not. -/
def spTo (c0 : UInt8) (l : List UInt8) : List (List UInt8) × List UInt8 := l.foldl (spStep c0) ([], [])
def splitL (c0 : UInt8) (l : List UInt8) : List (List UInt8) := (spTo c0 l).1 ++ [(spTo c0 l).2]
theorem spTo_nil (c0 : UInt8) : spTo c0 [] = ([], []) := rfl
theorem spTo_snoc (c0 : UInt8) (l : List UInt8) (c : UInt8) : spTo c0 (l ++ [c]) = spStep c0 (spTo c0 l) c := by simp [spTo]
theorem spTo_acc (c0 : UInt8) : ∀ (r : List UInt8) (W : List (List UInt8)) (cur : List UInt8), r.foldl (spStep c0) (W, cur) = (W ++ (r.foldl (spStep c0) ([], cur)).1, (r.foldl (spStep c0) ([], cur)).2)
  | [], W, cur => by simp
  | c :: r, W, cur => by
    simp only [List.foldl_cons]
    by_cases h : c = c0
    · have e1 : spStep c0 (W, cur) c = (W ++ [cur], []) := by simp [spStep, h]
      have e2 : spStep c0 ([], cur) c = ([cur], []) := by simp [spStep, h]
      rw [e1, e2, spTo_acc c0 r (W ++ [cur]) [], spTo_acc c0 r [cur] []]
      simp
    · have e1 : spStep c0 (W, cur) c = (W, cur ++ [c]) := by simp [spStep, h]
      have e2 : spStep c0 ([], cur) c = ([], cur ++ [c]) := by simp [spStep, h]
      rw [e1, e2, spTo_acc c0 r W (cur ++ [c])]
theorem sp_none (c0 : UInt8) : ∀ (x : List UInt8) (W : List (List UInt8)) (cur : List UInt8), c0 ∉ x → x.foldl (spStep c0) (W, cur) = (W, cur ++ x)
  | [], W, cur, _ => by simp
  | c :: r, W, cur, h => by
    have h1 : ¬ c = c0 := fun e => h (by simp [e])
    have h2 : c0 ∉ r := fun e => h (List.mem_cons_of_mem _ e)
    have e1 : spStep c0 (W, cur) c = (W, cur ++ [c]) := by simp [spStep, h1]
    rw [List.foldl_cons, e1, sp_none c0 r W (cur ++ [c]) h2]
    simp
theorem split_none {c0 : UInt8} {x : List UInt8} (h : c0 ∉ x) : splitL c0 x = [x] := by
  unfold splitL spTo
  rw [sp_none c0 x [] [] h]
  simp
theorem split_cons {c0 : UInt8} {x : List UInt8} (r : List UInt8) (h : c0 ∉ x) : splitL c0 (x ++ c0 :: r) = x :: splitL c0 r := by
  unfold splitL spTo
  rw [List.foldl_append, sp_none c0 x [] [] h, List.foldl_cons]
  have e1 : spStep c0 ([], [] ++ x) c0 = ([x], []) := by simp [spStep]
  rw [e1, spTo_acc c0 r [x] []]
  simp
theorem split_len (c0 : UInt8) (x : List UInt8) : 1 ≤ (splitL c0 x).length := by unfold splitL; simp
theorem spTo_len (c0 : UInt8) (l : List UInt8) : (spTo c0 l).1.length ≤ l.length := by
  suffices h : ∀ (r : List UInt8) (W : List (List UInt8)) (cur : List UInt8), (r.foldl (spStep c0) (W, cur)).1.length ≤ W.length + r.length by simpa [spTo] using h l [] []
  intro r
  induction r with
  | nil => intro W cur; simp
  | cons c r ih =>
    intro W cur
    rw [List.foldl_cons]
    by_cases h : c = c0
    · have e1 : spStep c0 (W, cur) c = (W ++ [cur], []) := by simp [spStep, h]
      rw [e1]
      have := ih (W ++ [cur]) []
      simp at this ⊢; omega
    · have e1 : spStep c0 (W, cur) c = (W, cur ++ [c]) := by simp [spStep, h]
      rw [e1]
      have := ih W (cur ++ [c])
      simp at this ⊢; omega

/-! ### CUTTING -/
def cutL (c0 : UInt8) : List UInt8 → List UInt8 × List UInt8
  | [] => ([], [])
  | c :: r => if c = c0 then ([], r) else (c :: (cutL c0 r).1, (cutL c0 r).2)
theorem cut_none {c0 : UInt8} : ∀ {l : List UInt8}, c0 ∉ l → cutL c0 l = (l, [])
  | [], _ => rfl
  | c :: r, h => by
    have h1 : ¬ c = c0 := fun e => h (by simp [e])
    rw [cutL, if_neg h1, cut_none (fun e => h (List.mem_cons_of_mem _ e))]
theorem cut_hit {c0 : UInt8} : ∀ {x : List UInt8} (r : List UInt8), c0 ∉ x → cutL c0 (x ++ c0 :: r) = (x, r)
  | [], r, _ => by simp [cutL]
  | c :: x, r, h => by
    have h1 : ¬ c = c0 := fun e => h (by simp [e])
    rw [List.cons_append, cutL, if_neg h1, cut_hit r (fun e => h (List.mem_cons_of_mem _ e))]
theorem idx_cases (c0 : UInt8) : ∀ (l : List UInt8), (Lib.indexByte l c0 = -1 ∧ c0 ∉ l) ∨ ∃ x r, l = x ++ c0 :: r ∧ c0 ∉ x ∧ Lib.indexByte l c0 = x.length
  | [] => .inl ⟨rfl, by simp⟩
  | c :: l => by
    by_cases h : c = c0
    · subst h
      exact .inr ⟨[], l, rfl, by simp, by simp [Lib.indexByte]⟩
    · have hb : (c == c0) = false := by simpa using h
      rcases idx_cases c0 l with ⟨h1, h2⟩ | ⟨x, r, rfl, h2, h3⟩
      · exact .inl ⟨by simp [Lib.indexByte, hb, h1], by simp [h2, Ne.symm h]⟩
      · refine .inr ⟨c :: x, r, rfl, by simp [h2, Ne.symm h], ?_⟩
        have : ¬ ((x.length : Int) = -1) := by omega
        simp [Lib.indexByte, hb, h3, this]

/-! ### NUMBERS -/
def numVal : List UInt8 → Nat := List.foldl (fun n c => 10 * n + (c.toNat - 48)) 0
theorem numVal_snoc (l : List UInt8) (c : UInt8) : numVal (l ++ [c]) = 10 * numVal l + (c.toNat - 48) := by simp [numVal]
def isDig (c : UInt8) : Bool := decide (48 ≤ c.toNat) && decide (c.toNat ≤ 57)
def allDig : List UInt8 → Bool := fun l => l.all isDig
/-- A number of at most nine digits, as it is written. -/
def numOk (l : List UInt8) : Bool := !l.isEmpty && decide (l.length ≤ 9) && !(l.head? == some 48 && decide (1 < l.length)) && allDig l
theorem numVal_lt : ∀ (k : Nat) (l : List UInt8), l.length ≤ k → allDig l = true → numVal l < 10 ^ k
  | 0, l, h, _ => by
    have : l = [] := List.length_eq_zero_iff.1 (by omega)
    subst this; simp [numVal]
  | k + 1, l, h, hd => by
    rcases List.eq_nil_or_concat l with rfl | ⟨p, c, rfl⟩
    · simp [numVal]; exact Nat.pos_of_ne_zero (by simp)
    · rw [List.concat_eq_append] at h hd ⊢
      rw [numVal_snoc]
      simp only [allDig, List.all_append, List.all_cons, List.all_nil, Bool.and_true, Bool.and_eq_true] at hd
      have h1 := numVal_lt k p (by simp at h; omega) hd.1
      have h2 : c.toNat - 48 ≤ 9 := by have := hd.2; simp [isDig] at this; omega
      rw [Nat.pow_succ]; omega
/-- The text of a number in decimal. -/
def decN (n : Nat) : List UInt8 := if n < 10 then [UInt8.ofNat (48 + n)] else decN (n / 10) ++ [UInt8.ofNat (48 + n % 10)]
termination_by n
decreasing_by omega
theorem decN_lo {n : Nat} (h : n < 10) : decN n = [UInt8.ofNat (48 + n)] := by rw [decN, if_pos h]
theorem decN_hi {n : Nat} (h : 10 ≤ n) : decN n = decN (n / 10) ++ [UInt8.ofNat (48 + n % 10)] := by rw [decN, if_neg (by omega)]
def decI (n : Int) : List UInt8 := decN n.toNat
theorem decN_len : ∀ (k n : Nat), n < 10 ^ (k + 1) → (decN n).length ≤ k + 1
  | 0, n, h => by rw [decN_lo (by simpa using h)]; simp
  | k + 1, n, h => by
    by_cases h10 : n < 10
    · rw [decN_lo h10]; simp
    · rw [decN_hi (by omega)]
      have h2 : n / 10 < 10 ^ (k + 1) := by rw [Nat.div_lt_iff_lt_mul (by omega)]; rw [Nat.pow_succ] at h; exact h
      have := decN_len k (n / 10) h2
      simp; omega
theorem decN_le (n : Nat) (h : n < 9223372036854775808) : (decN n).length ≤ 19 := decN_len 18 n (by omega)

theorem dig_back {c : UInt8} (h : isDig c = true) : UInt8.ofNat (48 + (c.toNat - 48)) = c ∧ c.toNat - 48 < 10 := by
  simp [isDig] at h
  refine ⟨?_, by omega⟩
  rw [show 48 + (c.toNat - 48) = c.toNat by omega]
  exact UInt8.ofNat_toNat
theorem head_snoc {p : List UInt8} (c : UInt8) (h : p ≠ []) : (p ++ [c]).head? = p.head? := by
  cases p with
  | nil => exact absurd rfl h
  | cons a t => rfl
/-- Digits that do not begin with a 0: they are the text of their number. -/
theorem dec_num : ∀ (k : Nat) (l : List UInt8), l.length ≤ k → l ≠ [] → allDig l = true → (l.head? ≠ some 48 ∨ l.length = 1) → decN (numVal l) = l ∧ (l.head? ≠ some 48 → 1 ≤ numVal l)
  | 0, l, h, hne, _, _ => absurd (List.length_eq_zero_iff.1 (by omega)) hne
  | k + 1, l, h, hne, hd, h0 => by
    rcases List.eq_nil_or_concat l with rfl | ⟨p, c, rfl⟩
    · exact absurd rfl hne
    · rw [List.concat_eq_append] at h hd h0 ⊢
      simp only [allDig, List.all_append, List.all_cons, List.all_nil, Bool.and_true, Bool.and_eq_true] at hd
      obtain ⟨b1, b2⟩ := dig_back hd.2
      rw [numVal_snoc]
      by_cases hp : p = []
      · subst hp
        rw [show numVal [] = 0 from rfl]
        refine ⟨by rw [decN_lo (by omega), show 48 + (10 * 0 + (c.toNat - 48)) = 48 + (c.toNat - 48) by omega, b1]; rfl, fun hh => ?_⟩
        have hc : ¬ c.toNat = 48 := fun e => hh (by
          have : c = 48 := by rw [← UInt8.toNat_inj]; exact e
          simp [this])
        have := hd.2
        simp [isDig] at this
        omega
      · have hl : 0 < p.length := List.length_pos_iff.2 hp
        rw [head_snoc c hp] at h0 ⊢
        have hh : p.head? ≠ some 48 := by
          rcases h0 with h0 | h0
          · exact h0
          · have h0' : p.length + 1 = 1 := by simpa using h0
            omega
        have h' : p.length + 1 ≤ k + 1 := by simpa using h
        obtain ⟨i1, i2⟩ := dec_num k p (by omega) hp hd.1 (.inl hh)
        have i2 := i2 hh
        refine ⟨?_, fun _ => by omega⟩
        rw [decN_hi (by omega), show (10 * numVal p + (c.toNat - 48)) / 10 = numVal p by omega, i1, show 48 + (10 * numVal p + (c.toNat - 48)) % 10 = 48 + (c.toNat - 48) by omega, b1]
theorem numOk_parts {l : List UInt8} (h : numOk l = true) : l ≠ [] ∧ l.length ≤ 9 ∧ allDig l = true ∧ (l.head? ≠ some 48 ∨ l.length = 1) := by
  simp only [numOk, Bool.and_eq_true, Bool.not_eq_true', List.isEmpty_eq_false_iff, decide_eq_true_eq] at h
  obtain ⟨⟨⟨h1, h2⟩, h3⟩, h4⟩ := h
  refine ⟨h1, h2, h4, ?_⟩
  by_cases hh : l.head? = some 48
  · right
    simp [hh] at h3
    have := List.length_pos_iff.2 h1
    omega
  · exact .inl hh
theorem dec_numOk {l : List UInt8} (h : numOk l = true) : decN (numVal l) = l := by
  obtain ⟨h1, _, h3, h4⟩ := numOk_parts h
  exact (dec_num l.length l (Nat.le_refl _) h1 h3 h4).1
theorem numVal_bd {l : List UInt8} (h : numOk l = true) : numVal l < 1000000000 := by
  obtain ⟨_, h2, h3, _⟩ := numOk_parts h
  have := numVal_lt 9 l h2 h3
  simpa using this
theorem isDig_dec {d : Nat} (h : d < 10) : isDig (UInt8.ofNat (48 + d)) = true ∧ (UInt8.ofNat (48 + d)).toNat - 48 = d := by
  simp [isDig]; omega
/-- The text of a number reads as it. -/
theorem num_dec (n : Nat) : allDig (decN n) = true ∧ numVal (decN n) = n ∧ decN n ≠ [] ∧ ((decN n).head? = some 48 → n = 0) := by
  induction n using Nat.strongRecOn with
  | _ n ih =>
    by_cases h : n < 10
    · rw [decN_lo h]
      obtain ⟨d1, d2⟩ := isDig_dec h
      refine ⟨by rw [allDig, List.all_cons, d1]; rfl, by simp [numVal]; exact d2, by simp, fun hh => ?_⟩
      simp at hh
      have := congrArg UInt8.toNat hh
      simp at this; omega
    · rw [decN_hi (by omega)]
      obtain ⟨i1, i2, i3, i4⟩ := ih (n / 10) (by omega)
      obtain ⟨d1, d2⟩ := isDig_dec (show n % 10 < 10 by omega)
      refine ⟨?_, ?_, by simp, fun hh => ?_⟩
      · simp only [allDig, List.all_append, List.all_cons, List.all_nil, Bool.and_true, Bool.and_eq_true]
        exact ⟨i1, d1⟩
      · rw [numVal_snoc, i2, d2]; omega
      · rw [head_snoc _ i3] at hh
        have := i4 hh; omega
theorem numOk_dec {n : Nat} (h : n < 1000000000) : numOk (decN n) = true := by
  obtain ⟨h1, h2, h3, h4⟩ := num_dec n
  have hl : (decN n).length ≤ 9 := decN_len 8 n (by omega)
  simp only [numOk, Bool.and_eq_true, Bool.not_eq_true', List.isEmpty_eq_false_iff, decide_eq_true_eq]
  refine ⟨⟨⟨h3, hl⟩, ?_⟩, h1⟩
  by_cases hh : (decN n).head? = some 48
  · have : n = 0 := h4 hh
    subst this
    rw [decN_lo (by omega)]; rfl
  · simp [hh]
theorem dec_blank (n : Nat) {c : UInt8} (h : isDig c = false) : c ∉ decN n := by
  have h1 := (num_dec n).1
  intro hm
  have := List.all_eq_true.1 h1 c hm
  rw [h] at this; cases this

/-! ### THE FIRST WITH A NAME -/
def findI (nm : Int → List UInt8) (z : List UInt8) : Nat → Int
  | 0 => -1
  | k + 1 => if findI nm z k = -1 then (if nm k = z then (k : Int) else -1) else findI nm z k
theorem findI_bd (nm : Int → List UInt8) (z : List UInt8) : ∀ k, -1 ≤ findI nm z k ∧ findI nm z k < k
  | 0 => ⟨by simp [findI], by simp [findI]⟩
  | k + 1 => by
    have h := findI_bd nm z k
    unfold findI
    split
    · split <;> omega
    · omega
theorem findI_hit (nm : Int → List UInt8) (z : List UInt8) : ∀ k, findI nm z k ≠ -1 → nm (findI nm z k) = z
  | 0, h => by simp [findI] at h
  | k + 1, h => by
    unfold findI at h ⊢
    split
    · rename_i h1
      split
      · assumption
      · rename_i h2; simp [h1, h2] at h
    · rename_i h1
      exact findI_hit nm z k h1
theorem findI_none (nm : Int → List UInt8) (z : List UInt8) : ∀ k, findI nm z k = -1 → ∀ j : Nat, j < k → nm j ≠ z
  | 0, _, j, hj => by omega
  | k + 1, h, j, hj => by
    unfold findI at h
    split at h
    · rename_i h1
      split at h
      · omega
      · rename_i h2
        by_cases e : j = k
        · subst e; exact h2
        · exact findI_none nm z k h1 j (by omega)
    · exact absurd h (by assumption)
theorem findI_keep (nm : Int → List UInt8) (z : List UInt8) {k : Nat} (h : findI nm z k ≠ -1) : ∀ d, findI nm z (k + d) = findI nm z k
  | 0 => rfl
  | d + 1 => by
    have ih := findI_keep nm z h d
    rw [show k + (d + 1) = (k + d) + 1 from rfl, findI, if_neg (by rw [ih]; exact h), ih]
theorem findI_no (nm : Int → List UInt8) (z : List UInt8) (k : Nat) (h : ∀ j : Nat, j < k → nm j ≠ z) : findI nm z k = -1 := by
  by_cases e : findI nm z k = -1
  · exact e
  · have h1 := findI_hit nm z k e
    have h2 := findI_bd nm z k
    obtain ⟨m, hm⟩ := Int.eq_ofNat_of_zero_le (show 0 ≤ findI nm z k by omega)
    rw [hm] at h1 h2
    exact absurd h1 (h m (by omega))
/-- Among the texts of the first numbers, sought a text: it is there just where it reads as one of them. -/
theorem findI_dec (z : List UInt8) (k : Nat) (hk : k ≤ 1000000000) : findI decI z k = if numOk z = true ∧ numVal z < k then (numVal z : Int) else -1 := by
  by_cases h : numOk z = true ∧ numVal z < k
  · rw [if_pos h]
    have hz : decI (numVal z : Int) = z := by
      show decN ((numVal z : Int)).toNat = z
      rw [Int.toNat_natCast]; exact dec_numOk h.1
    by_cases e : findI decI z k = -1
    · exact absurd hz (findI_none _ _ _ e _ h.2)
    · have h1 := findI_hit _ _ _ e
      have h2 := findI_bd decI z k
      obtain ⟨m, hm⟩ := Int.eq_ofNat_of_zero_le (show 0 ≤ findI decI z k by omega)
      rw [hm] at h1 ⊢
      have h3 : decN m = z := by simpa [decI] using h1
      have h4 := (num_dec m).2.1
      rw [h3] at h4
      rw [h4]
  · rw [if_neg h]
    refine findI_no _ _ _ fun j hj hjz => h ?_
    have h3 : decN j = z := by simpa [decI] using hjz
    have h4 := (num_dec j).2.1
    have h5 := numOk_dec (n := j) (by omega)
    rw [h3] at h4 h5
    exact ⟨h5, by omega⟩

/-! ### THREE WORDS -/
theorem cut3_none {l : List UInt8} {P : List UInt8 → Prop} (h0 : ¬ P []) (hb : ∀ z, P z → (32 : UInt8) ∉ z) (h : (splitL 32 l).length ≠ 3) : ¬ P (cutL 32 (cutL 32 l).2).2 := by
  rcases idx_cases 32 l with ⟨_, h1⟩ | ⟨x, r, rfl, h1, _⟩
  · rw [cut_none h1]; exact h0
  · rw [cut_hit r h1]
    rcases idx_cases 32 r with ⟨_, h2⟩ | ⟨y, z, rfl, h2, _⟩
    · rw [show ((x, r) : List UInt8 × List UInt8).2 = r from rfl, cut_none h2]; exact h0
    · rw [show ((x, y ++ 32 :: z) : List UInt8 × List UInt8).2 = y ++ 32 :: z from rfl, cut_hit z h2]
      rw [split_cons _ h1, split_cons _ h2] at h
      intro hp
      rw [split_none (hb _ hp)] at h
      exact h rfl
theorem cut3_words {l w0 w1 w2 : List UInt8} (h : splitL 32 l = [w0, w1, w2]) : (cutL 32 l).1 = w0 ∧ (cutL 32 (cutL 32 l).2).1 = w1 ∧ (cutL 32 (cutL 32 l).2).2 = w2 := by
  rcases idx_cases 32 l with ⟨_, h1⟩ | ⟨x, r, rfl, h1, _⟩
  · rw [split_none h1] at h; cases h
  · rw [split_cons _ h1] at h
    rcases idx_cases 32 r with ⟨_, h2⟩ | ⟨y, z, rfl, h2, _⟩
    · rw [split_none h2] at h; cases h
    · rw [split_cons _ h2] at h
      rcases idx_cases 32 z with ⟨_, h3⟩ | ⟨u, v, rfl, h3, _⟩
      · rw [split_none h3] at h
        simp only [List.cons.injEq, and_true] at h
        obtain ⟨rfl, rfl, rfl⟩ := h
        rw [cut_hit _ h1]
        refine ⟨rfl, ?_⟩
        rw [show ((x, y ++ 32 :: z) : List UInt8 × List UInt8).2 = y ++ 32 :: z from rfl, cut_hit _ h2]
        exact ⟨rfl, rfl⟩
      · rw [split_cons _ h3] at h
        have := split_len 32 v
        have h4 := congrArg List.length h
        simp only [List.length_cons, List.length_nil] at h4
        omega

/-- A piece of a text. -/
theorem piece_eq (s : ByteArray) (a b : Nat) : (⟨((s.data.toList.take b).drop a).toArray⟩ : ByteArray) = s.extract a b := by
  apply ByteArray.ext
  apply Array.ext'
  rw [Lib.extract_data]
  simp [List.drop_take]
end Go.Proofs.YtnlcjbobfhmnmabGreatDoor

namespace Go.Proofs.YtnlcjbobfhmnmabGreatDoor
open Go.RowKit

/-- One byte as a text, wherever it lies. -/
theorem conv_at (b : UInt8) (d : Int) (hd : d = b.toNat) (g : Nat) (w : World) (hc : w.cell? ⟨g, 0, none⟩ = some (.int .u8 d)) : (convert 22 9 (.slice (some ⟨g, 0, none⟩) 1 1)).run Tryz.prog w = .ok (strV [b]) w := by
  subst hd
  refine run_convert_bytes_back (P := Tryz.prog) w 22 9 5 ⟨g, 0, none⟩ 1 [b] Tryz.underlying22 Tryz.underlying5 Tryz.underlying9 ?_
  intro j hj
  have hj0 : j = 0 := by simp at hj; omega
  subst hj0
  simpa [Addr.add] using hc

end Go.Proofs.YtnlcjbobfhmnmabGreatDoor

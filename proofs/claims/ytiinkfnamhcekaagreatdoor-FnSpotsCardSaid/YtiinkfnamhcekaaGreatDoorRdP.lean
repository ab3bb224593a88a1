/-
  Texts of masks, plainly: which text is that of a mask, and of which; a text without its ends of lines. No condition.
-/
import Derived.Test.YtiinkfnamhcekaaGreatDoorMtx
import Derived.Lib.Replace
namespace Go.Proofs.YtiinkfnamhcekaaGreatDoor
open Go.RowKit

/-! ### A mask of the cells where something holds -/
def mkR (p : Nat → Bool) : BitVec 64 := BitVec.ofNat 64 (maskN p 64)
theorem mkR_bvI (p : Nat → Bool) : bvI (mkR p) = ((maskN p 64 : Nat) : Int) := by
  have := maskN_lt p 64 (Nat.le_refl _)
  unfold bvI mkR
  rw [BitVec.toNat_ofNat]; omega
theorem mkR_bit (p : Nat → Bool) {k : Nat} (hk : k < 64) : (mkR p).getLsbD k = p k := by
  unfold mkR
  rw [BitVec.getLsbD_ofNat, maskN_bit]
  simp [hk]
theorem mkR_ext {p : Nat → Bool} {m : BitVec 64} (h : ∀ k, k < 64 → m.getLsbD k = p k) : m = mkR p := BitVec.eq_of_getLsbD_eq fun i hi => by rw [h i hi, mkR_bit p hi]

/-! ### The text by its places -/
/-- The byte at a place. -/
def chr (m : BitVec 64) (i : Nat) : UInt8 := if i % 9 = 8 then 10 else if m.getLsbD (8 * (i / 9) + i % 9) = true then 35 else 46
theorem chr_cell (m : BitVec 64) (k : Nat) : chr m (k + k / 8) = if m.getLsbD k = true then 35 else 46 := by
  unfold chr
  rw [if_neg (by omega), show 8 * ((k + k / 8) / 9) + (k + k / 8) % 9 = k by omega]
theorem mtx_range (m : BitVec 64) : ∀ k, mtx m k = (List.range (k + k / 8)).map (chr m)
  | 0 => rfl
  | k + 1 => by
    rw [mtx, mtx_range m k]
    by_cases h : k % 8 = 7
    · rw [if_pos h, show k + 1 + (k + 1) / 8 = k + k / 8 + 1 + 1 by omega, List.range_succ, List.range_succ]
      have e : chr m (k + k / 8 + 1) = 10 := by unfold chr; rw [if_pos (by omega)]
      simp [chr_cell, e]
    · rw [if_neg h, show k + 1 + (k + 1) / 8 = k + k / 8 + 1 by omega, List.range_succ]
      simp [chr_cell]
theorem mtx_72 (m : BitVec 64) : (mtx m 64).length = 72 := by rw [mtx_range]; simp
theorem mtx_at (m : BitVec 64) {i : Nat} (h : i < 72) : (mtx m 64)[i]? = some (chr m i) := by rw [mtx_range]; simp [h]
/-- Which cells a text marks. -/
def bitsT (l : List UInt8) (k : Nat) : Bool := l.getD (k + k / 8) 0 == 35
/-- May a text have this byte at this place? -/
def okAt (i : Nat) (b : UInt8) : Prop := if i % 9 = 8 then b = 10 else b = 35 ∨ b = 46
theorem chr_ok (m : BitVec 64) (i : Nat) : okAt i (chr m i) := by
  unfold okAt chr
  by_cases h : i % 9 = 8
  · rw [if_pos h, if_pos h]
  · rw [if_neg h, if_neg h]
    split
    · exact .inl rfl
    · exact .inr rfl
theorem rd_bits {l : List UInt8} {m : BitVec 64} (h : l = mtx m 64) : m = mkR (bitsT l) := mkR_ext fun k hk => by
  unfold bitsT
  rw [h, List.getD_eq_getElem?_getD, mtx_at m (by omega), chr_cell]
  cases m.getLsbD k <;> rfl
theorem rd_mk {l : List UInt8} (h : l.length = 72) (hg : ∀ i b, i < 72 → l[i]? = some b → okAt i b) : l = mtx (mkR (bitsT l)) 64 := by
  apply List.ext_getElem?
  intro i
  by_cases hi : i < 72
  · have e : l[i]? = some (l[i]'(by omega)) := List.getElem?_eq_getElem (by omega)
    have ho := hg i _ hi e
    rw [mtx_at _ hi, e]
    have eb : bitsT l (8 * (i / 9) + i % 9) = (if i % 9 = 8 then bitsT l (8 * (i / 9) + i % 9) else (l[i]'(by omega) == 35)) := by
      split
      · rfl
      · unfold bitsT
        rw [List.getD_eq_getElem?_getD, show 8 * (i / 9) + i % 9 + (8 * (i / 9) + i % 9) / 8 = i by omega, e]
        rfl
    generalize l[i]'(by omega) = b at *
    unfold chr
    unfold okAt at ho
    by_cases h9 : i % 9 = 8
    · rw [if_pos h9] at ho
      rw [if_pos h9, ho]
    · rw [if_neg h9] at ho eb
      rw [if_neg h9, mkR_bit _ (by omega), eb]
      rcases ho with rfl | rfl
      · rfl
      · rfl
  · rw [List.getElem?_eq_none (by omega), List.getElem?_eq_none (by rw [mtx_72]; omega)]
/-- What reading returns. -/
def rdX (l : List UInt8) : Int := if l = mtx (mkR (bitsT l)) 64 then bvI (mkR (bitsT l)) else 0
def rdC (l : List UInt8) : Int := if l = mtx (mkR (bitsT l)) 64 then 0 else 5
theorem rd_yes {l : List UInt8} {m : BitVec 64} (h : l = mtx m 64) : rdX l = bvI m ∧ rdC l = 0 := by
  have e := rd_bits h
  unfold rdX rdC
  rw [← e, if_pos h, if_pos h]
  exact ⟨rfl, rfl⟩
theorem rd_no {l : List UInt8} (h : ∀ m, l ≠ mtx m 64) : rdX l = 0 ∧ rdC l = 5 := by
  unfold rdX rdC
  rw [if_neg (h _), if_neg (h _)]
  exact ⟨rfl, rfl⟩
theorem rd_bad {l : List UInt8} {i : Nat} {b : UInt8} (hi : i < 72) (hb : l[i]? = some b) (h : ¬ okAt i b) : rdX l = 0 ∧ rdC l = 5 := rd_no fun m e => by
  rw [e, mtx_at m hi] at hb
  rw [← Option.some.inj hb] at h
  exact h (chr_ok m i)
theorem rd_len {l : List UInt8} (h : l.length ≠ 72) : rdX l = 0 ∧ rdC l = 5 := rd_no fun m e => h (by rw [e, mtx_72])

/-! ### The ends of lines taken out -/
theorem replaceK_ne (c b : UInt8) (h : b ≠ c) (l : List UInt8) : ∀ k, Lib.replaceK [c] [] k (b :: l) = b :: Lib.replaceK [c] [] k l
  | 0 => rfl
  | k + 1 => by
    have hp : ([c] : List UInt8).isPrefixOf (b :: l) = false := by simp [List.isPrefixOf, Ne.symm h]
    have hix : Lib.index (b :: l) [c] = if Lib.index l [c] == -1 then -1 else Lib.index l [c] + 1 := by rw [Lib.index, hp]; simp
    have hge := Lib.index_ge l [c]
    by_cases hm : Lib.index l [c] = -1
    · rw [hm] at hix
      rw [Lib.replaceK, Lib.replaceK, hix, hm]
      rfl
    · obtain ⟨j, hj⟩ : ∃ j : Nat, Lib.index l [c] = j := ⟨(Lib.index l [c]).toNat, by omega⟩
      have hix' : Lib.index (b :: l) [c] = ((j + 1 : Nat) : Int) := by rw [hix, if_neg (fun e => hm (beq_iff_eq.1 e)), hj]; omega
      rw [Lib.replaceK_hit _ _ _ _ _ hix', Lib.replaceK_hit _ _ _ _ _ hj]
      simp
theorem replaceK_del (c : UInt8) : ∀ l : List UInt8, Lib.replaceK [c] [] (Lib.count l [c]) l = l.filter (· != c)
  | [] => by
    rw [Lib.count_one]; rfl
  | b :: l => by
    by_cases h : b = c
    · subst h
      have hix : Lib.index (b :: l) [b] = ((0 : Nat) : Int) := by rw [Lib.index]; simp [List.isPrefixOf]
      rw [Lib.count_cons_eq, Nat.add_comm, Lib.replaceK_hit _ _ _ _ _ hix]
      simp [replaceK_del b l]
    · rw [Lib.count_cons_ne b c l h, replaceK_ne c b h, replaceK_del c l]
      simp [h]
theorem replaceAll_del (l : List UInt8) : Lib.replaceAll l [10] [] = l.filter (· != 10) := by
  unfold Lib.replaceAll Lib.replace Lib.replaceNum
  rw [if_neg (by decide), if_pos (.inl (by decide))]
  exact replaceK_del 10 l
theorem filter_mtx (m : BitVec 64) : ∀ k, (mtx m k).filter (· != 10) = (List.range k).map fun j => if m.getLsbD j = true then 35 else 46
  | 0 => rfl
  | k + 1 => by
    rw [mtx, List.filter_append, filter_mtx m k, List.range_succ, List.map_append]
    congr 1
    by_cases h : k % 8 = 7
    · rw [if_pos h]
      rcases hb : m.getLsbD k with _ | _ <;> simp [hb]
    · rw [if_neg h]
      rcases hb : m.getLsbD k with _ | _ <;> simp [hb]
/-- Which cells the marks mark. -/
def bitsF (l : List UInt8) (k : Nat) : Bool := l.getD k 0 == 35
theorem rdF_len {l : List UInt8} (h : (l.filter (· != 10)).length ≠ 64) : rdX l = 0 ∧ rdC l = 5 := rd_no fun m e => h (by rw [e, filter_mtx]; simp)
theorem rdF_no {l : List UInt8} (h : l ≠ mtx (mkR (bitsF (l.filter (· != 10)))) 64) : rdX l = 0 ∧ rdC l = 5 := rd_no fun m e => h (by
  have e2 : m = mkR (bitsF (l.filter (· != 10))) := mkR_ext fun k hk => by
    unfold bitsF
    rw [e, filter_mtx, List.getD_eq_getElem?_getD]
    simp only [List.getElem?_map, List.getElem?_range hk, Option.map_some, Option.getD_some]
    cases m.getLsbD k <;> rfl
  rw [← e2]; exact e)
end Go.Proofs.YtiinkfnamhcekaaGreatDoor

/-
  A round of a repair and the number of rounds: what the reference's functions return. No condition.
-/
import Derived.Test.YtmibinfaafhgdaaDoorRnd
import Derived.Test.YtmibinfaafhgdaaDoorSht
namespace Go.Proofs.YtmibinfaafhgdaaDoor
open Go.RowKit

theorem one_bv : bvI 1#64 = 1 := rfl
theorem zero_bv : bvI 0#64 = 0 := rfl
theorem low_bit (X : BitVec 64) : X &&& 1#64 = if X.getLsbD 0 = true then 1#64 else 0#64 := by
  refine BitVec.eq_of_getLsbD_eq fun i hi => ?_
  rw [BitVec.getLsbD_and, BitVec.getLsbD_one]
  by_cases e : i = 0
  · subst e
    rcases X.getLsbD 0 with _ | _ <;> simp
  · rcases X.getLsbD 0 with _ | _ <;> simp [e]

/-! ### A ROUND -/
/-- The sum of the first cells of a mask. -/
def sumB (f : Nat → Int) (a : BitVec 64) : Nat → Int
  | 0 => 0
  | i + 1 => sumB f a i + if a.getLsbD i = true then f i else 0
theorem sumB_bd {f : Nat → Int} (hf : S16 f) (a : BitVec 64) : ∀ i : Nat, i ≤ 64 → -32768 * (i : Int) ≤ sumB f a i ∧ sumB f a i ≤ 32768 * (i : Int)
  | 0, _ => by simp [sumB]
  | i + 1, h => by
    have h1 := sumB_bd hf a i (by omega)
    have h2 := hf i (by omega)
    unfold sumB
    split <;> omega
/-- The mean of the neighbours that a mask does not hold, as a number of 16 bits. -/
def mnV (f : Nat → Int) (m : BitVec 64) (k : Nat) : Int := IntKind.i16.wrap ((sumB f (aroB m k) 64).tdiv ((cntB (aroB m k) 64 : Nat) : Int))
/-- Cells after a round, as far as cell k. -/
def nwF (f : Nat → Int) (m : BitVec 64) (k : Nat) (c : Nat) : Int := if c < k ∧ (rimB m).getLsbD c = true then mnV f m c else f c
theorem nwF_yes {f : Nat → Int} {m : BitVec 64} {k : Nat} (h : (rimB m).getLsbD k = true) (j : Nat) : upd (nwF f m k) k (mnV f m k) j = nwF f m (k + 1) j := by
  unfold upd nwF
  by_cases e : j = k
  · subst e; simp [h]
  · have : (j < k + 1) = (j < k) := by simp; omega
    rw [if_neg e]; simp only [this]
theorem nwF_no {f : Nat → Int} {m : BitVec 64} {k : Nat} (h : (rimB m).getLsbD k = false) : nwF f m (k + 1) = nwF f m k := by
  funext j
  unfold nwF
  by_cases e : j = k
  · subst e; simp [h]
  · have : (j < k + 1) = (j < k) := by simp; omega
    simp only [this]
theorem i16_bd (x : Int) : -32768 ≤ IntKind.i16.wrap x ∧ IntKind.i16.wrap x ≤ 32767 := by
  have e : IntKind.i16.wrap x = if (true && decide (x % 65536 ≥ 32768)) = true then x % 65536 - 65536 else x % 65536 := rfl
  rw [e]
  by_cases h : x % 65536 ≥ 32768
  · simp only [h, decide_true, Bool.and_self, if_true]; omega
  · simp only [h, decide_false, Bool.and_false, Bool.false_eq_true, if_false]; omega
theorem nwF_s {f : Nat → Int} (hf : S16 f) (m : BitVec 64) (k : Nat) : S16 (nwF f m k) := by
  intro c hc
  unfold nwF
  split
  · unfold mnV
    exact i16_bd _
  · exact hf c hc
theorem nwF_0 (f : Nat → Int) (m : BitVec 64) : nwF f m 0 = f := by funext c; simp [nwF]
/-- The cells that are left of the first k. -/
def ltB (m L : BitVec 64) (k : Nat) : Prop := ∀ c, c < 64 → L.getLsbD c = (m.getLsbD c && !(decide (c < k) && (rimB m).getLsbD c))
theorem ltB_0 (m : BitVec 64) : ltB m m 0 := fun c _ => by simp
theorem ltB_end {m L : BitVec 64} (h : ltB m L 64) : L = rnd m := by
  refine BitVec.eq_of_getLsbD_eq fun i hi => ?_
  unfold rnd
  rw [h i hi, BitVec.getLsbD_and, not_bit _ hi]; simp [hi]
theorem ltB_no {m L : BitVec 64} {k : Nat} (h : ltB m L k) (hr : (rimB m).getLsbD k = false) : ltB m L (k + 1) := fun c hc => by
  rw [h c hc]
  by_cases e : c = k
  · subst e; simp [hr]
  · have : decide (c < k + 1) = decide (c < k) := decide_eq_decide.2 (by omega)
    rw [this]
theorem ltB_yes {m L : BitVec 64} {k : Nat} (hk : k < 64) (h : ltB m L k) (hr : (rimB m).getLsbD k = true) : ltB m (L &&& ~~~(1#64 <<< k)) (k + 1) := fun c hc => by
  rw [BitVec.getLsbD_and, not_bit _ hc, bitR_of k c hk, h c hc]
  by_cases e : c = k
  · subst e; simp [hr]
  · have : decide (c < k + 1) = decide (c < k) := decide_eq_decide.2 (by omega)
    rw [this]; simp [e]
theorem and_bitR {N : BitVec 64} {k : Nat} (hk : k < 64) : N &&& 1#64 <<< k = if N.getLsbD k = true then 1#64 <<< k else 0#64 := BitVec.eq_of_getLsbD_eq fun i _ => by
  rw [BitVec.getLsbD_and, bitR_of k i hk]
  by_cases e : i = k
  · subst e
    rcases hb : N.getLsbD i with _ | _
    · simp
    · simp [bitR_of i i hk]
  · rcases hb : N.getLsbD k with _ | _
    · simp [e]
    · simp [bitR_of k i hk, e]
theorem bit_ne0 {k : Nat} (hk : k < 64) : (bvI (1#64 <<< k) == 0) = false := beq_eq_false_iff_ne.2 (fun e => by
  have h := bvI_inj.1 (e.trans zero_bv.symm)
  have := bitR_of k k hk
  rw [h] at this; simp at this)

end Go.Proofs.YtmibinfaafhgdaaDoor

/-
  Strips and their texts, as lists of bytes: a strip that is read from a text has it, and its numbers are what the library reads. No condition.
-/
import Derived.Test.YtnlcjbobfhmnmabGreatDoorStripT
import Derived.Test.YtnlcjbobfhmnmabGreatDoorNumber
import Derived.Lib.ParseIntB
namespace Go.Proofs.YtnlcjbobfhmnmabGreatDoor
open Go.RowKit

def rsX (l : List UInt8) : List UInt8 := (cutL 32 l).1
def rsY (l : List UInt8) : List UInt8 := (cutL 32 (cutL 32 l).2).1
def rsZ (l : List UInt8) : List UInt8 := (cutL 32 (cutL 32 l).2).2
theorem cutB_len (c0 : UInt8) : ∀ l : List UInt8, (cutL c0 l).1.length ≤ l.length ∧ (cutL c0 l).2.length ≤ l.length
  | [] => by simp [cutL]
  | c :: r => by
    have h := cutB_len c0 r
    unfold cutL
    split
    · simp
    · simp; omega
theorem rs_len (l : List UInt8) : (rsX l).length ≤ l.length ∧ (rsY l).length ≤ l.length ∧ (rsZ l).length ≤ l.length := by
  have h1 := cutB_len 32 l
  have h2 := cutB_len 32 (cutL 32 l).2
  unfold rsX rsY rsZ
  omega
def rsGood (l : List UInt8) : Bool := decide ((splitL 32 l).length = 3) && numOk (rsX l) && numOk (rsY l) && numOk (rsZ l) && okT (numVal (rsX l)) (numVal (rsY l)) (numVal (rsZ l))
def rsC (l : List UInt8) : Int := if rsGood l = true then 0 else 5
def rsV (l : List UInt8) : Value := if rsGood l = true then stV (numVal (rsX l)) (numVal (rsY l)) (numVal (rsZ l)) else stV 0 0 0
theorem rs_no {l : List UInt8} (h : rsGood l = false) : rsC l = 5 ∧ rsV l = stV 0 0 0 := by simp [rsC, rsV, h]
theorem rs_yes {l : List UInt8} (h : rsGood l = true) : rsC l = 0 ∧ rsV l = stV (numVal (rsX l)) (numVal (rsY l)) (numVal (rsZ l)) := by simp [rsC, rsV, h]
theorem rsV_set (l : List UInt8) : ∃ x y z, rsV l = stV x y z := by
  unfold rsV; split
  · exact ⟨_, _, _, rfl⟩
  · exact ⟨_, _, _, rfl⟩

theorem blank_dec (n : Nat) : (32 : UInt8) ∉ decN n := dec_blank n rfl
/-- Three words: the text, word by word. -/
theorem rs_words {l : List UInt8} (h : (splitL 32 l).length = 3) : splitL 32 l = [rsX l, rsY l, rsZ l] ∧ l = rsX l ++ 32 :: (rsY l ++ 32 :: rsZ l) := by
  obtain ⟨a, b, c, e⟩ : ∃ a b c, splitL 32 l = [a, b, c] := by
    match splitL 32 l, h with
    | [a, b, c], _ => exact ⟨a, b, c, rfl⟩
  obtain ⟨e0, e1, e2⟩ := cut3_words e
  refine ⟨by rw [e]; unfold rsX rsY rsZ; rw [e0, e1, e2], ?_⟩
  rcases idx_cases 32 l with ⟨_, h1⟩ | ⟨x, r, hl, h1, _⟩
  · rw [split_none h1] at h; simp at h
  · have hc : cutL 32 l = (x, r) := by rw [hl]; exact cut_hit r h1
    rcases idx_cases 32 r with ⟨_, h2⟩ | ⟨y, z, hr, h2, _⟩
    · rw [hl, split_cons _ h1, split_none h2] at h; simp at h
    · have hc2 : cutL 32 r = (y, z) := by rw [hr]; exact cut_hit z h2
      have ex : rsX l = x := by unfold rsX; rw [hc]
      have ey : rsY l = y := by unfold rsY; rw [hc, hc2]
      have ez : rsZ l = z := by unfold rsZ; rw [hc, hc2]
      rw [ex, ey, ez, ← hr]
      exact hl
theorem rs_strip (a b c : Int) : (splitL 32 (stripT a b c)).length = 3 ∧ rsX (stripT a b c) = decI a ∧ rsY (stripT a b c) = decI b ∧ rsZ (stripT a b c) = decI c := by
  have h1 : (32 : UInt8) ∉ decI a := blank_dec _
  have h2 : (32 : UInt8) ∉ decI b := blank_dec _
  have h3 : (32 : UInt8) ∉ decI c := blank_dec _
  have hc : cutL 32 (stripT a b c) = (decI a, decI b ++ 32 :: decI c) := cut_hit _ h1
  have hc2 : cutL 32 (decI b ++ 32 :: decI c) = (decI b, decI c) := cut_hit _ h2
  refine ⟨?_, by unfold rsX; rw [hc], by unfold rsY; rw [hc, hc2], by unfold rsZ; rw [hc, hc2]⟩
  unfold stripT
  rw [split_cons _ h1, split_cons _ h2, split_none h3]
  rfl
theorem num_decI {n : Int} (h : 0 ≤ n) (h' : n < 1000000000) : numOk (decI n) = true ∧ (numVal (decI n) : Int) = n := by
  obtain ⟨m, rfl⟩ := Int.eq_ofNat_of_zero_le h
  refine ⟨numOk_dec (n := m) (by omega), ?_⟩
  show ((numVal (decN m) : Nat) : Int) = m
  rw [(num_dec m).2.1]
/-- What the library reads of a word: the number, if it is one of eight bits. -/
def p8 (l : List UInt8) : Option Int := match Lib.parseIntB 8 l with | .ok v => some v | _ => none
theorem p8_nil : p8 [] = none := rfl
theorem p8_one : ∀ d, d < 10 → p8 [UInt8.ofNat (48 + d)] = some (d : Int) := by decide
theorem p8_two : ∀ d, d < 10 → ∀ e, e < 10 → p8 [UInt8.ofNat (48 + d), UInt8.ofNat (48 + e)] = some ((10 * d + e : Nat) : Int) := by decide
theorem p8_dec {n : Nat} (h : n < 100) : p8 (decN n) = some (n : Int) := by
  by_cases h1 : n < 10
  · rw [decN_lo h1]; exact p8_one n h1
  · rw [decN_hi (by omega), decN_lo (by omega)]
    have := p8_two (n / 10) (by omega) (n % 10) (by omega)
    rw [show 10 * (n / 10) + n % 10 = n by omega] at this
    exact this
theorem p8_num {l : List UInt8} (h : numOk l = true) (h' : numVal l < 100) : p8 l = some (numVal l : Int) := by
  have := p8_dec h'
  rw [dec_numOk h] at this
  exact this
theorem rs_good {l : List UInt8} (h : rsGood l = true) : p8 (rsX l) = some (numVal (rsX l) : Int) ∧ p8 (rsY l) = some (numVal (rsY l) : Int) ∧ p8 (rsZ l) = some (numVal (rsZ l) : Int) ∧ stripTx (numVal (rsX l)) (numVal (rsY l)) (numVal (rsZ l)) = l := by
  simp only [rsGood, Bool.and_eq_true, decide_eq_true_eq] at h
  obtain ⟨⟨⟨⟨h3, hx⟩, hy⟩, hz⟩, hk⟩ := h
  have hok := okT_ok hk
  have z1 := hok.a1; have z2 := hok.b1; have z3 := hok.c1
  refine ⟨p8_num hx (by omega), p8_num hy (by omega), p8_num hz (by omega), ?_⟩
  rw [stripTx_yes hk]
  unfold stripT
  have d : ∀ {w : List UInt8}, numOk w = true → decI (numVal w : Int) = w := fun {w} hw => dec_numOk hw
  rw [d hx, d hy, d hz]
  exact (rs_words h3).2.symm
/-- A text that is the text of a strip is good, and its numbers are the strip's. -/
theorem rs_back {l : List UInt8} {a b c : Int} (h : stripTx a b c = l) (h0 : l ≠ []) : rsGood l = true ∧ (numVal (rsX l) : Int) = a ∧ (numVal (rsY l) : Int) = b ∧ (numVal (rsZ l) : Int) = c := by
  rcases hk : okT a b c with _ | _
  · rw [stripTx_no hk] at h; exact absurd h.symm h0
  · rw [stripTx_yes hk] at h
    subst h
    have hok := okT_ok hk
    have z0 := hok.a0; have z1 := hok.a1; have z2 := hok.b0; have z3 := hok.b1; have z4 := hok.c0; have z5 := hok.c1
    obtain ⟨h3, ex, ey, ez⟩ := rs_strip a b c
    obtain ⟨a1, a2⟩ := num_decI z0 (by omega)
    obtain ⟨b1, b2⟩ := num_decI (n := b) (by omega) (by omega)
    obtain ⟨c1, c2⟩ := num_decI (n := c) (by omega) (by omega)
    refine ⟨?_, by rw [ex, a2], by rw [ey, b2], by rw [ez, c2]⟩
    unfold rsGood
    rw [ex, ey, ez, h3, a1, b1, c1, a2, b2, c2, hk]
    rfl
theorem rs_fail {l : List UInt8} (h : p8 (rsX l) = none ∨ p8 (rsY l) = none ∨ p8 (rsZ l) = none) : rsC l = 5 ∧ rsV l = stV 0 0 0 := by
  rcases hg : rsGood l with _ | _
  · exact rs_no hg
  · obtain ⟨h1, h2, h3, _⟩ := rs_good hg
    rw [h1, h2, h3] at h
    simp at h
theorem rs_read {l : List UInt8} {a b c : Int} (ha : p8 (rsX l) = some a) (hb : p8 (rsY l) = some b) (hc : p8 (rsZ l) = some c) : (stripTx a b c = l ∧ rsC l = 0 ∧ rsV l = stV a b c) ∨ (stripTx a b c ≠ l ∧ rsC l = 5 ∧ rsV l = stV 0 0 0) := by
  have h0 : l ≠ [] := fun e => by
    subst e
    rw [show rsX [] = [] from rfl, p8_nil] at ha
    cases ha
  by_cases h : stripTx a b c = l
  · obtain ⟨hg, e1, e2, e3⟩ := rs_back h h0
    refine .inl ⟨h, (rs_yes hg).1, ?_⟩
    rw [(rs_yes hg).2, e1, e2, e3]
  · refine .inr ⟨h, ?_⟩
    rcases hg : rsGood l with _ | _
    · exact rs_no hg
    · obtain ⟨h1, h2, h3, h4⟩ := rs_good hg
      rw [ha] at h1; rw [hb] at h2; rw [hc] at h3
      injection h1 with h1; injection h2 with h2; injection h3 with h3
      subst h1 h2 h3
      exact absurd h4 h
theorem p8_bd {l : List UInt8} {v : Int} (h : p8 l = some v) : -128 ≤ v ∧ v ≤ 127 := by
  unfold p8 at h
  cases l with
  | nil => cases h
  | cons c r =>
    unfold Lib.parseIntB at h
    simp only at h
    split at h
    · rename_i v' hv
      injection h with h
      subst h
      split at hv
      · cases hv
      · cases hv
      · rename_i u hu
        split at hv
        · cases hv
        · split at hv
          · cases hv
          · injection hv with hv
            subst hv
            split <;> omega
    · cases h
end Go.Proofs.YtnlcjbobfhmnmabGreatDoor

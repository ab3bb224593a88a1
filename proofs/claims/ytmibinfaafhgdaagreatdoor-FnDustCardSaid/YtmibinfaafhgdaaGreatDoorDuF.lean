/-
  What FnDust asks of the median, the dust, the best, the cleanest and the fewest copies, in plain numbers. Condition: the copies and the difference are right (their code is 0).
-/
import Derived.Test.YtmibinfaafhgdaaGreatDoorFewV
import Derived.Test.YtmibinfaafhgdaaGreatDoorFewS
import Derived.Test.YtmibinfaafhgdaaGreatDoorBstX
import Derived.Test.YtmibinfaafhgdaaGreatDoorClnX
import Derived.Test.YtmibinfaafhgdaaGreatDoorScrX
import Derived.Test.YtmibinfaafhgdaaGreatDoorDiffer
namespace Go.Proofs.YtmibinfaafhgdaaGreatDoor
open Go.RowKit

section
variable {n : Nat} {g : Nat → Nat → Int} {x : Int}
theorem cop_facts (hc : copC n g x = 0) : prsB g n = true ∧ (1 ≤ n ∧ n ≤ 8) ∧ 0 ≤ x ∧ x ≤ 400 := by
  rcases copC_cases n g x with h | h | h
  · exact ⟨h.2.1, h.2.2.1, h.2.2.2⟩
  · rw [hc] at h; cases h
  · rw [hc] at h; cases h
theorem med_mem (hc : copC n g x = 0) (k : Nat) : ∃ i, i < n ∧ medF g n k = g i k := by
  have h8 := copC_pos hc
  exact isF_mem (x := fun i => g i k) (n := n) n (Nat.le_refl _) ((n - 1) / 2) (by omega)
theorem med_dns (hc : copC n g x = 0) : dnsB (medF g n) = true := dnsB_iff.2 fun k hk => by
  obtain ⟨i, h1, h2⟩ := med_mem hc k
  rw [h2]
  exact dnsB_iff.1 (prsB_iff.1 (cop_facts hc).1 i h1) k hk
theorem difP_dus (m f : Nat → Int) (x : Int) : difP m f x = dusP f m x := funext fun k => by
  have h1 : szA (f k - m k) = if f k - m k < 0 then -(f k - m k) else f k - m k := rfl
  unfold difP dusP drkP
  rw [Bool.eq_iff_iff, h1]
  simp only [Bool.or_eq_true, decide_eq_true_eq]
  split <;> omega
theorem dif_dus {m f : Nat → Int} (hm : dnsB m = true) (hf : dnsB f = true) (hx : 0 ≤ x ∧ x ≤ 400) : difV m f x = bvI (dusB f m x) ∧ difC m f x = 0 := by
  have hi : inB x 0 400 = true := inB_true.2 hx
  constructor
  · unfold difV dusB
    rw [hm, hf, hi, if_pos (show (true && (true && true)) = true from rfl), mkB_bvI, difP_dus]
  · unfold difC
    rw [hm, hf, hi]; rfl
theorem dif_copy (hc : copC n g x = 0) {i : Nat} (hi : i < n) : difV (medF g n) (g i) x = bvI (dBs g n x i) ∧ difC (medF g n) (g i) x = 0 :=
  dif_dus (med_dns hc) (prsB_iff.1 (cop_facts hc).1 i hi) (cop_facts hc).2.2
/-- The best has no dust. -/
theorem bs_near (hc : copC n g x = 0) (k : Nat) (hk : k < 64) : ∀ j, j ≤ n → inB (bsF (medF g n) g (dBs g n x) j k) 0 400 = true ∧ ¬ x < bsF (medF g n) g (dBs g n x) j k - medF g n k ∧ ¬ x < medF g n k - bsF (medF g n) g (dBs g n x) j k
  | 0, _ => by
    have hx := (cop_facts hc).2.2
    refine ⟨dnsB_iff.1 (med_dns hc) k hk, ?_, ?_⟩
    · show ¬ x < medF g n k - medF g n k; omega
    · show ¬ x < medF g n k - medF g n k; omega
  | j + 1, hj => by
    have ih := bs_near hc k hk j (by omega)
    have e : bsF (medF g n) g (dBs g n x) (j + 1) k = if (clB (dBs g n x) j).getLsbD k = true then g j k else bsF (medF g n) g (dBs g n x) j k := rfl
    by_cases h : (clB (dBs g n x) j).getLsbD k = true
    · rw [e, if_pos h]
      have h2 : (dBs g n x j).getLsbD k = false := by
        unfold clB at h
        rw [BitVec.getLsbD_and, BitVec.getLsbD_not] at h
        simp at h
        exact h.2.2
      unfold dBs dusB at h2
      rw [mkB_bit _ hk] at h2
      unfold dusP drkP at h2
      simp at h2
      exact ⟨dnsB_iff.1 (prsB_iff.1 (cop_facts hc).1 j (by omega)) k hk, by omega, by omega⟩
    · rw [e, if_neg h]; exact ih
theorem dif_best (hc : copC n g x = 0) : difV (medF g n) (bcF g n x) x = 0 ∧ difC (medF g n) (bcF g n x) x = 0 := by
  rw [bcF_ok hc]
  have hd : dnsB (bsF (medF g n) g (dBs g n x) n) = true := dnsB_iff.2 fun k hk => (bs_near hc k hk n (Nat.le_refl _)).1
  have h := dif_dus (med_dns hc) hd (cop_facts hc).2.2
  refine ⟨?_, h.2⟩
  rw [h.1]
  have e : dusB (bsF (medF g n) g (dBs g n x) n) (medF g n) x = 0#64 := BitVec.eq_of_getLsbD_eq fun k hk => by
    have hn := bs_near hc k hk n (Nat.le_refl _)
    unfold dusB
    rw [mkB_bit _ hk]
    unfold dusP drkP
    simp
    omega
  rw [e]; rfl
end
theorem nr_fact (c : Nat → Nat) : ∀ k, (∀ i, i < k → c (nrI c k) ≤ c i) ∧ (∀ i, i < nrI c k → c (nrI c k) < c i)
  | 0 => ⟨fun i h => by omega, fun i h => by have h : i < 0 := h; omega⟩
  | k + 1 => by
    have ih := nr_fact c k
    by_cases h : c k < c (nrI c k)
    · rw [nrI_yes h]
      refine ⟨fun i hi => ?_, fun i hi => ?_⟩
      · by_cases e : i = k
        · subst e; exact Nat.le_refl _
        · have := ih.1 i (by omega); omega
      · have := ih.1 i (by omega); omega
    · rw [nrI_no h]
      refine ⟨fun i hi => ?_, ih.2⟩
      by_cases e : i = k
      · subst e; omega
      · exact ih.1 i (by omega)
theorem lf_and (D : Nat → BitVec 64) : ∀ n, lfB D n = anD D n
  | 0 => by show 18446744073709551615#64 = BitVec.allOnes 64; decide
  | n + 1 => by
    show lfB D n &&& ~~~(lfB D n &&& ~~~D n) = anD D n &&& D n
    rw [lf_and D n]
    refine BitVec.eq_of_getLsbD_eq fun k hk => ?_
    simp only [BitVec.getLsbD_and, BitVec.getLsbD_not, hk, decide_true, Bool.true_and]
    cases (anD D n).getLsbD k <;> cases (D n).getLsbD k <;> rfl
theorem lf_zero {n : Nat} {g : Nat → Nat → Int} {x : Int} (hc : copC n g x = 0) : bcL g n x = 0 := by
  rw [bcL_ok hc, lf_and, anD_all hc]; rfl
/-- What the copies of a list, of the first i, have clean. -/
def covB (l : List Int) (D : Nat → BitVec 64) : Nat → BitVec 64
  | 0 => 0#64
  | i + 1 => if decide ((i : Int) ∈ l) = true then covB l D i ||| ~~~D i else covB l D i
theorem covB_yes {l : List Int} {D : Nat → BitVec 64} {i : Nat} (h : decide ((i : Int) ∈ l) = true) : covB l D (i + 1) = covB l D i ||| ~~~D i := if_pos h
theorem covB_no {l : List Int} {D : Nat → BitVec 64} {i : Nat} (h : decide ((i : Int) ∈ l) = false) : covB l D (i + 1) = covB l D i := if_neg (by rw [h]; decide)
theorem subI_has (t n i : Nat) (hi : i < n) : decide ((i : Int) ∈ subI t n) = t.testBit i := by
  rw [Bool.eq_iff_iff, decide_eq_true_eq]
  have h := subI_mem t n i
  constructor
  · intro hm
    obtain ⟨j, hj, he⟩ := List.getElem_of_mem hm
    exact (h.1 ⟨j, hj, by rw [List.getD_eq_getElem?_getD, List.getElem?_eq_getElem hj, he]; rfl⟩).2
  · intro ht
    obtain ⟨j, hj, he⟩ := h.2 ⟨hi, ht⟩
    rw [List.getD_eq_getElem?_getD, List.getElem?_eq_getElem hj] at he
    have he : (subI t n)[j] = (i : Int) := he
    rw [← he]
    exact List.getElem_mem hj
theorem covB_un (t n : Nat) (D : Nat → BitVec 64) : ∀ i, i ≤ n → covB (subI t n) D i = unS (fun j => ~~~D j) t i
  | 0, _ => rfl
  | i + 1, hi => by
    have ih := covB_un t n D i (by omega)
    have hb := subI_has t n i (by omega)
    rcases ht : t.testBit i with _ | _
    · rw [covB_no (hb.trans ht), unS_no ht, ih]
    · rw [covB_yes (hb.trans ht), unS_yes ht, ih]
theorem unA_not (D : Nat → BitVec 64) : ∀ n, unA (fun j => ~~~D j) n = ~~~(anD D n)
  | 0 => by show 0#64 = ~~~(BitVec.allOnes 64); decide
  | n + 1 => by
    show unA (fun j => ~~~D j) n ||| ~~~D n = ~~~(anD D n &&& D n)
    rw [unA_not D n]
    refine BitVec.eq_of_getLsbD_eq fun k hk => ?_
    simp only [BitVec.getLsbD_and, BitVec.getLsbD_or, BitVec.getLsbD_not, hk, decide_true, Bool.true_and]
    cases (anD D n).getLsbD k <;> cases (D n).getLsbD k <;> rfl
theorem beat_le {a b : List Int} (h : beatL a b = true) : a.length ≤ b.length := by
  rcases Nat.lt_or_ge b.length a.length with h1 | h1
  · rw [beatL_gt h1] at h; cases h
  · exact h1
theorem keep_le {a b : List Int} (h : beatL a b = false) : b.length ≤ a.length := by
  rcases Nat.lt_or_ge a.length b.length with h1 | h1
  · rw [beatL_lt h1] at h; cases h
  · exact h1
theorem fewB_spec (n : Nat) (ok : Nat → Bool) : ∀ k b, fewB n ok k = some b → (∃ t, 1 ≤ t ∧ t ≤ k ∧ ok t = true ∧ b = subI t n) ∧ ∀ t, 1 ≤ t → t ≤ k → ok t = true → b.length ≤ (subI t n).length
  | 0, b, h => by cases h
  | k + 1, b, h => by
    rcases hk : ok (k + 1) with _ | _
    · rw [fewB_no hk] at h
      obtain ⟨⟨t, h1, h2, h3, h4⟩, h5⟩ := fewB_spec n ok k b h
      refine ⟨⟨t, h1, by omega, h3, h4⟩, fun t' a1 a2 a3 => ?_⟩
      by_cases e : t' = k + 1
      · subst e; rw [hk] at a3; cases a3
      · exact h5 t' a1 (by omega) a3
    · cases h0 : fewB n ok k with
      | none =>
        rw [fewB_first hk h0] at h
        injection h with h
        subst h
        refine ⟨⟨k + 1, by omega, Nat.le_refl _, hk, rfl⟩, fun t' a1 a2 a3 => ?_⟩
        by_cases e : t' = k + 1
        · subst e; exact Nat.le_refl _
        · exact absurd h0 (fewB_has n ok k t' a1 (by omega) a3)
      | some b0 =>
        obtain ⟨⟨t, h1, h2, h3, h4⟩, h5⟩ := fewB_spec n ok k b0 h0
        rcases hb : beatL (subI (k + 1) n) b0 with _ | _
        · rw [fewB_keep hk h0 hb] at h
          injection h with h
          subst h
          refine ⟨⟨t, h1, by omega, h3, h4⟩, fun t' a1 a2 a3 => ?_⟩
          by_cases e : t' = k + 1
          · subst e; exact keep_le hb
          · exact h5 t' a1 (by omega) a3
        · rw [fewB_beat hk h0 hb] at h
          injection h with h
          subst h
          refine ⟨⟨k + 1, by omega, Nat.le_refl _, hk, rfl⟩, fun t' a1 a2 a3 => ?_⟩
          by_cases e : t' = k + 1
          · subst e; exact Nat.le_refl _
          · exact Nat.le_trans (beat_le hb) (h5 t' a1 (by omega) a3)
where
  fewB_has (n : Nat) (ok : Nat → Bool) : ∀ k t, 1 ≤ t → t ≤ k → ok t = true → fewB n ok k ≠ none
    | 0, t, h1, h2, _ => by omega
    | k + 1, t, h1, h2, h3 => by
      rcases hk : ok (k + 1) with _ | _
      · rw [fewB_no hk]
        refine fewB_has n ok k t h1 ?_ h3
        have : t ≠ k + 1 := fun e => by subst e; rw [hk] at h3; cases h3
        omega
      · cases h0 : fewB n ok k with
        | none => rw [fewB_first hk h0]; simp
        | some b0 =>
          rcases hb : beatL (subI (k + 1) n) b0 with _ | _
          · rw [fewB_keep hk h0 hb]; simp
          · rw [fewB_beat hk h0 hb]; simp
theorem few_facts {n : Nat} {g : Nat → Nat → Int} {x : Int} (hc : copC n g x = 0) :
    covB (fewL n g x) (dBs g n x) n = ~~~(anD (dBs g n x) n) ∧ 1 ≤ (fewL n g x).length ∧ (fewL n g x).length ≤ n ∧ ∀ i, i < n → dBs g n x i = 0#64 → (fewL n g x).length = 1 := by
  have h8 := copC_pos hc
  have hp := two_pow8 h8.1 h8.2
  have hs := gdL_some (cB g n x) h8.1 h8.2
  obtain ⟨b, hb⟩ : ∃ b, fewB n (okB (cB g n x) n) (2 ^ n - 1) = some b := ⟨_, by rw [fewB_min, if_neg (fun h => by rw [h] at hs; simp at hs)]⟩
  have e : fewL n g x = b := by rw [fewL_ok hc, hb]; rfl
  obtain ⟨⟨t, h1, h2, h3, h4⟩, h5⟩ := fewB_spec n _ _ b hb
  have hlen := fewB_len hb
  rw [e]
  have hpos : 1 ≤ b.length := by
    rcases Nat.eq_zero_or_pos b.length with h0 | h0
    · have h6 := (ok_iff hc t).1 h3
      rw [← h4, h0] at h6
      exact absurd h6 (anD_nil _)
    · exact h0
  refine ⟨?_, hpos, hlen, fun i hi hD => ?_⟩
  · rw [h4, covB_un t n _ n (Nat.le_refl _), ← unA_not]
    unfold okB at h3
    exact of_decide_eq_true h3
  · have hsub : subI (2 ^ i) n = [(i : Int)] := by
      have := subI_add (t := 0) (i := i) (Nat.two_pow_pos i) n hi
      rw [subI_zero] at this
      simpa using this
    have hok : okB (cB g n x) n (2 ^ i) = true := (ok_iff hc (2 ^ i)).2 (by
      rw [hsub]
      show anD _ 0 &&& dBs g n x i = 0#64
      rw [hD]; simp)
    have hlt : 2 ^ i < 2 ^ n := Nat.pow_lt_pow_right (by omega) hi
    have h7 := h5 (2 ^ i) (Nat.two_pow_pos i) (by omega) hok
    rw [hsub] at h7
    have h7 : b.length ≤ 1 := h7
    omega

/-! ### THE MEDIAN -/
/-- How many of the first numbers have p. -/
def cN (p : Int → Bool) (f : Nat → Int) : Nat → Nat
  | 0 => 0
  | n + 1 => cN p f n + if p (f n) = true then 1 else 0
theorem cN_congr {p : Int → Bool} {f h : Nat → Int} : ∀ n, (∀ j, j < n → f j = h j) → cN p f n = cN p h n
  | 0, _ => rfl
  | n + 1, e => by unfold cN; rw [cN_congr n fun j hj => e j (by omega), e n (by omega)]
theorem cN_sh (p : Int → Bool) (f : Nat → Int) (v : Int) (a : Nat) : ∀ d, cN p (shF f v a) (a + d + 1) = cN p f (a + d) + if p v = true then 1 else 0
  | 0 => by
    show cN p (shF f v a) a + (if p (shF f v a a) = true then 1 else 0) = _
    rw [shF_eq, cN_congr a fun j hj => shF_lt hj]
    rfl
  | d + 1 => by
    have ih := cN_sh p f v a d
    show cN p (shF f v a) (a + d + 1) + (if p (shF f v a (a + d + 1)) = true then 1 else 0) = cN p f (a + d) + (if p (f (a + d)) = true then 1 else 0) + _
    rw [ih, shF_gt (by omega), show a + d + 1 - 1 = a + d by omega]
    omega
theorem cN_is (p : Int → Bool) (x : Nat → Int) : ∀ i, cN p (isF x i) i = cN p x i
  | 0 => rfl
  | i + 1 => by
    have hp := posF_le (isF x i) (x i) i
    obtain ⟨d, hd⟩ : ∃ d, i = posF (isF x i) (x i) i + d := ⟨i - posF (isF x i) (x i) i, by omega⟩
    have h := cN_sh p (isF x i) (x i) (posF (isF x i) (x i) i) d
    rw [← hd] at h
    show cN p (shF (isF x i) (x i) (posF (isF x i) (x i) i)) (i + 1) = cN p x i + _
    rw [h, cN_is p x i]
theorem posF_hi (f : Nat → Int) (v : Int) : ∀ m j, posF f v m ≤ j → j < m → v < f j
  | 0, j, _, h => by omega
  | m + 1, j, h, hj => by
    by_cases hv : v < f m
    · rw [posF_yes hv] at h
      by_cases e : j = m
      · subst e; exact hv
      · exact posF_hi f v m j h (by omega)
    · rw [posF_no hv] at h; omega
theorem posF_lo (f : Nat → Int) (v : Int) : ∀ m, 0 < posF f v m → f (posF f v m - 1) ≤ v
  | 0, h => by have h : 0 < 0 := h; omega
  | m + 1, h => by
    by_cases hv : v < f m
    · rw [posF_yes hv] at h ⊢
      exact posF_lo f v m h
    · rw [posF_no hv]
      show f (m + 1 - 1) ≤ v
      rw [show m + 1 - 1 = m by omega]; omega
theorem isF_sorted (x : Nat → Int) : ∀ i a b, a ≤ b → b < i → isF x i a ≤ isF x i b
  | 0, _, _, _, h => by omega
  | i + 1, a, b, hab, hb => by
    have ih := isF_sorted x i
    have hp := posF_le (isF x i) (x i) i
    have hlo := posF_lo (isF x i) (x i) i
    have hhi := posF_hi (isF x i) (x i) i
    show shF (isF x i) (x i) (posF (isF x i) (x i) i) a ≤ shF (isF x i) (x i) (posF (isF x i) (x i) i) b
    generalize posF (isF x i) (x i) i = q at *
    rcases Nat.lt_trichotomy a q with ha | ha | ha <;> rcases Nat.lt_trichotomy b q with hb' | hb' | hb'
    · rw [shF_lt ha, shF_lt hb']; exact ih a b hab (by omega)
    · rw [shF_lt ha, hb', shF_eq]
      have h1 := hlo (by omega)
      have h2 := ih a (q - 1) (by omega) (by omega)
      omega
    · rw [shF_lt ha, shF_gt hb']; exact ih a (b - 1) (by omega) (by omega)
    · omega
    · rw [ha, hb']; exact Int.le_refl _
    · rw [ha, shF_eq, shF_gt hb']
      have h1 := hhi (b - 1) (by omega) (by omega)
      omega
    · omega
    · omega
    · rw [shF_gt ha, shF_gt hb']; exact ih (a - 1) (b - 1) (by omega) (by omega)
theorem cN_lo {p : Int → Bool} {f : Nat → Int} {m : Nat} : ∀ n, (∀ j, m ≤ j → j < n → p (f j) = false) → cN p f n ≤ m
  | 0, _ => Nat.zero_le _
  | n + 1, h => by
    by_cases hn : m ≤ n
    · have ih := cN_lo n (fun j h1 h2 => h j h1 (by omega))
      unfold cN
      rw [h n hn (by omega)]
      simpa using ih
    · have : cN p f (n + 1) ≤ n + 1 := cN_le p f (n + 1)
      omega
where
  cN_le (p : Int → Bool) (f : Nat → Int) : ∀ n, cN p f n ≤ n
    | 0 => Nat.le_refl _
    | n + 1 => by
      have := cN_le p f n
      unfold cN
      split <;> omega
theorem cN_up {p : Int → Bool} {f : Nat → Int} {m : Nat} : ∀ n, (∀ j, j < m → j < n → p (f j) = false) → cN p f n ≤ n - m
  | 0, _ => Nat.zero_le _
  | n + 1, h => by
    have ih := cN_up n (fun j h1 h2 => h j h1 (by omega))
    unfold cN
    by_cases hn : n < m
    · rw [h n hn (by omega)]
      simp; omega
    · split <;> omega
theorem med_low {n : Nat} (h1 : 1 ≤ n) (g : Nat → Nat → Int) (k : Nat) : 2 * cN (fun v => decide (v < medF g n k)) (fun i => g i k) n ≤ n := by
  rw [← cN_is]
  have h := cN_lo (p := fun v => decide (v < medF g n k)) (f := isF (fun i => g i k) n) (m := (n - 1) / 2) n (fun j a b => by
    have := isF_sorted (fun i => g i k) n ((n - 1) / 2) j a b
    show decide (isF (fun i => g i k) n j < isF (fun i => g i k) n ((n - 1) / 2)) = false
    exact decide_eq_false (by omega))
  omega
theorem med_high {n : Nat} (h1 : 1 ≤ n) (g : Nat → Nat → Int) (k : Nat) : 2 * cN (fun v => decide (medF g n k < v)) (fun i => g i k) n ≤ n := by
  rw [← cN_is]
  have h := cN_up (p := fun v => decide (medF g n k < v)) (f := isF (fun i => g i k) n) (m := (n - 1) / 2 + 1) n (fun j a b => by
    have := isF_sorted (fun i => g i k) n j ((n - 1) / 2) (by omega) (by omega)
    show decide (isF (fun i => g i k) n ((n - 1) / 2) < isF (fun i => g i k) n j) = false
    exact decide_eq_false (by omega))
  omega

/-! ### NO SCRATCH -/
theorem scr_none {n : Nat} {g : Nat → Nat → Int} {x : Int} (hc : copC n g x = 0) : scrT (medF g n) n g x = #[.int .u64 0, .int .i64 0] := by
  have hsc : scrC (medF g n) n g x = 0 := by unfold scrC; rw [if_pos (med_dns hc), hc]
  have hx := (cop_facts hc).2.2
  unfold scrT
  rw [if_pos hsc]
  have e : mkB (scrP (medF g n) n g x) = 0#64 := BitVec.eq_of_getLsbD_eq fun k hk => by
    rw [mkB_bit _ hk]
    obtain ⟨i, h1, h2⟩ := med_mem hc k
    have a1 : drkN (medF g n) g x n k = false := by
      rcases h : drkN (medF g n) g x n k with _ | _
      · rfl
      · have := List.all_eq_true.1 h i (List.mem_range.2 h1)
        unfold drkP at this
        rw [h2] at this
        simp at this
        omega
    have a2 : ligN (medF g n) g x n k = false := by
      rcases h : ligN (medF g n) g x n k with _ | _
      · rfl
      · have := List.all_eq_true.1 h i (List.mem_range.2 h1)
        unfold drkP at this
        rw [h2] at this
        simp at this
        omega
    unfold scrP
    rw [a1, a2]; simp
  rw [e]; rfl
end Go.Proofs.YtmibinfaafhgdaaGreatDoor

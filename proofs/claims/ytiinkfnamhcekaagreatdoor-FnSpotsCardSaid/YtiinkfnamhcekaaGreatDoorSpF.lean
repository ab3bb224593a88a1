/-
  What the law on spots asks of plain masks and numbers: spots share the cells out, the greatest one is among them, what is repaired lies between its neighbours, rounds. Of whatever mask.
-/
import Derived.Test.YtiinkfnamhcekaaGreatDoorGstJ
import Derived.Test.YtiinkfnamhcekaaGreatDoorRepD
namespace Go.Proofs.YtiinkfnamhcekaaGreatDoor
open Go.RowKit

theorem grow_and (M : BitVec 64) : growB M &&& M = M := BitVec.eq_of_getLsbD_eq fun c hc => by
  rw [BitVec.getLsbD_and]
  rcases h : M.getLsbD c with _ | _
  · simp
  · rw [(growB_bit M hc).2 (.inl h)]; rfl
/-- All cells of some masks. -/
def uni (l : List (BitVec 64)) : BitVec 64 := l.foldl (· ||| ·) 0#64
theorem uni_snoc (l : List (BitVec 64)) (D : BitVec 64) : uni (l ++ [D]) = uni l ||| D := by simp [uni]
theorem foldl_or (l : List (BitVec 64)) : ∀ (a : BitVec 64) (c : Nat), (l.foldl (· ||| ·) a).getLsbD c = true ↔ a.getLsbD c = true ∨ ∃ C, C ∈ l ∧ C.getLsbD c = true := by
  induction l with
  | nil => intro a c; simp
  | cons D l ih =>
    intro a c
    rw [List.foldl_cons, ih, BitVec.getLsbD_or, Bool.or_eq_true]
    simp only [List.mem_cons]
    constructor
    · rintro ((h | h) | ⟨C, hC, h⟩)
      · exact .inl h
      · exact .inr ⟨D, .inl rfl, h⟩
      · exact .inr ⟨C, .inr hC, h⟩
    · rintro (h | ⟨C, rfl | hC, h⟩)
      · exact .inl (.inl h)
      · exact .inl (.inr h)
      · exact .inr ⟨C, hC, h⟩
theorem uni_bit (l : List (BitVec 64)) (c : Nat) : (uni l).getLsbD c = true ↔ ∃ C, C ∈ l ∧ C.getLsbD c = true := by
  unfold uni
  rw [foldl_or]
  simp
theorem uni_spots (M : BitVec 64) : uni (spL M 64) = M := BitVec.eq_of_getLsbD_eq fun c hc => by
  rw [Bool.eq_iff_iff, uni_bit, spL_mem]
  exact ⟨fun ⟨j, _, h1, h2⟩ => reach_in h1 h2, fun h => ⟨c, hc, h, .start⟩⟩
/-- What is asked of each spot. -/
def GoodS (M : BitVec 64) (l : List (BitVec 64)) (i : Nat) (D : BitVec 64) : Prop := D ≠ 0#64 ∧ uni (l.take i) &&& D = 0#64 ∧ growB D &&& M = D
theorem comp_ne {M : BitVec 64} {k : Nat} (h : M.getLsbD k = true) : compB M k ≠ 0#64 := bv_ne.2 ⟨k, bit_lt h, (compB_bit h k).2 .start⟩
theorem comp_grow {M : BitVec 64} {k : Nat} (h : M.getLsbD k = true) : growB (compB M k) &&& M = compB M k := BitVec.eq_of_getLsbD_eq fun c hc => by
  rw [Bool.eq_iff_iff, BitVec.getLsbD_and, Bool.and_eq_true, growB_bit _ hc, compB_bit h]
  constructor
  · rintro ⟨h1 | ⟨x, h1, hn⟩, h2⟩
    · exact h1
    · have h3 := (compB_bit h x).1 h1
      exact .next h3 ⟨reach_in h h3, h2, hn⟩
  · intro h1
    exact ⟨.inl h1, reach_in h h1⟩
theorem good_spots (M : BitVec 64) : ∀ k i D, (spL M k)[i]? = some D → GoodS M (spL M k) i D
  | 0, i, D, h => by simp [spL] at h
  | k + 1, i, D, h => by
    by_cases hk : M.getLsbD k = true ∧ ¬ ∃ j, j < k ∧ M.getLsbD j = true ∧ Reach (RM M) j k
    · rw [spL_new hk.1 hk.2] at h ⊢
      by_cases hi : i < (spL M k).length
      · rw [List.getElem?_append_left hi] at h
        have ih := good_spots M k i D h
        unfold GoodS at ih ⊢
        rw [List.take_append_of_le_length (by omega)]
        exact ih
      · obtain rfl : i = (spL M k).length := by
          have := (List.getElem?_eq_some_iff.1 h).1
          simp at this; omega
        rw [List.getElem?_append_right (Nat.le_refl _)] at h
        obtain rfl : compB M k = D := by simpa using h
        refine ⟨comp_ne hk.1, ?_, comp_grow hk.1⟩
        rw [List.take_left' rfl]
        refine BitVec.eq_of_getLsbD_eq fun c hc => ?_
        rw [BitVec.getLsbD_and, BitVec.getLsbD_zero]
        rcases h1 : (uni (spL M k)).getLsbD c with _ | _
        · rfl
        · rcases h2 : (compB M k).getLsbD c with _ | _
          · rfl
          · exfalso
            obtain ⟨j, hj, hM, hr⟩ := (spL_mem k c).1 ((uni_bit _ _).1 h1)
            have h3 := (compB_bit hk.1 c).1 h2
            exact hk.2 ⟨j, hj, hM, hr.trans (h3.symm (RM_symm M))⟩
    · have e : spL M (k + 1) = spL M k := by rw [spL, if_neg hk]
      rw [e] at h ⊢
      exact good_spots M k i D h
/-- The greatest spot, and whether there is one. -/
noncomputable def grB (M : BitVec 64) : BitVec 64 := if M = 0#64 then 0#64 else gB (spF M) ((spL M 64).length - 1)
def grC (M : BitVec 64) : Int := if M = 0#64 then 6 else 0
theorem gstT_eq (M : BitVec 64) : gstT M = #[.int .u64 (bvI (grB M)), .int .i64 (grC M)] := by
  unfold gstT grB grC
  by_cases h : M = 0#64
  · rw [if_pos h, if_pos h, if_pos h]; rfl
  · rw [if_neg h, if_neg h, if_neg h]
theorem gB_ge (f : Nat → BitVec 64) : ∀ k j, j ≤ k → cntB (f j) 64 ≤ cntB (gB f k) 64
  | 0, j, h => by obtain rfl : j = 0 := by omega
                  exact Nat.le_refl _
  | k + 1, j, h => by
    rw [gB]
    rcases Nat.lt_or_ge j (k + 1) with h2 | h2
    · have ih := gB_ge f k j (by omega)
      split <;> omega
    · obtain rfl : j = k + 1 := by omega
      split <;> omega
theorem gB_mem (f : Nat → BitVec 64) : ∀ k, ∃ j, j ≤ k ∧ gB f k = f j
  | 0 => ⟨0, Nat.le_refl _, rfl⟩
  | k + 1 => by
    rw [gB]
    split
    · exact ⟨k + 1, Nat.le_refl _, rfl⟩
    · obtain ⟨j, hj, e⟩ := gB_mem f k
      exact ⟨j, by omega, e⟩
theorem gr_cnt {M D : BitVec 64} {i : Nat} (h : (spL M 64)[i]? = some D) : cntB D 64 ≤ cntB (grB M) 64 := by
  have hl := (List.getElem?_eq_some_iff.1 h).1
  have hM : M ≠ 0#64 := fun e => by subst e; rw [spL_zero] at hl; simp at hl
  unfold grB
  rw [if_neg hM]
  have e : spF M i = D := by unfold spF; rw [List.getD_eq_getElem?_getD, h]; rfl
  rw [← e]
  exact gB_ge _ _ i (by omega)
/-- Is the greatest one among the first ones? -/
noncomputable def someB (M : BitVec 64) (i : Nat) : Bool := decide (M = 0#64) || ((spL M 64).take i).any (· == grB M)
theorem someB_0 (M : BitVec 64) : someB M 0 = decide (M = 0#64) := by simp [someB]
theorem someB_succ {M D : BitVec 64} {i : Nat} (h : (spL M 64)[i]? = some D) : someB M (i + 1) = (someB M i || decide (D = grB M)) := by
  unfold someB
  have hl := (List.getElem?_eq_some_iff.1 h).1
  have e : (spL M 64).take (i + 1) = (spL M 64).take i ++ [D] := by
    rw [List.take_add_one, h]; rfl
  have e2 : (D == grB M) = decide (D = grB M) := by rw [Bool.eq_iff_iff]; simp
  rw [e, List.any_append, Bool.or_assoc]
  simp [e2]
theorem someB_end (M : BitVec 64) : someB M (spL M 64).length = true := by
  unfold someB
  by_cases h : M = 0#64
  · simp [h]
  · have hp := spL_pos h
    obtain ⟨j, hj, e⟩ := gB_mem (spF M) ((spL M 64).length - 1)
    rw [List.take_length]
    simp only [Bool.or_eq_true, List.any_eq_true, beq_iff_eq]
    refine .inr ⟨spF M j, ?_, ?_⟩
    · unfold spF
      rw [List.getD_eq_getElem?_getD, List.getElem?_eq_getElem (by omega)]
      exact List.getElem_mem _
    · unfold grB
      rw [if_neg h, e]
theorem uni_take {M D : BitVec 64} {i : Nat} (h : (spL M 64)[i]? = some D) : uni ((spL M 64).take (i + 1)) = uni ((spL M 64).take i) ||| D := by
  have hl := (List.getElem?_eq_some_iff.1 h).1
  rw [← uni_snoc, List.take_add_one, h]; rfl

/-! ### Repairing -/
section
variable {f : Nat → Int} {m : BitVec 64} {lo hi : Int}
theorem sumB_lh (a : BitVec 64) (h : ∀ x, a.getLsbD x = true → lo ≤ f x ∧ f x ≤ hi) : ∀ j, lo * (cntB a j : Nat) ≤ sumB f a j ∧ sumB f a j ≤ hi * (cntB a j : Nat)
  | 0 => by simp [cntB, sumB]
  | j + 1 => by
    have ih := sumB_lh a h j
    rw [cntB, sumB]
    rcases hb : a.getLsbD j with _ | _
    · simpa [hb] using ih
    · have := h j hb
      simp only [if_true, Int.natCast_add, Int.mul_add]
      simp
      omega
theorem mnV_bd {M : BitVec 64} {k : Nat} (h0 : 0 ≤ lo) (h1 : hi ≤ 400) (hne : aroB M k ≠ 0#64) (h : ∀ x, (aroB M k).getLsbD x = true → lo ≤ f x ∧ f x ≤ hi) : lo ≤ mnV f M k ∧ mnV f M k ≤ hi := by
  have hs := sumB_lh (aroB M k) h 64
  have hc := cntB_pos hne
  unfold mnV
  generalize sumB f (aroB M k) 64 = S at *
  generalize cntB (aroB M k) 64 = C at *
  have hS : 0 ≤ S := Int.le_trans (Int.mul_nonneg h0 (by omega)) hs.1
  rw [Int.tdiv_eq_ediv_of_nonneg hS]
  have a := Int.le_ediv_of_mul_le (show (0 : Int) < (C : Nat) by omega) hs.1
  have b := Int.ediv_le_of_le_mul (show (0 : Int) < (C : Nat) by omega) hs.2
  rw [IntWalk.i16_in _ (by omega)]
  exact ⟨a, b⟩
theorem clF_bd (h0 : 0 ≤ lo) (h1 : hi ≤ 400) (hf : ∀ c, c < 64 → m.getLsbD c = false → lo ≤ f c ∧ f c ≤ hi) : ∀ i c, c < 64 → (itR m i).getLsbD c = false → lo ≤ clF f m i c ∧ clF f m i c ≤ hi
  | 0, c, hc, hb => hf c hc hb
  | i + 1, c, hc, hb => by
    have ih := clF_bd h0 h1 hf i
    rw [clF]
    unfold nwF
    have hb' : (rnd (itR m i)).getLsbD c = false := hb
    unfold rnd at hb'
    rw [BitVec.getLsbD_and, not_bit _ hc] at hb'
    rcases hr : (rimB (itR m i)).getLsbD c with _ | _
    · rw [if_neg (by rintro ⟨_, h⟩; cases h)]
      rw [hr] at hb'
      exact ih c hc (by simpa using hb')
    · rw [if_pos ⟨hc, rfl⟩]
      have h3 := (rimB_iff (itR m i) hc).1 hr
      refine mnV_bd h0 h1 h3.2 fun x hx => ?_
      have hx64 := bit_lt hx
      exact ih x hx64 ((aro_bit (itR m i) hc hx64).1 hx).2
theorem clF_out {c : Nat} (hc : c < 64) (hb : m.getLsbD c = false) : ∀ i, clF f m i c = f c
  | 0 => rfl
  | i + 1 => by
    rw [clF]
    unfold nwF
    rw [if_neg]
    · exact clF_out hc hb i
    · rintro ⟨_, hr⟩
      have h3 := itR_sub i ((rimB_iff (itR m i) hc).1 hr).1
      rw [hb] at h3; cases h3
theorem clF_end {N : Nat} (h0 : 0 ≤ lo) (h1 : hi ≤ 400) (hf : ∀ c, c < 64 → m.getLsbD c = false → lo ≤ f c ∧ f c ≤ hi) (hN : itR m N = 0#64) {c : Nat} (hc : c < 64) : lo ≤ clF f m N c ∧ clF f m N c ≤ hi :=
  clF_bd h0 h1 hf N c hc (by rw [hN]; simp)
/-- The least and the greatest number of the cells that stay. -/
def loF (f : Nat → Int) (m : BitVec 64) : Nat → Int
  | 0 => 400
  | k + 1 => if m.getLsbD k = true then loF f m k else min (loF f m k) (f k)
def hiF (f : Nat → Int) (m : BitVec 64) : Nat → Int
  | 0 => 0
  | k + 1 => if m.getLsbD k = true then hiF f m k else max (hiF f m k) (f k)
theorem loF_bd (hf : ∀ k, k < 64 → 0 ≤ f k ∧ f k ≤ 400) : ∀ k, k ≤ 64 → (0 ≤ loF f m k ∧ loF f m k ≤ 400) ∧ 0 ≤ hiF f m k ∧ hiF f m k ≤ 400
  | 0, _ => by simp [loF, hiF]
  | k + 1, h => by
    have ih := loF_bd hf k (by omega)
    have := hf k (by omega)
    rw [loF, hiF]
    split <;> omega
theorem loF_le {c : Nat} (hb : m.getLsbD c = false) : ∀ k, c < k → loF f m k ≤ f c ∧ f c ≤ hiF f m k
  | 0, h => by omega
  | k + 1, h => by
    rw [loF, hiF]
    rcases Nat.lt_or_ge c k with h1 | h1
    · have ih := loF_le hb k h1
      split <;> omega
    · obtain rfl : c = k := by omega
      rw [hb]
      simp
      omega
end
theorem itR_step (m : BitVec 64) (k : Nat) : itR m k &&& ~~~growB (~~~itR m k) = itR m (k + 1) := by
  show _ = rnd (itR m k)
  generalize itR m k = M
  unfold rnd rimB
  refine BitVec.eq_of_getLsbD_eq fun c hc => ?_
  rw [BitVec.getLsbD_and, BitVec.getLsbD_and, not_bit _ hc, not_bit _ hc, BitVec.getLsbD_and]
  cases M.getLsbD c <;> cases (growB (~~~M)).getLsbD c <;> rfl
end Go.Proofs.YtiinkfnamhcekaaGreatDoor

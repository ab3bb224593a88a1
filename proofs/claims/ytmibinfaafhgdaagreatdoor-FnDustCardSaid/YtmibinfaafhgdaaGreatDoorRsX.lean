/-
  Plain: the rim of a mask, the rounds till no cell is left, the number of its cells. Of whatever mask; no condition.
-/
import Derived.Test.YtmibinfaafhgdaaGreatDoorSpX
import Derived.Test.YtmibinfaafhgdaaGreatDoorPsX
namespace Go.Proofs.YtmibinfaafhgdaaGreatDoor

theorem bitR_of (k c : Nat) (hk : k < 64) : (1#64 <<< k).getLsbD c = decide (c = k) := by
  rw [BitVec.getLsbD_shiftLeft, BitVec.getLsbD_one]
  by_cases e : c = k
  · subst e; simp [hk]
  · by_cases h : c < k
    · simp [e, h]
    · have : ¬ c - k = 0 := by omega
      simp [e, this]
theorem not_bit (m : BitVec 64) {c : Nat} (hc : c < 64) : (~~~m).getLsbD c = !m.getLsbD c := by
  rw [BitVec.getLsbD_not]; simp [hc]
/-- The neighbours of a cell that a mask does not hold. -/
def aroB (m : BitVec 64) (k : Nat) : BitVec 64 := growB (1#64 <<< k) &&& ~~~(1#64 <<< k) &&& ~~~m
def rimB (m : BitVec 64) : BitVec 64 := m &&& growB (~~~m)
theorem aro_bit (m : BitVec 64) {k x : Nat} (hk : k < 64) (hx : x < 64) : (aroB m k).getLsbD x = true ↔ nbN k x ∧ m.getLsbD x = false := by
  unfold aroB
  rw [BitVec.getLsbD_and, BitVec.getLsbD_and, not_bit _ hx, not_bit _ hx, bitR_of k x hk]
  simp only [Bool.and_eq_true, Bool.not_eq_true', decide_eq_false_iff_not]
  rw [growB_bit _ hx, bitR_of k x hk]
  constructor
  · rintro ⟨⟨h | ⟨y, h1, h2⟩, h3⟩, h4⟩
    · exact absurd (by simpa using h) h3
    · rw [bitR_of k y hk] at h1
      obtain rfl : y = k := by simpa using h1
      exact ⟨h2, h4⟩
  · rintro ⟨h1, h2⟩
    refine ⟨⟨.inr ⟨k, by rw [bitR_of k k hk]; simp, h1⟩, ?_⟩, h2⟩
    unfold nbN at h1; omega
theorem bv_ne {a : BitVec 64} : a ≠ 0#64 ↔ ∃ x, x < 64 ∧ a.getLsbD x = true := by
  constructor
  · intro h
    apply Classical.byContradiction
    intro hn
    apply h
    refine BitVec.eq_of_getLsbD_eq fun i hi => ?_
    rcases hb : a.getLsbD i with _ | _
    · simp
    · exact absurd ⟨i, hi, hb⟩ hn
  · rintro ⟨x, _, h⟩ e
    rw [e] at h; simp at h
theorem rimB_iff (m : BitVec 64) {k : Nat} (hk : k < 64) : (rimB m).getLsbD k = true ↔ m.getLsbD k = true ∧ aroB m k ≠ 0#64 := by
  unfold rimB
  rw [BitVec.getLsbD_and, Bool.and_eq_true, growB_bit _ hk, not_bit _ hk, bv_ne]
  constructor
  · rintro ⟨h1, h | ⟨x, h2, h3⟩⟩
    · rw [h1] at h; cases h
    · have hx := bit_lt h2
      rw [not_bit _ hx] at h2
      exact ⟨h1, x, hx, (aro_bit m hk hx).2 ⟨nbN_symm h3, by simpa using h2⟩⟩
  · rintro ⟨h1, x, hx, h2⟩
    obtain ⟨h3, h4⟩ := (aro_bit m hk hx).1 h2
    exact ⟨h1, .inr ⟨x, by rw [not_bit _ hx, h4]; rfl, nbN_symm h3⟩⟩

/-! ### THERE IS A RIM -/
theorem conn_down (P : Nat → Prop) (hP : ∀ x y, x < 64 → y < 64 → nbN x y → P x → P y) : ∀ c, c < 64 → P c → P 0 := by
  intro c
  induction c using Nat.strongRecOn with
  | _ c ih =>
    intro hc h
    by_cases h0 : c = 0
    · subst h0; exact h
    · by_cases h8 : c % 8 = 0
      · exact ih (c - 8) (by omega) (by omega) (hP c (c - 8) hc (by omega) (by unfold nbN; omega) h)
      · exact ih (c - 1) (by omega) (by omega) (hP c (c - 1) hc (by omega) (by unfold nbN; omega) h)
theorem conn_up (P : Nat → Prop) (hP : ∀ x y, x < 64 → y < 64 → nbN x y → P x → P y) (h0 : P 0) : ∀ c, c < 64 → P c := by
  intro c
  induction c using Nat.strongRecOn with
  | _ c ih =>
    intro hc
    by_cases h1 : c = 0
    · subst h1; exact h0
    · by_cases h8 : c % 8 = 0
      · exact hP (c - 8) c (by omega) hc (by unfold nbN; omega) (ih (c - 8) (by omega) (by omega))
      · exact hP (c - 1) c (by omega) hc (by unfold nbN; omega) (ih (c - 1) (by omega) (by omega))
theorem rim_some {m : BitVec 64} (h0 : m ≠ 0#64) (h1 : ∃ c, c < 64 ∧ m.getLsbD c = false) : ∃ c, c < 64 ∧ (rimB m).getLsbD c = true := by
  apply Classical.byContradiction
  intro hno
  have hP : ∀ x y, x < 64 → y < 64 → nbN x y → m.getLsbD x = true → m.getLsbD y = true := by
    intro x y hx hy hn h
    rcases hb : m.getLsbD y with _ | _
    · exfalso
      apply hno
      refine ⟨x, hx, (rimB_iff m hx).2 ⟨h, bv_ne.2 ⟨y, hy, (aro_bit m hx hy).2 ⟨hn, hb⟩⟩⟩⟩
    · rfl
  obtain ⟨a, ha, h2⟩ := bv_ne.1 h0
  obtain ⟨c, hc, h3⟩ := h1
  have := conn_up (fun x => m.getLsbD x = true) hP (conn_down (fun x => m.getLsbD x = true) hP a ha h2) c hc
  simp only [h3] at this
  cases this

/-! ### THE NUMBER OF CELLS -/
def cntB (a : BitVec 64) : Nat → Nat
  | 0 => 0
  | j + 1 => cntB a j + if a.getLsbD j = true then 1 else 0
theorem cntB_le (a : BitVec 64) : ∀ j, cntB a j ≤ j
  | 0 => Nat.le_refl _
  | j + 1 => by have := cntB_le a j; unfold cntB; split <;> omega
theorem cntB_mono {a b : BitVec 64} (h : ∀ c, a.getLsbD c = true → b.getLsbD c = true) : ∀ j, cntB a j ≤ cntB b j
  | 0 => Nat.le_refl _
  | j + 1 => by
    have := cntB_mono h j
    unfold cntB
    by_cases e : a.getLsbD j = true
    · rw [if_pos e, if_pos (h j e)]; omega
    · rw [if_neg e]; split <;> omega
theorem cntB_strict {a b : BitVec 64} (h : ∀ c, a.getLsbD c = true → b.getLsbD c = true) {c : Nat} (h1 : a.getLsbD c = false) (h2 : b.getLsbD c = true) : ∀ j, c < j → cntB a j < cntB b j
  | 0, hj => by omega
  | j + 1, hj => by
    unfold cntB
    by_cases e : c = j
    · subst e
      have := cntB_mono h c
      rw [h1, h2]; simp; omega
    · have := cntB_strict h h1 h2 j (by omega)
      by_cases e : a.getLsbD j = true
      · rw [if_pos e, if_pos (h j e)]; omega
      · rw [if_neg e]; split <;> omega
theorem cntB_pos {a : BitVec 64} (h : a ≠ 0#64) : 1 ≤ cntB a 64 := by
  obtain ⟨x, hx, h2⟩ := bv_ne.1 h
  have h0 : ∀ j, cntB 0#64 j = 0 := by
    intro j
    induction j with
    | zero => rfl
    | succ j ih => unfold cntB; rw [ih]; simp
  have := cntB_strict (a := 0#64) (b := a) (fun c h => by simp at h) (c := x) (by simp) h2 64 hx
  omega
theorem cntB_end {a : BitVec 64} {j : Nat} (hj : j ≤ 64) (h : a >>> j = 0#64) : cntB a 64 = cntB a j := by
  have hz : ∀ i, j ≤ i → a.getLsbD i = false := by
    intro i hi
    have := congrArg (fun x => BitVec.getLsbD x (i - j)) h
    simp only [BitVec.getLsbD_ushiftRight, BitVec.getLsbD_zero] at this
    rwa [show j + (i - j) = i by omega] at this
  have : ∀ d, cntB a (j + d) = cntB a j := by
    intro d
    induction d with
    | zero => rfl
    | succ d ih =>
      have e : cntB a (j + (d + 1)) = cntB a (j + d) + if a.getLsbD (j + d) = true then 1 else 0 := rfl
      rw [e, hz (j + d) (by omega), ih]; simp
  have h2 := this (64 - j)
  rwa [show j + (64 - j) = 64 by omega] at h2

/-! ### THE ROUNDS -/
def rnd (m : BitVec 64) : BitVec 64 := m &&& ~~~rimB m
def itR (m : BitVec 64) : Nat → BitVec 64
  | 0 => m
  | i + 1 => rnd (itR m i)
theorem rnd_sub {m : BitVec 64} {c : Nat} (h : (rnd m).getLsbD c = true) : m.getLsbD c = true := by
  unfold rnd at h
  rw [BitVec.getLsbD_and, Bool.and_eq_true] at h
  exact h.1
theorem itR_sub {m : BitVec 64} {c : Nat} : ∀ i, (itR m i).getLsbD c = true → m.getLsbD c = true
  | 0, h => h
  | i + 1, h => itR_sub i (rnd_sub h)
theorem rnd_less {m : BitVec 64} (h0 : m ≠ 0#64) (h1 : ∃ c, c < 64 ∧ m.getLsbD c = false) : cntB (rnd m) 64 < cntB m 64 := by
  obtain ⟨c, hc, h⟩ := rim_some h0 h1
  refine cntB_strict (fun c h => rnd_sub h) (c := c) ?_ ((rimB_iff m hc).1 h).1 64 hc
  unfold rnd
  rw [BitVec.getLsbD_and, not_bit _ hc, h]; simp
theorem rounds_ex {m : BitVec 64} (h1 : ∃ c, c < 64 ∧ m.getLsbD c = false) : ∃ N, N ≤ 64 ∧ itR m N = 0#64 ∧ ∀ i, i < N → itR m i ≠ 0#64 := by
  have key : ∀ f i, cntB (itR m i) 64 ≤ f → i + f ≤ 64 → (∀ j, j < i → itR m j ≠ 0#64) → ∃ N, N ≤ 64 ∧ itR m N = 0#64 ∧ ∀ i, i < N → itR m i ≠ 0#64 := by
    intro f
    induction f with
    | zero =>
      intro i hc hf hi
      refine ⟨i, by omega, ?_, hi⟩
      apply Classical.byContradiction
      intro hn
      have := cntB_pos hn
      omega
    | succ f ih =>
      intro i hc hf hi
      by_cases h0 : itR m i = 0#64
      · exact ⟨i, by omega, h0, hi⟩
      · have hl : cntB (itR m (i + 1)) 64 < cntB (itR m i) 64 := by
          refine rnd_less h0 ?_
          obtain ⟨c, hc, h⟩ := h1
          refine ⟨c, hc, ?_⟩
          rcases hb : (itR m i).getLsbD c with _ | _
          · rfl
          · rw [itR_sub i hb] at h; cases h
        refine ih (i + 1) (by omega) (by omega) fun j hj => ?_
        by_cases e : j = i
        · subst e; exact h0
        · exact hi j (by omega)
  exact key 64 0 (cntB_le _ _) (by omega) fun j hj => by omega
theorem not_all {m : BitVec 64} (h : m ≠ 18446744073709551615#64) : ∃ c, c < 64 ∧ m.getLsbD c = false := by
  apply Classical.byContradiction
  intro hn
  apply h
  refine BitVec.eq_of_getLsbD_eq fun i hi => ?_
  rcases hb : m.getLsbD i with _ | _
  · exact absurd ⟨i, hi, hb⟩ hn
  · have : ∀ i, i < 64 → (18446744073709551615#64).getLsbD i = true := by decide +kernel
    rw [this i hi]
end Go.Proofs.YtmibinfaafhgdaaGreatDoor

namespace Go.Proofs.YtmibinfaafhgdaaGreatDoor
open Go.RowKit

theorem one_bv : bvI 1#64 = 1 := rfl
theorem zero_bv : bvI 0#64 = 0 := rfl
theorem low_bit (X : BitVec 64) : X &&& 1#64 = if X.getLsbD 0 = true then 1#64 else 0#64 := by
  refine BitVec.eq_of_getLsbD_eq fun i hi => ?_
  rw [BitVec.getLsbD_and, BitVec.getLsbD_one]
  by_cases e : i = 0
  · subst e
    rcases X.getLsbD 0 with _ | _ <;> simp
  · rcases X.getLsbD 0 with _ | _ <;> simp [e]

set_option maxHeartbeats 1000000 in
theorem l07Count_any (a : BitVec 64) (w : World) :
    Calls Tryz.prog 33 #[.int .u64 (bvI a)] w fun e w' => e = .returned (.int .i64 ((cntB a 64 : Nat) : Int)) ∧ w = w' := by
  go_enter Tryz.func33, Tryz.ntmps33
  go_wp2_with fail
  go_loopw [0, 3] (fun mv nv wr => ∃ j : Nat, j ≤ 64 ∧ mv = .int .u64 (bvI (a >>> j)) ∧ nv = .int .i64 ((cntB a j : Nat) : Int) ∧ wr = w) (fun mv _ _ => (intOf mv).toNat)
  case atStart => exact ⟨0, by omega, congrArg (Value.int .u64) (by simp), rfl, rfl⟩
  case round =>
    obtain ⟨j, hj, rfl, rfl, rfl⟩ := hrel
    by_cases hx : a >>> j = 0#64
    · have hz := Lib.hid (cntB_end hj hx)
      have h00 := zero_bv
      rw [hx]
      generalize hC : cntB a j = C at *
      clear hx hC
      go_wp2_with fail
      go_ret
      exact ⟨ret_int (by rw [hz.out]), rfl⟩
    · have hjl : j < 64 := by
        refine Nat.lt_of_not_le fun h => hx ?_
        refine BitVec.eq_of_getLsbD_eq fun i _ => ?_
        rw [BitVec.getLsbD_ushiftRight, BitVec.getLsbD_of_ge _ _ (by omega)]; simp
      have hle := cntB_le a j
      have hne : ¬ bvI (a >>> j) = 0 := fun e => hx (bvI_inj.1 (e.trans zero_bv.symm))
      have hs : Hid (a >>> j >>> 1 = a >>> (j + 1)) := Lib.hid (by rw [BitVec.shiftRight_add])
      have hc : Hid (cntB a (j + 1) = cntB a j + if (a >>> j).getLsbD 0 = true then 1 else 0) := Lib.hid (by rw [BitVec.getLsbD_ushiftRight]; rfl)
      have hand := low_bit (a >>> j)
      have hlt : Hid ((bvI (a >>> (j + 1))).toNat < (bvI (a >>> j)).toNat) := Lib.hid (by
        rw [← hs.out]
        unfold bvI at hne ⊢
        rw [BitVec.toNat_ushiftRight, Nat.shiftRight_eq_div_pow]
        generalize (a >>> j).toNat = q at *
        omega)
      have h00 := zero_bv
      have h11 := one_bv
      rcases hb : (a >>> j).getLsbD 0 with _ | _
      · rw [hb] at hc hand
        simp only [Bool.false_eq_true, if_false] at hc hand
        generalize hX : a >>> j = X at *
        generalize hC : cntB a j = C at *
        clear hb hX hx
        go_wp2_with (first
          | (refine wpList_yield rfl (run_and_bv (a := X) (b := 1#64) rfl rfl rfl) ?_; rw [hand])
          | (refine wpList_yield rfl (run_shr_bv (κ := .u64) (a := X) (k := 1) rfl rfl rfl (by decide)) ?_))
        go_roundw
        case rel => exact ⟨j + 1, by omega, by rw [hs.out], by rw [hc.out]; go_num, trivial⟩
        case measure => simp only [intOf]; rw [hs.out]; exact hlt.out
      · rw [hb] at hc hand
        simp only [if_true] at hc hand
        generalize hX : a >>> j = X at *
        generalize hC : cntB a j = C at *
        clear hb hX hx
        go_wp2_with (first
          | (refine wpList_yield rfl (run_and_bv (a := X) (b := 1#64) rfl rfl rfl) ?_; rw [hand])
          | (refine wpList_yield rfl (run_shr_bv (κ := .u64) (a := X) (k := 1) rfl rfl rfl (by decide)) ?_))
        go_roundw
        case rel => exact ⟨j + 1, by omega, by rw [hs.out], by rw [hc.out]; go_num, trivial⟩
        case measure => simp only [intOf]; rw [hs.out]; exact hlt.out

/-! ### A ROUND -/
/-- The sum of the first cells of a mask. -/
def sumB (f : Nat → Int) (a : BitVec 64) : Nat → Int
  | 0 => 0
  | i + 1 => sumB f a i + if a.getLsbD i = true then f i else 0
theorem sumB_bd {f : Nat → Int} (hf : S16 f) (a : BitVec 64) : ∀ i : Nat, i ≤ 64 → -32768 * (i : Int) ≤ sumB f a i ∧ sumB f a i ≤ 32768 * (i : Int)
  | 0, _ => by simp [sumB]
  | i + 1, h => by
    have h1 := sumB_bd hf a i (by omega)
    have h2 := hf i (by omega)
    unfold sumB
    split <;> omega
/-- The mean of the neighbours that a mask does not hold, as a number of 16 bits. -/
def mnV (f : Nat → Int) (m : BitVec 64) (k : Nat) : Int := IntKind.i16.wrap ((sumB f (aroB m k) 64).tdiv ((cntB (aroB m k) 64 : Nat) : Int))
/-- Cells after a round, as far as cell k. -/
def nwF (f : Nat → Int) (m : BitVec 64) (k : Nat) (c : Nat) : Int := if c < k ∧ (rimB m).getLsbD c = true then mnV f m c else f c
theorem nwF_yes {f : Nat → Int} {m : BitVec 64} {k : Nat} (h : (rimB m).getLsbD k = true) (j : Nat) : upd (nwF f m k) k (mnV f m k) j = nwF f m (k + 1) j := by
  unfold upd nwF
  by_cases e : j = k
  · subst e; simp [h]
  · have : (j < k + 1) = (j < k) := by simp; omega
    rw [if_neg e]; simp only [this]
theorem nwF_no {f : Nat → Int} {m : BitVec 64} {k : Nat} (h : (rimB m).getLsbD k = false) : nwF f m (k + 1) = nwF f m k := by
  funext j
  unfold nwF
  by_cases e : j = k
  · subst e; simp [h]
  · have : (j < k + 1) = (j < k) := by simp; omega
    simp only [this]
theorem i16_bd (x : Int) : -32768 ≤ IntKind.i16.wrap x ∧ IntKind.i16.wrap x ≤ 32767 := by
  have e : IntKind.i16.wrap x = if (true && decide (x % 65536 ≥ 32768)) = true then x % 65536 - 65536 else x % 65536 := rfl
  rw [e]
  by_cases h : x % 65536 ≥ 32768
  · simp only [h, decide_true, Bool.and_self, if_true]; omega
  · simp only [h, decide_false, Bool.and_false, Bool.false_eq_true, if_false]; omega
theorem nwF_s {f : Nat → Int} (hf : S16 f) (m : BitVec 64) (k : Nat) : S16 (nwF f m k) := by
  intro c hc
  unfold nwF
  split
  · unfold mnV
    exact i16_bd _
  · exact hf c hc
theorem nwF_0 (f : Nat → Int) (m : BitVec 64) : nwF f m 0 = f := by funext c; simp [nwF]
/-- The cells that are left of the first k. -/
def ltB (m L : BitVec 64) (k : Nat) : Prop := ∀ c, c < 64 → L.getLsbD c = (m.getLsbD c && !(decide (c < k) && (rimB m).getLsbD c))
theorem ltB_0 (m : BitVec 64) : ltB m m 0 := fun c _ => by simp
theorem ltB_end {m L : BitVec 64} (h : ltB m L 64) : L = rnd m := by
  refine BitVec.eq_of_getLsbD_eq fun i hi => ?_
  unfold rnd
  rw [h i hi, BitVec.getLsbD_and, not_bit _ hi]; simp [hi]
theorem ltB_no {m L : BitVec 64} {k : Nat} (h : ltB m L k) (hr : (rimB m).getLsbD k = false) : ltB m L (k + 1) := fun c hc => by
  rw [h c hc]
  by_cases e : c = k
  · subst e; simp [hr]
  · have : decide (c < k + 1) = decide (c < k) := decide_eq_decide.2 (by omega)
    rw [this]
theorem ltB_yes {m L : BitVec 64} {k : Nat} (hk : k < 64) (h : ltB m L k) (hr : (rimB m).getLsbD k = true) : ltB m (L &&& ~~~(1#64 <<< k)) (k + 1) := fun c hc => by
  rw [BitVec.getLsbD_and, not_bit _ hc, bitR_of k c hk, h c hc]
  by_cases e : c = k
  · subst e; simp [hr]
  · have : decide (c < k + 1) = decide (c < k) := decide_eq_decide.2 (by omega)
    rw [this]; simp [e]
theorem and_bitR {N : BitVec 64} {k : Nat} (hk : k < 64) : N &&& 1#64 <<< k = if N.getLsbD k = true then 1#64 <<< k else 0#64 := BitVec.eq_of_getLsbD_eq fun i _ => by
  rw [BitVec.getLsbD_and, bitR_of k i hk]
  by_cases e : i = k
  · subst e
    rcases hb : N.getLsbD i with _ | _
    · simp
    · simp [bitR_of i i hk]
  · rcases hb : N.getLsbD k with _ | _
    · simp [e]
    · simp [bitR_of k i hk, e]
theorem bit_ne0 {k : Nat} (hk : k < 64) : (bvI (1#64 <<< k) == 0) = false := beq_eq_false_iff_ne.2 (fun e => by
  have h := bvI_inj.1 (e.trans zero_bv.symm)
  have := bitR_of k k hk
  rw [h] at this; simp at this)

end Go.Proofs.YtmibinfaafhgdaaGreatDoor

/-
  The dust in all of some copies, by the program. Condition: every copy of the list is one of those whose dust the map holds; 16-bit numbers.
-/
import Derived.Test.YtmibinfaafhgdaaGreatDoorFewU
import Derived.Test.YtmibinfaafhgdaaGreatDoorFewX
namespace Go.Proofs.YtmibinfaafhgdaaGreatDoor
open Go.RowKit

/-- What all of the first k masks have. -/
def anD (c : Nat → BitVec 64) : Nat → BitVec 64
  | 0 => BitVec.allOnes 64
  | k + 1 => anD c k &&& c k
theorem anD_congr {c d : Nat → BitVec 64} : ∀ {n : Nat}, (∀ i, i < n → c i = d i) → anD c n = anD d n
  | 0, _ => rfl
  | n + 1, h => by unfold anD; rw [anD_congr (n := n) fun i hi => h i (by omega), h n (by omega)]

set_option maxRecDepth 100000 in
set_option maxHeartbeats 4000000 in
theorem dustInAll_any (M : Nat → Int) (b N k0 : Nat) (g : Nat → Nat → Int) (G : Nat → Int) (D : Nat → BitVec 64) (hG : ∀ i, i < k0 → G i = bvI (D i)) (hs : ∀ i, i < k0 → S16 (g i))
    (A : Option Addr) (n cap : Nat) (F : Nat → Nat → Int) (ix : Nat → Nat) (hix : ∀ i, i < n → ix i < k0 ∧ F i = g (ix i)) (hn : n ≤ 1048576) (w : World) (hm : DMap w b N g G k0) (hr : PrsIn w A n F) :
    Calls Tryz.prog 55 #[.agg (dsV M b), .slice A n cap] w fun e w' => e = .returned (.int .u64 (bvI (anD (fun i => D (ix i)) n))) ∧ Below w.heap.size w w' := by
  have a0 : HasDs (w.alloc (.cells (dsV M b) 90)) w.heap.size M b := heap_alloc_last w _
  have kk := (Below.refl w.heap.size w).alloc (Nat.le_refl _) (.cells (dsV M b) 90)
  have sz : (w.alloc (.cells (dsV M b) 90)).heap.size = w.heap.size + 1 := by simp
  have HR := Lib.hid hr; have HM := Lib.hid hm; have HG := Lib.hid hG; have HS := Lib.hid hs; have HX := Lib.hid hix
  clear hr hm hG hs hix
  go_enter Tryz.func55, Tryz.ntmps55
  go_wp2_with fail
  generalize w.alloc (.cells (dsV M b) 90) = W1 at *
  have hlast : bvI (BitVec.allOnes 64) = 18446744073709551615 := by decide
  go_loopw [5, 10] (fun lv iv wr => ∃ k : Nat, k ≤ n ∧ iv = .int .i64 (k : Int) ∧ lv = .int .u64 (bvI (anD (fun i => D (ix i)) k)) ∧ HasDs wr w.heap.size M b ∧ Below w.heap.size w wr) (fun _ iv _ => n - (intOf iv).toNat)
  case atStart => exact ⟨0, Nat.zero_le _, rfl, by show _ = Value.int .u64 (bvI (BitVec.allOnes 64)); rw [hlast], a0, kk⟩
  case round =>
    clear a0 kk sz
    obtain ⟨k, hk, rfl, rfl, ha, hB⟩ := hrel
    by_cases hlt : k < n
    · have hlt' : (k : Int) < n := by omega
      rcases HR.out.below hB (Nat.le_refl _) with h0 | ⟨q, o, rfl, hlb, hcc⟩
      · exfalso; omega
      have p0 := hcc k hlt
      have hxk := HX.out k hlt
      have hGk := HG.out (ix k) hxk.1
      have hsk := HS.out (ix k) hxk.1
      have hst : Hid (anD (fun i => D (ix i)) k &&& D (ix k) = anD (fun i => D (ix i)) (k + 1)) := Lib.hid rfl
      rw [hxk.2] at p0
      have hixl := hxk.1
      generalize anD (fun i => D (ix i)) k = X at *
      have z0 := HasArr.zero wr 29 (b := wr.heap.size) rfl
      have z1 := z0.setRow .i16 (g (ix k))
      have kA := below_setRow ((Below.refl wr.heap.size wr).alloc (Nat.le_refl _) (.cells #[.int .i16 0, .int .i16 0, .int .i16 0, .int .i16 0, .int .i16 0, .int .i16 0, .int .i16 0, .int .i16 0, .int .i16 0, .int .i16 0, .int .i16 0, .int .i16 0, .int .i16 0, .int .i16 0, .int .i16 0, .int .i16 0, .int .i16 0, .int .i16 0, .int .i16 0, .int .i16 0, .int .i16 0, .int .i16 0, .int .i16 0, .int .i16 0, .int .i16 0, .int .i16 0, .int .i16 0, .int .i16 0, .int .i16 0, .int .i16 0, .int .i16 0, .int .i16 0, .int .i16 0, .int .i16 0, .int .i16 0, .int .i16 0, .int .i16 0, .int .i16 0, .int .i16 0, .int .i16 0, .int .i16 0, .int .i16 0, .int .i16 0, .int .i16 0, .int .i16 0, .int .i16 0, .int .i16 0, .int .i16 0, .int .i16 0, .int .i16 0, .int .i16 0, .int .i16 0, .int .i16 0, .int .i16 0, .int .i16 0, .int .i16 0, .int .i16 0, .int .i16 0, .int .i16 0, .int .i16 0, .int .i16 0, .int .i16 0, .int .i16 0, .int .i16 0] 29)) (b := wr.heap.size) (Nat.le_refl _) (arrV .i16 64 (g (ix k)))
      have a1 := ha.below kA ha.lt
      have dm := (HM.out.below hB HM.out.lt).below kA (HM.out.below hB HM.out.lt).lt
      have HB := Lib.hid (hB.trans (kA.mono hB.size))
      have cm := a1.map
      have HA1 := Lib.hid a1
      have HGk := Lib.hid hGk
      clear hB kA hcc hxk ha a1 hGk
      go_wp2_with (first
        | (refine wpList_load_part p0 29 (.tmp 12) rfl rfl rfl Tryz.underlying29 sizePrint ?_)
        | (refine wpList_store_arr z0 29 (.tmp 7) (.tmp 13) rfl rfl rfl rfl sizePrint ?_)
        | (refine wpList_load_arr z1 29 (.tmp 7) rfl rfl rfl Tryz.underlying29 sizePrint ?_)
        | (refine wpList_lookup_dm dm hixl hsk rfl (.tmp 16) (.tmp 17) rfl rfl rfl ?_; rw [HGk.out])
        | (refine wpList_yield rfl (run_and_bv (a := X) (b := D (ix k)) rfl rfl rfl) ?_))
      go_roundw
      case rel => exact ⟨k + 1, by omega, by go_num, by rw [← hst.out], HA1.out, HB.out⟩
      case measure => simp [intOf]; omega
    · obtain rfl : n = k := by omega
      go_wp2_with fail
      go_ret
      exact ⟨rfl, hB⟩
end Go.Proofs.YtmibinfaafhgdaaGreatDoor

namespace Go.Proofs.YtmibinfaafhgdaaGreatDoor
open Go.RowKit

theorem isF_mem {x : Nat → Int} {n : Nat} : ∀ i, i ≤ n → ∀ j, j < i → ∃ m, m < i ∧ isF x i j = x m
  | 0, _, j, hj => by omega
  | i + 1, hi, j, hj => by
    have ih := isF_mem (x := x) (n := n) i (by omega)
    have hp := posF_le (isF x i) (x i) i
    show ∃ m, m < i + 1 ∧ shF (isF x i) (x i) (posF (isF x i) (x i) i) j = x m
    by_cases h1 : j < posF (isF x i) (x i) i
    · rw [shF_lt h1]
      obtain ⟨m, h2, h3⟩ := ih j (by omega)
      exact ⟨m, by omega, h3⟩
    · by_cases h2 : j = posF (isF x i) (x i) i
      · rw [h2, shF_eq]; exact ⟨i, by omega, rfl⟩
      · have h3 : shF (isF x i) (x i) (posF (isF x i) (x i) i) j = isF x i (j - 1) := by
          obtain ⟨j, rfl⟩ : ∃ q, j = q + 1 := ⟨j - 1, by omega⟩
          rw [shF_gt (by omega)]
          try rfl
        rw [h3]
        obtain ⟨m, h4, h5⟩ := ih (j - 1) (by omega)
        exact ⟨m, by omega, h5⟩
/-- In each cell some copy has no dust. -/
theorem some_clean {n : Nat} {g : Nat → Nat → Int} {x : Int} (h : copC n g x = 0) {k : Nat} (hk : k < 64) : ∃ i, i < n ∧ (dBs g n x i).getLsbD k = false := by
  have h8 := copC_pos h
  have hx : 0 ≤ x := by
    unfold copC at h
    split at h
    · split at h
      · split at h
        · rename_i h3
          exact (inB_true.1 h3).1
        · cases h
      · cases h
    · cases h
  obtain ⟨i, h1, h2⟩ := isF_mem (x := fun i => g i k) (n := n) n (Nat.le_refl _) ((n - 1) / 2) (by omega)
  refine ⟨i, h1, ?_⟩
  have h3 : medF g n k = g i k := h2
  unfold dBs dusB
  rw [mkB_bit _ hk]
  unfold dusP drkP
  rw [h3]
  simp; omega
theorem anD_bit (c : Nat → BitVec 64) (k : Nat) (hk : k < 64) : ∀ n, (anD c n).getLsbD k = false ↔ ∃ i, i < n ∧ (c i).getLsbD k = false
  | 0 => by
    unfold anD
    rw [BitVec.getLsbD_allOnes]
    simp [hk]
  | n + 1 => by
    unfold anD
    rw [BitVec.getLsbD_and, Bool.and_eq_false_iff, anD_bit c k hk n]
    constructor
    · rintro (⟨i, h1, h2⟩ | h)
      · exact ⟨i, by omega, h2⟩
      · exact ⟨n, by omega, h⟩
    · rintro ⟨i, h1, h2⟩
      by_cases e : i = n
      · subst e; exact .inr h2
      · exact .inl ⟨i, by omega, h2⟩
/-- What all copies have dust in: nothing. -/
theorem anD_all {n : Nat} {g : Nat → Nat → Int} {x : Int} (h : copC n g x = 0) : anD (dBs g n x) n = 0#64 := BitVec.eq_of_getLsbD_eq fun k hk => by
  rw [(anD_bit _ k hk n).2 (some_clean h hk)]; simp
theorem anD_nil (c : Nat → BitVec 64) : anD c 0 ≠ 0#64 := by show BitVec.allOnes 64 ≠ 0#64; decide
theorem subI_mem (t : Nat) : ∀ (n i : Nat), (∃ j, j < (subI t n).length ∧ (subI t n).getD j 0 = (i : Int)) ↔ i < n ∧ t.testBit i = true
  | 0, i => by simp [subI]
  | n + 1, i => by
    have ih := subI_mem t n i
    rcases hb : t.testBit n with _ | _
    · rw [subI_no hb, ih]
      constructor
      · rintro ⟨h1, h2⟩; exact ⟨by omega, h2⟩
      · rintro ⟨h1, h2⟩
        refine ⟨?_, h2⟩
        by_cases e : i = n
        · subst e; rw [hb] at h2; cases h2
        · omega
    · rw [subI_yes hb]
      constructor
      · rintro ⟨j, h1, h2⟩
        by_cases e : j < (subI t n).length
        · have := ih.1 ⟨j, e, by rw [List.getD_eq_getElem?_getD, List.getElem?_append_left e] at h2; rw [List.getD_eq_getElem?_getD]; exact h2⟩
          exact ⟨by omega, this.2⟩
        · have e2 : j = (subI t n).length := by simp at h1; omega
          subst e2
          rw [List.getD_eq_getElem?_getD, List.getElem?_append_right (Nat.le_refl _)] at h2
          have : n = i := by
            have h3 : (n : Int) = i := by simpa using h2
            omega
          subst this
          exact ⟨by omega, hb⟩
      · rintro ⟨h1, h2⟩
        by_cases e : i = n
        · refine ⟨(subI t n).length, by simp, ?_⟩
          rw [List.getD_eq_getElem?_getD, List.getElem?_append_right (Nat.le_refl _)]; simp [e]
        · obtain ⟨j, h3, h4⟩ := ih.2 ⟨by omega, h2⟩
          refine ⟨j, by simp; omega, ?_⟩
          rw [List.getD_eq_getElem?_getD, List.getElem?_append_left h3, ← List.getD_eq_getElem?_getD]; exact h4
theorem subI_lt (t n : Nat) : ∀ j, j < (subI t n).length → ∃ i : Nat, (subI t n).getD j 0 = (i : Int) ∧ i < n ∧ t.testBit i = true := by
  induction n with
  | zero => intro j hj; simp [subI] at hj
  | succ n ih =>
    intro j hj
    rcases hb : t.testBit n with _ | _
    · rw [subI_no hb] at hj ⊢
      obtain ⟨i, h1, h2, h3⟩ := ih j hj
      exact ⟨i, h1, by omega, h3⟩
    · rw [subI_yes hb] at hj ⊢
      by_cases e : j < (subI t n).length
      · obtain ⟨i, h1, h2, h3⟩ := ih j e
        exact ⟨i, by rw [List.getD_eq_getElem?_getD, List.getElem?_append_left e, ← List.getD_eq_getElem?_getD]; exact h1, by omega, h3⟩
      · have e2 : j = (subI t n).length := by simp at hj; omega
        subst e2
        exact ⟨n, by rw [List.getD_eq_getElem?_getD, List.getElem?_append_right (Nat.le_refl _)]; simp, by omega, hb⟩
theorem unS_bit (c : Nat → BitVec 64) (t k : Nat) : ∀ n, (unS c t n).getLsbD k = true ↔ ∃ i, i < n ∧ t.testBit i = true ∧ (c i).getLsbD k = true
  | 0 => by simp [unS]
  | n + 1 => by
    have ih := unS_bit c t k n
    rcases hb : t.testBit n with _ | _
    · rw [unS_no hb, ih]
      constructor
      · rintro ⟨i, h1, h2⟩; exact ⟨i, by omega, h2⟩
      · rintro ⟨i, h1, h2, h3⟩
        refine ⟨i, ?_, h2, h3⟩
        by_cases e : i = n
        · subst e; rw [hb] at h2; cases h2
        · omega
    · rw [unS_yes hb, BitVec.getLsbD_or, Bool.or_eq_true, ih]
      constructor
      · rintro (⟨i, h1, h2⟩ | h)
        · exact ⟨i, by omega, h2⟩
        · exact ⟨n, by omega, hb, h⟩
      · rintro ⟨i, h1, h2, h3⟩
        by_cases e : i = n
        · subst e; exact .inr h3
        · exact .inl ⟨i, by omega, h2, h3⟩
theorem unA_bit (c : Nat → BitVec 64) (k : Nat) : ∀ n, (unA c n).getLsbD k = true ↔ ∃ i, i < n ∧ (c i).getLsbD k = true
  | 0 => by simp [unA]
  | n + 1 => by
    unfold unA
    rw [BitVec.getLsbD_or, Bool.or_eq_true, unA_bit c k n]
    constructor
    · rintro (⟨i, h1, h2⟩ | h)
      · exact ⟨i, by omega, h2⟩
      · exact ⟨n, by omega, h⟩
    · rintro ⟨i, h1, h2⟩
      by_cases e : i = n
      · subst e; exact .inr h2
      · exact .inl ⟨i, by omega, h2⟩
/-- A set is good when no cell has dust in all of it. -/
theorem ok_iff {n : Nat} {g : Nat → Nat → Int} {x : Int} (h : copC n g x = 0) (t : Nat) :
    okB (cB g n x) n t = true ↔ anD (fun j => dBs g n x ((subI t n).getD j 0).toNat) (subI t n).length = 0#64 := by
  have hall : ∀ k, k < 64 → (unA (cB g n x) n).getLsbD k = true := fun k hk => by
    obtain ⟨i, h1, h2⟩ := some_clean h hk
    exact (unA_bit _ k n).2 ⟨i, h1, by unfold cB; rw [BitVec.getLsbD_not, h2]; simp [hk]⟩
  unfold okB
  rw [decide_eq_true_eq]
  constructor
  · intro e
    refine BitVec.eq_of_getLsbD_eq fun k hk => ?_
    have h1 := hall k hk
    rw [← e] at h1
    obtain ⟨i, h2, h3, h4⟩ := (unS_bit _ t k n).1 h1
    obtain ⟨j, h5, h6⟩ := (subI_mem t n i).2 ⟨h2, h3⟩
    rw [(anD_bit _ k hk _).2 ⟨j, h5, ?_⟩]
    · simp
    · rw [h6, Int.toNat_natCast]
      unfold cB at h4
      rw [BitVec.getLsbD_not] at h4
      simpa [hk] using h4
  · intro e
    refine BitVec.eq_of_getLsbD_eq fun k hk => ?_
    rw [hall k hk]
    have h1 : (anD (fun j => dBs g n x ((subI t n).getD j 0).toNat) (subI t n).length).getLsbD k = false := by rw [e]; simp
    obtain ⟨j, h2, h3⟩ := (anD_bit _ k hk _).1 h1
    obtain ⟨i, h4, h5, h6⟩ := subI_lt t n j h2
    rw [h4, Int.toNat_natCast] at h3
    exact (unS_bit _ t k n).2 ⟨i, h5, h6, by unfold cB; rw [BitVec.getLsbD_not, h3]; simp [hk]⟩
end Go.Proofs.YtmibinfaafhgdaaGreatDoor

/-
  A round of a repair and the number of rounds: what the reference's functions return. No condition.
-/
import Derived.Test.YtiinkfnamhcekaaGreatDoorRnd
import Derived.Test.YtiinkfnamhcekaaGreatDoorSht
namespace Go.Proofs.YtiinkfnamhcekaaGreatDoor
open Go.RowKit

theorem one_bv : bvI 1#64 = 1 := rfl
theorem zero_bv : bvI 0#64 = 0 := rfl
theorem low_bit (X : BitVec 64) : X &&& 1#64 = if X.getLsbD 0 = true then 1#64 else 0#64 := by
  refine BitVec.eq_of_getLsbD_eq fun i hi => ?_
  rw [BitVec.getLsbD_and, BitVec.getLsbD_one]
  by_cases e : i = 0
  · subst e
    rcases X.getLsbD 0 with _ | _ <;> simp
  · rcases X.getLsbD 0 with _ | _ <;> simp [e]

set_option maxHeartbeats 1000000 in
theorem l07Count_any (a : BitVec 64) (w : World) :
    Calls Tryz.prog 29 #[.int .u64 (bvI a)] w fun e w' => e = .returned (.int .i64 ((cntB a 64 : Nat) : Int)) ∧ w = w' := by
  go_enter Tryz.func29, Tryz.ntmps29
  go_wp2_with fail
  go_loopw [0, 3] (fun mv nv wr => ∃ j : Nat, j ≤ 64 ∧ mv = .int .u64 (bvI (a >>> j)) ∧ nv = .int .i64 ((cntB a j : Nat) : Int) ∧ wr = w) (fun mv _ _ => (intOf mv).toNat)
  case atStart => exact ⟨0, by omega, congrArg (Value.int .u64) (by simp), rfl, rfl⟩
  case round =>
    obtain ⟨j, hj, rfl, rfl, rfl⟩ := hrel
    by_cases hx : a >>> j = 0#64
    · have hz := Lib.hid (cntB_end hj hx)
      have h00 := zero_bv
      rw [hx]
      generalize hC : cntB a j = C at *
      clear hx hC
      go_wp2_with fail
      go_ret
      exact ⟨ret_int (by rw [hz.out]), rfl⟩
    · have hjl : j < 64 := by
        refine Nat.lt_of_not_le fun h => hx ?_
        refine BitVec.eq_of_getLsbD_eq fun i _ => ?_
        rw [BitVec.getLsbD_ushiftRight, BitVec.getLsbD_of_ge _ _ (by omega)]; simp
      have hle := cntB_le a j
      have hne : ¬ bvI (a >>> j) = 0 := fun e => hx (bvI_inj.1 (e.trans zero_bv.symm))
      have hs : Hid (a >>> j >>> 1 = a >>> (j + 1)) := Lib.hid (by rw [BitVec.shiftRight_add])
      have hc : Hid (cntB a (j + 1) = cntB a j + if (a >>> j).getLsbD 0 = true then 1 else 0) := Lib.hid (by rw [BitVec.getLsbD_ushiftRight]; rfl)
      have hand := low_bit (a >>> j)
      have hlt : Hid ((bvI (a >>> (j + 1))).toNat < (bvI (a >>> j)).toNat) := Lib.hid (by
        rw [← hs.out]
        unfold bvI at hne ⊢
        rw [BitVec.toNat_ushiftRight, Nat.shiftRight_eq_div_pow]
        generalize (a >>> j).toNat = q at *
        omega)
      have h00 := zero_bv
      have h11 := one_bv
      rcases hb : (a >>> j).getLsbD 0 with _ | _
      · rw [hb] at hc hand
        simp only [Bool.false_eq_true, if_false] at hc hand
        generalize hX : a >>> j = X at *
        generalize hC : cntB a j = C at *
        clear hb hX hx
        go_wp2_with (first
          | (refine wpList_yield rfl (run_and_bv (a := X) (b := 1#64) rfl rfl rfl) ?_; rw [hand])
          | (refine wpList_yield rfl (run_shr_bv (κ := .u64) (a := X) (k := 1) rfl rfl rfl (by decide)) ?_))
        go_roundw
        case rel => exact ⟨j + 1, by omega, by rw [hs.out], by rw [hc.out]; go_num, trivial⟩
        case measure => simp only [intOf]; rw [hs.out]; exact hlt.out
      · rw [hb] at hc hand
        simp only [if_true] at hc hand
        generalize hX : a >>> j = X at *
        generalize hC : cntB a j = C at *
        clear hb hX hx
        go_wp2_with (first
          | (refine wpList_yield rfl (run_and_bv (a := X) (b := 1#64) rfl rfl rfl) ?_; rw [hand])
          | (refine wpList_yield rfl (run_shr_bv (κ := .u64) (a := X) (k := 1) rfl rfl rfl (by decide)) ?_))
        go_roundw
        case rel => exact ⟨j + 1, by omega, by rw [hs.out], by rw [hc.out]; go_num, trivial⟩
        case measure => simp only [intOf]; rw [hs.out]; exact hlt.out

/-! ### A ROUND -/
/-- The sum of the first cells of a mask. -/
def sumB (f : Nat → Int) (a : BitVec 64) : Nat → Int
  | 0 => 0
  | i + 1 => sumB f a i + if a.getLsbD i = true then f i else 0
theorem sumB_bd {f : Nat → Int} (hf : S16 f) (a : BitVec 64) : ∀ i : Nat, i ≤ 64 → -32768 * (i : Int) ≤ sumB f a i ∧ sumB f a i ≤ 32768 * (i : Int)
  | 0, _ => by simp [sumB]
  | i + 1, h => by
    have h1 := sumB_bd hf a i (by omega)
    have h2 := hf i (by omega)
    unfold sumB
    split <;> omega
/-- The mean of the neighbours that a mask does not hold, as a number of 16 bits. -/
def mnV (f : Nat → Int) (m : BitVec 64) (k : Nat) : Int := IntKind.i16.wrap ((sumB f (aroB m k) 64).tdiv ((cntB (aroB m k) 64 : Nat) : Int))
/-- Cells after a round, as far as cell k. -/
def nwF (f : Nat → Int) (m : BitVec 64) (k : Nat) (c : Nat) : Int := if c < k ∧ (rimB m).getLsbD c = true then mnV f m c else f c
theorem nwF_yes {f : Nat → Int} {m : BitVec 64} {k : Nat} (h : (rimB m).getLsbD k = true) (j : Nat) : upd (nwF f m k) k (mnV f m k) j = nwF f m (k + 1) j := by
  unfold upd nwF
  by_cases e : j = k
  · subst e; simp [h]
  · have : (j < k + 1) = (j < k) := by simp; omega
    rw [if_neg e]; simp only [this]
theorem nwF_no {f : Nat → Int} {m : BitVec 64} {k : Nat} (h : (rimB m).getLsbD k = false) : nwF f m (k + 1) = nwF f m k := by
  funext j
  unfold nwF
  by_cases e : j = k
  · subst e; simp [h]
  · have : (j < k + 1) = (j < k) := by simp; omega
    simp only [this]
theorem i16_bd (x : Int) : -32768 ≤ IntKind.i16.wrap x ∧ IntKind.i16.wrap x ≤ 32767 := by
  have e : IntKind.i16.wrap x = if (true && decide (x % 65536 ≥ 32768)) = true then x % 65536 - 65536 else x % 65536 := rfl
  rw [e]
  by_cases h : x % 65536 ≥ 32768
  · simp only [h, decide_true, Bool.and_self, if_true]; omega
  · simp only [h, decide_false, Bool.and_false, Bool.false_eq_true, if_false]; omega
theorem nwF_s {f : Nat → Int} (hf : S16 f) (m : BitVec 64) (k : Nat) : S16 (nwF f m k) := by
  intro c hc
  unfold nwF
  split
  · unfold mnV
    exact i16_bd _
  · exact hf c hc
theorem nwF_0 (f : Nat → Int) (m : BitVec 64) : nwF f m 0 = f := by funext c; simp [nwF]
/-- The cells that are left of the first k. -/
def ltB (m L : BitVec 64) (k : Nat) : Prop := ∀ c, c < 64 → L.getLsbD c = (m.getLsbD c && !(decide (c < k) && (rimB m).getLsbD c))
theorem ltB_0 (m : BitVec 64) : ltB m m 0 := fun c _ => by simp
theorem ltB_end {m L : BitVec 64} (h : ltB m L 64) : L = rnd m := by
  refine BitVec.eq_of_getLsbD_eq fun i hi => ?_
  unfold rnd
  rw [h i hi, BitVec.getLsbD_and, not_bit _ hi]; simp [hi]
theorem ltB_no {m L : BitVec 64} {k : Nat} (h : ltB m L k) (hr : (rimB m).getLsbD k = false) : ltB m L (k + 1) := fun c hc => by
  rw [h c hc]
  by_cases e : c = k
  · subst e; simp [hr]
  · have : decide (c < k + 1) = decide (c < k) := decide_eq_decide.2 (by omega)
    rw [this]
theorem ltB_yes {m L : BitVec 64} {k : Nat} (hk : k < 64) (h : ltB m L k) (hr : (rimB m).getLsbD k = true) : ltB m (L &&& ~~~(1#64 <<< k)) (k + 1) := fun c hc => by
  rw [BitVec.getLsbD_and, not_bit _ hc, bitR_of k c hk, h c hc]
  by_cases e : c = k
  · subst e; simp [hr]
  · have : decide (c < k + 1) = decide (c < k) := decide_eq_decide.2 (by omega)
    rw [this]; simp [e]
theorem and_bitR {N : BitVec 64} {k : Nat} (hk : k < 64) : N &&& 1#64 <<< k = if N.getLsbD k = true then 1#64 <<< k else 0#64 := BitVec.eq_of_getLsbD_eq fun i _ => by
  rw [BitVec.getLsbD_and, bitR_of k i hk]
  by_cases e : i = k
  · subst e
    rcases hb : N.getLsbD i with _ | _
    · simp
    · simp [bitR_of i i hk]
  · rcases hb : N.getLsbD k with _ | _
    · simp [e]
    · simp [bitR_of k i hk, e]
theorem bit_ne0 {k : Nat} (hk : k < 64) : (bvI (1#64 <<< k) == 0) = false := beq_eq_false_iff_ne.2 (fun e => by
  have h := bvI_inj.1 (e.trans zero_bv.symm)
  have := bitR_of k k hk
  rw [h] at this; simp at this)

set_option maxRecDepth 100000 in
set_option maxHeartbeats 4000000 in
theorem l07Round_any (b : Nat) (T : TypeId) (f : Nat → Int) (m : BitVec 64) (hf : S16 f) (w : World) (h : HasArr w b T .i16 64 f) :
    Calls Tryz.prog 35 #[.pointer (some ⟨b, 0, none⟩), .int .u64 (bvI m)] w fun e w' => e = .returned (.int .u64 (bvI (rnd m))) ∧ HasArr w' b T .i16 64 (nwF f m 64) ∧ Below b w w' ∧ ∀ c, c ≠ b → c < w.heap.size → w'.heap[c]? = w.heap[c]? := by
  have hbl := h.lt
  have z0 := HasArr.zero w 37 (b := w.heap.size) rfl
  have z1 := z0.setRow .i16 f
  have kB := below_setRow ((Below.refl w.heap.size w).alloc (Nat.le_refl _) (.cells #[.int .i16 0, .int .i16 0, .int .i16 0, .int .i16 0, .int .i16 0, .int .i16 0, .int .i16 0, .int .i16 0, .int .i16 0, .int .i16 0, .int .i16 0, .int .i16 0, .int .i16 0, .int .i16 0, .int .i16 0, .int .i16 0, .int .i16 0, .int .i16 0, .int .i16 0, .int .i16 0, .int .i16 0, .int .i16 0, .int .i16 0, .int .i16 0, .int .i16 0, .int .i16 0, .int .i16 0, .int .i16 0, .int .i16 0, .int .i16 0, .int .i16 0, .int .i16 0, .int .i16 0, .int .i16 0, .int .i16 0, .int .i16 0, .int .i16 0, .int .i16 0, .int .i16 0, .int .i16 0, .int .i16 0, .int .i16 0, .int .i16 0, .int .i16 0, .int .i16 0, .int .i16 0, .int .i16 0, .int .i16 0, .int .i16 0, .int .i16 0, .int .i16 0, .int .i16 0, .int .i16 0, .int .i16 0, .int .i16 0, .int .i16 0, .int .i16 0, .int .i16 0, .int .i16 0, .int .i16 0, .int .i16 0, .int .i16 0, .int .i16 0, .int .i16 0] 37)) (b := w.heap.size) (by omega) (arrV .i16 64 f)
  have h1 := h.below kB h.lt
  have KB := Lib.hid (kB.mono (Nat.le_of_lt hbl))
  have KQ := Lib.hid (fun c (_ : c ≠ b) (hc : c < w.heap.size) => kB.block c hc)
  have Hg := Lib.hid (fun X W => l07Grow_any X W)
  clear kB
  go_enter Tryz.func35, Tryz.ntmps35
  go_wp2_with (first | (refine wpList_load_arr h _ _ rfl rfl rfl Tryz.underlying37 sizePrint ?_) | (refine wpList_store_arr z0 _ _ _ rfl rfl rfl rfl sizePrint ?_))
  have hz0 : (w.alloc (.cells #[.int .i16 0, .int .i16 0, .int .i16 0, .int .i16 0, .int .i16 0, .int .i16 0, .int .i16 0, .int .i16 0, .int .i16 0, .int .i16 0, .int .i16 0, .int .i16 0, .int .i16 0, .int .i16 0, .int .i16 0, .int .i16 0, .int .i16 0, .int .i16 0, .int .i16 0, .int .i16 0, .int .i16 0, .int .i16 0, .int .i16 0, .int .i16 0, .int .i16 0, .int .i16 0, .int .i16 0, .int .i16 0, .int .i16 0, .int .i16 0, .int .i16 0, .int .i16 0, .int .i16 0, .int .i16 0, .int .i16 0, .int .i16 0, .int .i16 0, .int .i16 0, .int .i16 0, .int .i16 0, .int .i16 0, .int .i16 0, .int .i16 0, .int .i16 0, .int .i16 0, .int .i16 0, .int .i16 0, .int .i16 0, .int .i16 0, .int .i16 0, .int .i16 0, .int .i16 0, .int .i16 0, .int .i16 0, .int .i16 0, .int .i16 0, .int .i16 0, .int .i16 0, .int .i16 0, .int .i16 0, .int .i16 0, .int .i16 0, .int .i16 0, .int .i16 0] 37)).heap.size = w.heap.size + 1 := by simp
  generalize hW : (w.alloc (.cells #[.int .i16 0, .int .i16 0, .int .i16 0, .int .i16 0, .int .i16 0, .int .i16 0, .int .i16 0, .int .i16 0, .int .i16 0, .int .i16 0, .int .i16 0, .int .i16 0, .int .i16 0, .int .i16 0, .int .i16 0, .int .i16 0, .int .i16 0, .int .i16 0, .int .i16 0, .int .i16 0, .int .i16 0, .int .i16 0, .int .i16 0, .int .i16 0, .int .i16 0, .int .i16 0, .int .i16 0, .int .i16 0, .int .i16 0, .int .i16 0, .int .i16 0, .int .i16 0, .int .i16 0, .int .i16 0, .int .i16 0, .int .i16 0, .int .i16 0, .int .i16 0, .int .i16 0, .int .i16 0, .int .i16 0, .int .i16 0, .int .i16 0, .int .i16 0, .int .i16 0, .int .i16 0, .int .i16 0, .int .i16 0, .int .i16 0, .int .i16 0, .int .i16 0, .int .i16 0, .int .i16 0, .int .i16 0, .int .i16 0, .int .i16 0, .int .i16 0, .int .i16 0, .int .i16 0, .int .i16 0, .int .i16 0, .int .i16 0, .int .i16 0, .int .i16 0] 37)).setRow w.heap.size (arrV .i16 64 f) = w1 at *
  generalize hn : w.heap.size = q at *
  have hqb : b ≠ q := by omega
  clear h z0 hW hz0
  have Hf := Lib.hid hf; clear hf
  go_wp2_with fail
  go_loopw [6, 7] (fun lv kv wr => ∃ (k : Nat) (L : BitVec 64), k ≤ 64 ∧ kv = .int .i64 (k : Int) ∧ lv = .int .u64 (bvI L) ∧ ltB m L k ∧ HasArr wr b T .i16 64 (nwF f m k) ∧ HasArr wr q 37 .i16 64 f ∧ Below b w wr ∧ Hid (∀ c, c ≠ b → c < q → wr.heap[c]? = w.heap[c]?)) (fun _ kv _ => 64 - (intOf kv).toNat)
  case atStart => exact ⟨0, m, by omega, rfl, rfl, ltB_0 m, by rw [nwF_0]; exact h1, z1, KB.out, KQ⟩
  case round =>
    clear h1 z1 KB KQ
    obtain ⟨k, L, hk, rfl, rfl, hL, hp, hnow, hB, OT⟩ := hrel
    by_cases hkn : k < 64
    rotate_left
    · obtain rfl : k = 64 := by omega
      have e := ltB_end hL
      subst e
      go_wp2_with fail
      go_ret
      exact ⟨rfl, hp, hB, hn ▸ OT.out⟩
    have hw : IntKind.u64.wrap (k : Int) = (k : Int) := by rw [IntKind.wrap_u64]; omega
    have hand := and_bitR (N := m) hkn
    have h00 := zero_bv
    have h11 := one_bv
    have hne := bit_ne0 hkn
    have hpl := hp.lt
    have hnl := hnow.lt
    by_cases hr : (rimB m).getLsbD k = true
    rotate_left
    · have hr0 : (rimB m).getLsbD k = false := by simpa using hr
      have hL2 := Lib.hid (ltB_no hL hr0)
      have hF2 := Lib.hid (nwF_no (f := f) hr0)
      rcases hb : m.getLsbD k with _ | _
      · rw [hb] at hand
        simp only [Bool.false_eq_true, if_false] at hand
        have HP := Lib.hid hp; have HN := Lib.hid hnow; have HB := Lib.hid hB; clear hp hnow hB hL hr hr0 hb
        go_wp2_with (first
          | (refine wpList_yield rfl (run_shl_bv (κ := .u64) (a := 1#64) (k := k) rfl rfl rfl hkn) ?_)
          | (go_at_call 28; refine (Hg.out _ _).mono ?_; rintro e w' ⟨rfl, rfl⟩)
          | (refine wpList_yield rfl (run_andNot_bv (a := growB (1#64 <<< k)) (b := 1#64 <<< k) rfl rfl rfl) ?_)
          | (refine wpList_yield rfl (run_andNot_bv (a := growB (1#64 <<< k) &&& ~~~(1#64 <<< k)) (b := m) rfl rfl rfl) ?_)
          | (refine wpList_yield rfl (run_and_bv (a := m) (b := 1#64 <<< k) rfl rfl rfl) ?_; rw [hand]))
        go_roundw
        case rel => exact ⟨k + 1, L, by omega, by go_num, rfl, hL2.out, by rw [hF2.out]; exact HP.out, HN.out, HB.out, OT⟩
        case measure => simp [intOf]; omega
      · rw [hb] at hand
        simp only [if_true] at hand
        have ha : aroB m k = 0#64 := by
          apply Classical.byContradiction
          intro hn
          exact hr ((rimB_iff m hkn).2 ⟨hb, hn⟩)
        have ha2 : growB (1#64 <<< k) &&& ~~~(1#64 <<< k) &&& ~~~m = 0#64 := ha
        have HP := Lib.hid hp; have HN := Lib.hid hnow; have HB := Lib.hid hB; clear hp hnow hB hL hr hr0 hb ha
        go_wp2_with (first
          | (refine wpList_yield rfl (run_shl_bv (κ := .u64) (a := 1#64) (k := k) rfl rfl rfl hkn) ?_)
          | (go_at_call 28; refine (Hg.out _ _).mono ?_; rintro e w' ⟨rfl, rfl⟩)
          | (refine wpList_yield rfl (run_andNot_bv (a := growB (1#64 <<< k)) (b := 1#64 <<< k) rfl rfl rfl) ?_)
          | (refine wpList_yield rfl (run_andNot_bv (a := growB (1#64 <<< k) &&& ~~~(1#64 <<< k)) (b := m) rfl rfl rfl) ?_; rw [ha2])
          | (refine wpList_yield rfl (run_and_bv (a := m) (b := 1#64 <<< k) rfl rfl rfl) ?_; rw [hand]))
        go_roundw
        case rel => exact ⟨k + 1, L, by omega, by go_num, rfl, hL2.out, by rw [hF2.out]; exact HP.out, HN.out, HB.out, OT⟩
        case measure => simp [intOf]; omega
    · obtain ⟨hb, ha⟩ := (rimB_iff m hkn).1 hr
      have hL2 := Lib.hid (ltB_yes hkn hL hr)
      have hF2 := Lib.hid (fun j => nwF_yes (f := f) hr j)
      rw [hb] at hand
      simp only [if_true] at hand
      have hae : growB (1#64 <<< k) &&& ~~~(1#64 <<< k) &&& ~~~m = aroB m k := rfl
      have hane : (bvI (aroB m k) == 0) = false := beq_eq_false_iff_ne.2 (fun e => ha (bvI_inj.1 (e.trans zero_bv.symm)))
      have hc1 := cntB_pos ha
      have hc2 := cntB_le (aroB m k) 64
      have HS := Lib.hid (fun i hi => sumB_bd Hf.out (aroB m k) i hi)
      have HC := Lib.hid (fun W => l07Count_any (aroB m k) W)
      have HV : Hid (IntKind.i16.wrap ((sumB f (aroB m k) 64).tdiv ((cntB (aroB m k) 64 : Nat) : Int)) = mnV f m k) := Lib.hid rfl
      have HP := Lib.hid hp; have HB := Lib.hid hB; clear hp hB hL hr hb ha
      generalize hAe : aroB m k = R at *
      go_wp2_with (first
        | (refine wpList_yield rfl (run_shl_bv (κ := .u64) (a := 1#64) (k := k) rfl rfl rfl hkn) ?_)
        | (go_at_call 28; refine (Hg.out _ _).mono ?_; rintro e w' ⟨rfl, rfl⟩)
        | (refine wpList_yield rfl (run_andNot_bv (a := growB (1#64 <<< k)) (b := 1#64 <<< k) rfl rfl rfl) ?_)
        | (refine wpList_yield rfl (run_andNot_bv (a := growB (1#64 <<< k) &&& ~~~(1#64 <<< k)) (b := m) rfl rfl rfl) ?_; rw [hae])
        | (refine wpList_yield rfl (run_and_bv (a := m) (b := 1#64 <<< k) rfl rfl rfl) ?_; rw [hand]))
      obtain ⟨wo, rfl⟩ : ∃ wo : World, wo = wr := ⟨_, rfl⟩
      go_loopw [10, 11] (fun sv iv wr => ∃ i : Nat, i ≤ 64 ∧ iv = .int .i64 (i : Int) ∧ sv = .int .i64 (sumB f R i) ∧ wr = wo) (fun _ iv _ => 64 - (intOf iv).toNat)
      case atStart => exact ⟨0, by omega, rfl, rfl, rfl⟩
      case round =>
        obtain ⟨i, hi, rfl, rfl, rfl⟩ := hrel
        by_cases hin : i < 64
        · have hwi : IntKind.u64.wrap (i : Int) = (i : Int) := by rw [IntKind.wrap_u64]; omega
          have hs := HS.out i (by omega)
          have hfb := Hf.out i hin
          have hci := hnow.cell hin
          have hadd : Hid (sumB f R (i + 1) = sumB f R i + if R.getLsbD i = true then f i else 0) := Lib.hid rfl
          have hlow := low_bit (R >>> i)
          rw [BitVec.getLsbD_ushiftRight, Nat.add_zero] at hlow
          rcases hbi : R.getLsbD i with _ | _
          · rw [hbi] at hadd hlow
            simp only [Bool.false_eq_true, if_false] at hadd hlow
            generalize hS : sumB f R i = S at *
            clear hbi
            go_wp2_with (first
              | (refine wpList_yield rfl (run_shr_bv (κ := .u64) (a := R) (k := i) rfl rfl rfl hin) ?_)
              | (refine wpList_yield rfl (run_and_bv (a := R >>> i) (b := 1#64) rfl rfl rfl) ?_; rw [hlow]))
            go_roundw
            case rel => exact ⟨i + 1, by omega, by go_num, by rw [hadd.out]; simp, trivial⟩
            case measure => simp [intOf]; omega
          · rw [hbi] at hadd hlow
            simp only [if_true] at hadd hlow
            generalize hS : sumB f R i = S at *
            generalize hF : f i = F at *
            have e1 : IntKind.i64.wrap (S + F) = S + F := IntWalk.i64_in _ (by omega)
            clear hbi hS
            go_wp2_with (first
              | (refine wpList_yield rfl (run_shr_bv (κ := .u64) (a := R) (k := i) rfl rfl rfl hin) ?_)
              | (refine wpList_yield rfl (run_and_bv (a := R >>> i) (b := 1#64) rfl rfl rfl) ?_; rw [hlow]))
            go_roundw
            case rel => exact ⟨i + 1, by omega, by go_num, by rw [hadd.out], trivial⟩
            case measure => simp [intOf]; omega
        · obtain rfl : i = 64 := by omega
          have hs := HS.out 64 (by omega)
          generalize hS : sumB f R 64 = S at *
          generalize hC : cntB R 64 = C at *
          have hC0 : ¬ C = 0 := by omega
          have hC1 : (1 : Int) ≤ (C : Int) := by omega
          have e1 : IntKind.i64.wrap (S.tdiv (C : Int)) = S.tdiv (C : Int) := IntWalk.i64_in _ (by
            have h1 := Int.natAbs_tdiv_le_natAbs S (C : Int)
            omega)
          clear hS hC hAe
          go_wp2_with fail
          refine wp_region_quiet_tail 9 (fun w' => ∃ q, w' = wr.drewN q) (by kernel_rfl) (by kernel_rfl) ⟨1, rfl⟩ ?_
          simp only [List.take_succ_cons, List.take_zero, List.drop_succ_cons, List.drop_zero]
          quiet_step (fail)
          quiet_step (fail)
          quiet_step (fail)
          quiet_step (fail)
          quiet_step ((go_at_call 29; exact (HC.out _).mono fun e w' ⟨he, hw⟩ => ⟨he, _, hw.symm⟩))
          quiet_step (fail)
          quiet_step (fail)
          quiet_step (fail)
          quiet_step (fail)
          refine wpQuiet_nil ?_
          rintro _ ⟨q', rfl⟩
          have fr := (HP.out.drewN q').free k
          have cc := (HP.out.drewN q').cell hkn
          go_wp2_with (refine wpList_yield rfl (run_andNot_bv (a := L) (b := 1#64 <<< k) rfl rfl rfl) ?_)
          go_roundw
          case rel =>
            refine ⟨k + 1, _, by omega, by go_num, rfl, hL2.out, ?_, ?_, ?_, Lib.hid fun c hcb hcq => (Below.heap_setCell _ _ _ c (by simpa using hcb)).trans (OT.out c hcb hcq)⟩
            · rw [HV.out]
              exact ((HP.out.drewN q').set k _).congr fun j _ => hF2.out j
            · exact (hnow.drewN q').other (a := ⟨b, k, none⟩) (by simp; omega) _
            · exact (below_drewA HB.out q').setCell (p := ⟨b, k, none⟩) (by simp) _
          case measure => simp [intOf]; omega
end Go.Proofs.YtiinkfnamhcekaaGreatDoor

/-
  The dust in a copy: what both sides' functions return. Condition of the program's: its variables hold their own errors.
-/
import Derived.Test.YtnohpkhaimmdmaaDoorDst
namespace Go.Proofs.YtnohpkhaimmdmaaDoor
open Go.RowKit

/-! ### THE REFERENCE -/
def szD (z : Int) : Int := if z < 0 then -z else z
theorem l01SizeD_any (z : Int) (h : -100000 ≤ z) (h' : z ≤ 100000) (w : World) : Calls Tryd.prog 37 #[.int .i64 z] w fun e w' => e = .returned (.int .i64 (szD z)) ∧ w = w' := by
  unfold szD
  by_cases hz : z < 0
  · rw [if_pos hz]
    go_enter Tryd.func37, Tryd.ntmps37
    go_wp2
    go_ret
    exact ⟨rfl, rfl⟩
  · rw [if_neg hz]
    go_enter Tryd.func37, Tryd.ntmps37
    go_wp2
    go_ret
    exact ⟨rfl, rfl⟩
theorem l03OffD_any (x y : Int) (h : -32768 ≤ x) (h' : x ≤ 32767) (hy : -32768 ≤ y) (hy' : y ≤ 32767) (w : World) : Calls Tryd.prog 29 #[.int .i16 x, .int .i16 y] w fun e w' => e = .returned (.int .i64 (szD (y - x))) ∧ w = w' := by
  have hs := fun W => l01SizeD_any (y - x) (by omega) (by omega) W
  generalize szD (y - x) = S at *
  have Hs := Lib.hid hs; clear hs
  go_enter Tryd.func29, Tryd.ntmps29
  go_wp2_with (go_at_call 37; refine (Hs.out _).mono ?_; rintro e w' ⟨rfl, rfl⟩)
  go_ret
  exact ⟨rfl, rfl⟩
/-- The mask of the cells below k of which p holds. -/
def pmB (p : Nat → Bool) (k : Nat) : BitVec 64 := mkB fun c => p c && decide (c < k)
theorem bitR_ofD (k c : Nat) (hk : k < 64) : (1#64 <<< k).getLsbD c = decide (c = k) := by
  rw [BitVec.getLsbD_shiftLeft, BitVec.getLsbD_one]
  by_cases e : c = k
  · subst e; simp [hk]
  · by_cases h : c < k
    · simp [e, h]
    · have : ¬ c - k = 0 := by omega
      simp [e, this]
theorem pmB_0 (p : Nat → Bool) : pmB p 0 = 0#64 := (mkB_ext fun k _ => by simp).symm
theorem pmB_yes {p : Nat → Bool} {k : Nat} (hk : k < 64) (h : p k = true) : pmB p k ||| (1#64 <<< k) = pmB p (k + 1) := mkB_ext fun c hc => by
  unfold pmB
  rw [BitVec.getLsbD_or, mkB_bit _ hc, bitR_ofD k c hk]
  by_cases e : c = k
  · subst e; simp [h]
  · have : decide (c < k + 1) = decide (c < k) := decide_eq_decide.2 (by omega)
    rw [this]; simp [e]
theorem pmB_no {p : Nat → Bool} {k : Nat} (h : p k = false) : pmB p (k + 1) = pmB p k := mkB_ext fun c hc => by
  unfold pmB
  rw [mkB_bit _ hc]
  by_cases e : c = k
  · subst e; simp [h]
  · have : decide (c < k + 1) = decide (c < k) := decide_eq_decide.2 (by omega)
    rw [this]
theorem pmB_64 (p : Nat → Bool) : pmB p 64 = mkB p := mkB_ext fun c hc => by
  unfold pmB
  rw [mkB_bit _ hc]; simp [hc]

set_option maxRecDepth 100000 in
set_option maxHeartbeats 4000000 in
theorem l07Dust_any (b o q o2 : Nat) (f m : Nat → Int) (x : Int) (hf : S16 f) (hm : S16 m) (w : World) (h1 : PartA w b o .i16 64 f) (h2 : PartA w q o2 .i16 64 m) :
    Calls Tryd.prog 19 #[.pointer (some ⟨b, o, none⟩), .pointer (some ⟨q, o2, none⟩), .int .i64 x] w fun e w' => e = .returned (.int .u64 (bvI (dusB f m x))) ∧ Below w.heap.size w w' := by
  have h00 : bvI (pmB (dusP f m x) 0) = 0 := by rw [pmB_0]; rfl
  have HO := Lib.hid (fun k hk W => l03OffD_any (m k) (f k) (hm k hk).1 (hm k hk).2 (hf k hk).1 (hf k hk).2 W)
  have HF := Lib.hid hf; have HM := Lib.hid hm; clear hf hm
  go_enter Tryd.func19, Tryd.ntmps19
  go_wp2_with fail
  go_loopw [7, 8] (fun mv kv wr => ∃ k : Nat, k ≤ 64 ∧ kv = .int .i64 (k : Int) ∧ mv = .int .u64 (bvI (pmB (dusP f m x) k)) ∧ Below w.heap.size w wr) (fun _ kv _ => 64 - (intOf kv).toNat)
  case atStart => exact ⟨0, by omega, rfl, by rw [h00], Below.refl _ _⟩
  case round =>
    obtain ⟨k, hk, rfl, rfl, hB⟩ := hrel
    by_cases hlt : k < 64
    rotate_left
    · obtain rfl : k = 64 := by omega
      rw [pmB_64]
      go_wp2_with fail
      go_ret
      exact ⟨rfl, hB⟩
    have hlt' : (k : Int) < 64 := by omega
    have c1 := below_cellOf hB (h1 k hlt) (Nat.le_refl _)
    have c2 := below_cellOf hB (h2 k hlt) (Nat.le_refl _)
    have b1 := HF.out k hlt
    have b2 := HM.out k hlt
    have ho := Lib.hid (HO.out k hlt)
    have hdp : dusP f m x k = decide (x < szD (f k - m k)) := by
      unfold dusP drkP szD
      by_cases hz : f k - m k < 0
      · rw [if_pos hz, Bool.eq_iff_iff]; simp only [Bool.or_eq_true, decide_eq_true_eq]; omega
      · rw [if_neg hz, Bool.eq_iff_iff]; simp only [Bool.or_eq_true, decide_eq_true_eq]; omega
    have cc1 := inCell c1
    have cc2 := inCell c2
    have n0 := below_nonempty wr
    have hwi : IntKind.u64.wrap (k : Int) = (k : Int) := by rw [IntKind.wrap_u64]; omega
    generalize f k = Fk at *
    generalize m k = Mk at *
    rcases hv : dusP f m x k with _ | _
    · rw [hv] at hdp
      have hno := Lib.hid (pmB_no hv)
      have hnl : ¬ x < szD (Fk - Mk) := of_decide_eq_false hdp.symm
      clear hdp
      generalize szD (Fk - Mk) = S at *
      go_wp2_with fail
      refine wp_region_quietD (Below wr.heap.size wr) (by kernel_rfl) (by kernel_rfl) (below_drew1 _) ?_
      repeat (go_big_quiet_step ((go_at_call 29; exact inCallS _ (ho.out _))))
      refine wpQuiet_nil ?_
      rintro _ ⟨y, rfl⟩
      have k3 := Lib.hid (hB.trans (y.ok.mono hB.size))
      generalize y.w = v at *
      go_wp2_with fail
      go_roundw
      case rel => exact ⟨k + 1, by omega, by go_num, by rw [hno.out], k3.out⟩
      case measure => simp [intOf]; omega
    · rw [hv] at hdp
      have hyes := Lib.hid (pmB_yes hlt hv)
      have hnl : x < szD (Fk - Mk) := of_decide_eq_true hdp.symm
      clear hdp
      generalize szD (Fk - Mk) = S at *
      go_wp2_with fail
      refine wp_region_quietD (Below wr.heap.size wr) (by kernel_rfl) (by kernel_rfl) (below_drew1 _) ?_
      repeat (go_big_quiet_step ((go_at_call 29; exact inCallS _ (ho.out _))))
      refine wpQuiet_nil ?_
      rintro _ ⟨y, rfl⟩
      have k3 := Lib.hid (hB.trans (y.ok.mono hB.size))
      generalize y.w = v at *
      go_wp2_with (first
        | (refine wpList_yield rfl (run_shl_bv (κ := .u64) (a := 1#64) (k := k) rfl rfl rfl hlt) ?_)
        | (refine wpList_yield rfl (run_or_bv (a := pmB (dusP f m x) k) (b := 1#64 <<< k) rfl rfl rfl) ?_))
      go_roundw
      case rel => exact ⟨k + 1, by omega, by go_num, by rw [hyes.out], k3.out⟩
      case measure => simp [intOf]; omega

/-- What DustIn returns. -/
def dsiT (n : Nat) (g : Nat → Nat → Int) (i x : Int) : Array Value := if copC n g x = 0 then (if inB i 0 ((n : Int) - 1) = true then #[.int .u64 (dF g n x i.toNat), .int .i64 0] else #[.int .u64 0, .int .i64 2]) else #[.int .u64 0, .int .i64 (copC n g x)]

set_option maxRecDepth 100000 in
set_option maxHeartbeats 4000000 in
theorem specDustIn_any (A : Option Addr) (n cap : Nat) (g : Nat → Nat → Int) (i x : Int) (hn : n ≤ 1048576) (hs : ∀ i, i < n → S16 (g i)) (w : World) (hr : PrsIn w A n g) :
    Calls Tryd.prog 7 #[.slice A n cap, .int .i64 i, .int .i64 x] w fun e w' => e = .returned (.tuple (dsiT n g i x)) ∧ Below w.heap.size w w' := by
  have hq := l07Copies_any A n cap g x hn hs _ hr
  have hl := fun W => l00In_any i 0 ((n : Int) - 1) W
  have HR := Lib.hid hr; clear hr
  unfold dsiT
  by_cases hc : copC n g x = 0
  rotate_left
  · rw [if_neg hc]
    have Hq := Lib.hid hq; clear hq hs hl
    generalize copC n g x = C at *
    go_enter Tryd.func7, Tryd.ntmps7
    go_wp2_with fail
    refine Hq.out.mono ?_; rintro e w2 ⟨rfl, hb2⟩
    go_wp2_with fail
    go_ret2
    exact ⟨rfl, hb2⟩
  rw [if_pos hc]
  rw [hc] at hq
  have h8 := copC_pos hc
  have Hq := Lib.hid hq; clear hq
  rcases hin : inB i 0 ((n : Int) - 1) with _ | _
  · rw [if_neg (by decide)]
    rw [hin] at hl
    have Hl := Lib.hid hl; clear hl hs hin hc
    go_enter Tryd.func7, Tryd.ntmps7
    go_wp2_with fail
    refine Hq.out.mono ?_; rintro e w2 ⟨rfl, hb2⟩
    go_wp2_with (go_at_call 17; refine (Hl.out _).mono ?_; rintro e w' ⟨rfl, rfl⟩)
    go_ret2
    exact ⟨rfl, hb2⟩
  · rw [if_pos rfl]
    rw [hin] at hl
    have hii := inB_true.1 hin
    obtain ⟨j, rfl⟩ : ∃ j : Nat, i = (j : Int) := ⟨i.toNat, by omega⟩
    have hj : j < n := by omega
    have hj' : (j : Int) < n := by omega
    rw [Int.toNat_natCast]
    have hms := medF_s h8.1 hs
    have Hm := Lib.hid (fun W h => l07Median_any A n cap g h8.1 h8.2 hs W h)
    have Hd := Lib.hid (fun b o q W h1 h2 => l07Dust_any b o q 0 (g j) (medF g n) x (hs j hj) hms W h1 h2)
    have hdF : Hid (bvI (dusB (g j) (medF g n) x) = dF g n x j) := Lib.hid rfl
    have Hl := Lib.hid hl; clear hl hs hin hc hms
    generalize medF g n = M at *
    rw [hdF.out] at Hd
    generalize dF g n x j = V at *
    go_enter Tryd.func7, Tryd.ntmps7
    go_wp2_with fail
    refine Hq.out.mono ?_; rintro e w2 ⟨rfl, hb2⟩
    have HR2 := Lib.hid (HR.out.below hb2 (Nat.le_refl _))
    clear HR Hq
    go_wp2_with (go_at_call 17; refine (Hl.out _).mono ?_; rintro e w' ⟨rfl, rfl⟩)
    refine (Hm.out _ HR2.out).mono ?_; rintro e w3 ⟨rfl, hb3⟩
    have k3 := hb2.trans (hb3.mono hb2.size)
    have HR3 := Lib.hid (HR2.out.below hb3 (Nat.le_refl _))
    clear HR2 hb3 hb2
    have z0 := HasArr.zero w3 36 (b := w3.heap.size) rfl
    have z1 := z0.setRow .i16 M
    have kk := below_setRow ((Below.refl w3.heap.size w3).alloc (Nat.le_refl _) (.cells #[.int .i16 0, .int .i16 0, .int .i16 0, .int .i16 0, .int .i16 0, .int .i16 0, .int .i16 0, .int .i16 0, .int .i16 0, .int .i16 0, .int .i16 0, .int .i16 0, .int .i16 0, .int .i16 0, .int .i16 0, .int .i16 0, .int .i16 0, .int .i16 0, .int .i16 0, .int .i16 0, .int .i16 0, .int .i16 0, .int .i16 0, .int .i16 0, .int .i16 0, .int .i16 0, .int .i16 0, .int .i16 0, .int .i16 0, .int .i16 0, .int .i16 0, .int .i16 0, .int .i16 0, .int .i16 0, .int .i16 0, .int .i16 0, .int .i16 0, .int .i16 0, .int .i16 0, .int .i16 0, .int .i16 0, .int .i16 0, .int .i16 0, .int .i16 0, .int .i16 0, .int .i16 0, .int .i16 0, .int .i16 0, .int .i16 0, .int .i16 0, .int .i16 0, .int .i16 0, .int .i16 0, .int .i16 0, .int .i16 0, .int .i16 0, .int .i16 0, .int .i16 0, .int .i16 0, .int .i16 0, .int .i16 0, .int .i16 0, .int .i16 0, .int .i16 0] 36)) (b := w3.heap.size) (Nat.le_refl _) (arrV .i16 64 M)
    have k4 := k3.trans (kk.mono k3.size)
    rcases HR3.out.below kk (Nat.le_refl _) with h0 | ⟨b, o, rfl, hlb, hc⟩
    · exfalso; omega
    have p0 := hc j hj
    clear hc kk k3 HR3
    go_wp2_with (refine wpList_store_arr z0 36 (.tmp 9) (.tmp 27) rfl rfl rfl rfl sizePrint ?_)
    refine (Hd.out _ _ _ _ p0 (PartA.of_arr z1)).mono ?_; rintro e w5 ⟨rfl, hb5⟩
    go_wp2_with fail
    go_ret2
    exact ⟨rfl, k4.trans (hb5.mono k4.size)⟩
end Go.Proofs.YtnohpkhaimmdmaaDoor

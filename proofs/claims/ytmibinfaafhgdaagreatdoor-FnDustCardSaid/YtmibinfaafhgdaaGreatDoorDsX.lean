/-
  The dust of copies in the program: the median and the map of dust. Condition: its variables hold their own errors; at most 1048576 copies of 16-bit numbers.
-/
import Derived.Test.YtmibinfaafhgdaaGreatDoorDm
namespace Go.Proofs.YtmibinfaafhgdaaGreatDoor
open Go.RowKit

/-- Where a print has dust beside a median. -/
def dusP (f m : Nat → Int) (x : Int) (c : Nat) : Bool := drkP f m x c || drkP m f x c
def dusB (f m : Nat → Int) (x : Int) : BitVec 64 := mkB (dusP f m x)
theorem mkB_orD (p q : Nat → Bool) : mkB p ||| mkB q = mkB fun k => p k || q k := mkB_ext fun k hk => by rw [BitVec.getLsbD_or, mkB_bit p hk, mkB_bit q hk]
theorem dusB_or (f m : Nat → Int) (x : Int) : mkB (drkP f m x) ||| mkB (drkP m f x) = dusB f m x := mkB_orD _ _
theorem dusB_same {f g m : Nat → Int} {x : Int} (h : prV f = prV g) : dusB f m x = dusB g m x := by
  unfold dusB
  refine mkB_ext fun k hk => ?_
  rw [mkB_bit _ hk]
  unfold dusP drkP
  rw [prV_eq h hk]
/-- The dust in copy i. -/
def dF (g : Nat → Nat → Int) (n : Nat) (x : Int) (i : Nat) : Int := bvI (dusB (g i) (medF g n) x)

set_option maxRecDepth 100000 in
set_option maxHeartbeats 4000000 in
theorem dustOf_ok (s : Ers) (A : Option Addr) (n cap : Nat) (g : Nat → Nat → Int) (x : Int) (hn : n ≤ 1048576) (hs : ∀ i, i < n → S16 (g i)) (hc : copC n g x = 0) (w : World) (hr : PrsIn w A n g) (hE : ErrEnv s w) :
    Calls Tryz.prog 49 #[.slice A n cap, .int .i64 x] w fun e w' => ∃ b N, N ≤ 8 ∧ e = .returned (.tuple #[.agg (dsV (medF g n) b), .nilIface]) ∧ w.heap.size ≤ b ∧ DMap w' b N g (dF g n x) n ∧ Below w.heap.size w w' := by
  have k0 := (Below.refl w.heap.size w).alloc (Nat.le_refl _) (.cells Tryz.zeroCells90 90)
  have a0 : (w.alloc (.cells Tryz.zeroCells90 90)).heap[w.heap.size]? = some (.cells Tryz.zeroCells90 90 (0, 0)) := heap_alloc_last w _
  have hq := checkCopiesWithin_any s A n cap g x hn _ (hr.below k0 (Nat.le_refl _)) (hE.below k0 (Nat.le_refl _))
  rw [hc] at hq
  have h8 := copC_pos hc
  have Hm := Lib.hid (fun W h => medianOf_any A n cap g h8.1 h8.2 hs W h)
  have hms := medF_s h8.1 hs
  have Hd1 := Lib.hid (fun i hi W => darkerIn_any (g i) (medF g n) (hs i hi) hms x W)
  have Hd2 := Lib.hid (fun i hi W => darkerIn_any (medF g n) (g i) hms (hs i hi) x W)
  have HS := Lib.hid hs
  have hq' : Hid (Calls Tryz.prog 68 #[.slice A n cap, .int .i64 x] (w.alloc (.cells Tryz.zeroCells90 90)) fun e w' => e = .returned .nilIface ∧ Below (w.alloc (.cells Tryz.zeroCells90 90)).heap.size (w.alloc (.cells Tryz.zeroCells90 90)) w') := Lib.hid hq
  have HRw := Lib.hid hr
  have HR := Lib.hid (hr.below k0 (Nat.le_refl _)); clear hr hE hq hs hc hms
  have HD := Lib.hid (fun i : Nat => show bvI (mkB (drkP (g i) (medF g n) x) ||| mkB (drkP (medF g n) (g i) x)) = dF g n x i by rw [dusB_or]; rfl)
  have HF := Lib.hid (fun i k (h : prV (g i) = prV (g k)) => show dF g n x i = dF g n x k by unfold dF; rw [dusB_same h])
  generalize dF g n x = F at *
  generalize hMe : medF g n = M at *
  clear hMe
  have hmm := @run_makeMap Tryz.prog
  go_enter Tryz.func49, Tryz.ntmps49
  go_wp2_with fail
  refine hq'.out.mono ?_; rintro e w2 ⟨rfl, hb2⟩
  have k2 := k0.trans (hb2.mono k0.size)
  have a2 : w2.heap[w.heap.size]? = some (.cells Tryz.zeroCells90 90 (0, 0)) := (hb2.block w.heap.size (by simp)).trans a0
  have HR2 := Lib.hid (HR.out.below hb2 (Nat.le_refl _))
  clear hb2 a0 k0 HR hq'
  go_wp2_with fail
  refine (Hm.out _ HR2.out).mono ?_; rintro e w3 ⟨rfl, hb3⟩
  have hlt2 : w.heap.size < w2.heap.size := (Array.getElem?_eq_some_iff.1 a2).1
  have k3 := k2.trans (hb3.mono k2.size)
  have a3 : w3.heap[w.heap.size]? = some (.cells Tryz.zeroCells90 90 (0, 0)) := (hb3.block w.heap.size hlt2).trans a2
  have HR3 := Lib.hid (HR2.out.below hb3 (Nat.le_refl _))
  have hlt3 : w.heap.size < w3.heap.size := (Array.getElem?_eq_some_iff.1 a3).1
  clear hb3 k2 a2 HR2 hlt2
  have M0 := DMap.made w3 g F
  have k4 := k3.alloc k3.size (.map #[] 0)
  have a4 : (w3.alloc (.map #[] 0)).heap[w.heap.size]? = some (.cells Tryz.zeroCells90 90 (0, 0)) := (Below.heap_alloc w3 _ _ hlt3).trans a3
  have hs4 : (w3.alloc (.map #[] 0)).heap.size = w3.heap.size + 1 := by simp
  have HR4 := Lib.hid (HR3.out.below ((Below.refl w3.heap.size w3).alloc (Nat.le_refl _) (.map #[] 0)) (Nat.le_refl _))
  have z0 : ((w3.alloc (.map #[] 0)).alloc (.cells Tryz.zeroCells90 90)).heap[w3.heap.size + 1]? = some (.cells Tryz.zeroCells90 90 (0, 0)) := by
    have := heap_alloc_last (w3.alloc (.map #[] 0)) (.cells Tryz.zeroCells90 90)
    rwa [hs4] at this
  go_wp2_with (first | (refine wpList_build_ds (m := M) (b := w3.heap.size) rfl (.tmp 18) (.tmp 19) rfl rfl rfl ?_) | (refine wpList_store_ds z0 rfl rfl (.tmp 7) (.tmp 20) rfl rfl rfl ?_))
  have k5 := below_setRow (k4.alloc k4.size (.cells Tryz.zeroCells90 90)) (b := w3.heap.size + 1) (by have := k3.size; omega) (dsV M w3.heap.size)
  have ds : HasDs (((w3.alloc (.map #[] 0)).alloc (.cells Tryz.zeroCells90 90)).setRow (w3.heap.size + 1) (dsV M w3.heap.size)) (w3.heap.size + 1) M w3.heap.size := setRow_heap _ _ _ _ _ _ z0
  have dm : DMap (((w3.alloc (.map #[] 0)).alloc (.cells Tryz.zeroCells90 90)).setRow (w3.heap.size + 1) (dsV M w3.heap.size)) w3.heap.size 0 g F 0 :=
    M0.block ((setRow_other _ _ _ _ (by omega)).trans (Below.heap_alloc _ _ _ (by simp)))
  have a5 : (((w3.alloc (.map #[] 0)).alloc (.cells Tryz.zeroCells90 90)).setRow (w3.heap.size + 1) (dsV M w3.heap.size)).heap[w.heap.size]? = some (.cells Tryz.zeroCells90 90 (0, 0)) :=
    (setRow_other _ _ _ _ (by omega)).trans ((Below.heap_alloc _ _ _ (by simp; omega)).trans a4)
  have hk3 := k3.size
  obtain ⟨B, hBe⟩ : ∃ B, B = w3.heap.size := ⟨_, rfl⟩
  have HR5 : Hid (∀ W, Below w.heap.size w W → PrsIn W A n g) := Lib.hid fun W hW => by
    have := HRw.out
    exact this.below hW (Nat.le_refl _)
  clear z0 a4 k4 M0 hs4 HR4 HR3 k3 a3
  rw [← hBe] at ds dm hk3 hlt3 a5 k5 ⊢
  generalize (((w3.alloc (.map #[] 0)).alloc (.cells Tryz.zeroCells90 90)).setRow (B + 1) (dsV M B)) = W5 at *
  clear hBe hmm
  go_loopw [23] (fun iv wr => ∃ k N : Nat, k ≤ n ∧ iv = .int .i64 (k : Int) ∧ N ≤ k ∧ DMap wr B N g F k ∧ HasDs wr (B + 1) M B ∧ wr.heap[w.heap.size]? = some (.cells Tryz.zeroCells90 90 (0, 0)) ∧ Below w.heap.size w wr) (fun iv _ => n - (intOf iv).toNat)
  case atStart => exact ⟨0, 0, by omega, rfl, Nat.le_refl _, dm, ds, a5, k5⟩
  case round =>
    clear ds dm a5 k5
    obtain ⟨k, N, hkn, rfl, hNk, hdm, hds, ha, hB⟩ := hrel
    by_cases hlt : k < n
    rotate_left
    · obtain rfl : k = n := by omega
      have KB := Lib.hid hB; clear hB
      have hal := (Array.getElem?_eq_some_iff.1 ha).1
      have hdl := hdm.lt
      go_wp2_with (first | (refine wpList_load_ds hds rfl (.tmp 7) rfl rfl ?_) | (refine wpList_store_ds ha rfl rfl (.tmp 4) (.tmp 42) rfl rfl rfl ?_))
      refine bodyPost_ret (v := .tuple #[.agg (dsV M B), .nilIface]) ?_ rfl ⟨B, N, by omega, rfl, hk3, hdm.block (setRow_other _ _ _ _ (by omega)), below_setRow KB.out (b := w.heap.size) (by omega) _⟩
      exact resultsRowTmp1 rfl _ _ _ _ _ _ _ rfl (show _ = some (Obj.cells (dsV M B) 90 (0, 0)) from setRow_heap _ _ _ _ _ _ ha) Tryz.underlying90 rfl (by rw [dsV_size]; exact sizeDs) _ rfl
    have hlt' : (k : Int) < n := by omega
    rcases HR5.out wr hB with h0 | ⟨b, o, rfl, hlb, hc⟩
    · exfalso; omega
    have p0 := hc k hlt
    clear hc
    have hal := (Array.getElem?_eq_some_iff.1 ha).1
    have hdl := hdm.lt
    have hdl2 := hds.lt
    have z0 := HasArr.zero wr 29 (b := wr.heap.size) rfl
    have z1 := z0.setRow .i16 (g k)
    have kB := below_setRow ((Below.refl wr.heap.size wr).alloc (Nat.le_refl _) (.cells #[.int .i16 0, .int .i16 0, .int .i16 0, .int .i16 0, .int .i16 0, .int .i16 0, .int .i16 0, .int .i16 0, .int .i16 0, .int .i16 0, .int .i16 0, .int .i16 0, .int .i16 0, .int .i16 0, .int .i16 0, .int .i16 0, .int .i16 0, .int .i16 0, .int .i16 0, .int .i16 0, .int .i16 0, .int .i16 0, .int .i16 0, .int .i16 0, .int .i16 0, .int .i16 0, .int .i16 0, .int .i16 0, .int .i16 0, .int .i16 0, .int .i16 0, .int .i16 0, .int .i16 0, .int .i16 0, .int .i16 0, .int .i16 0, .int .i16 0, .int .i16 0, .int .i16 0, .int .i16 0, .int .i16 0, .int .i16 0, .int .i16 0, .int .i16 0, .int .i16 0, .int .i16 0, .int .i16 0, .int .i16 0, .int .i16 0, .int .i16 0, .int .i16 0, .int .i16 0, .int .i16 0, .int .i16 0, .int .i16 0, .int .i16 0, .int .i16 0, .int .i16 0, .int .i16 0, .int .i16 0, .int .i16 0, .int .i16 0, .int .i16 0, .int .i16 0] 29)) (b := wr.heap.size) (by omega) (arrV .i16 64 (g k))
    have dm1 := Lib.hid (hdm.below kB hdl)
    have ds1 := Lib.hid (hds.below kB hdl2)
    have a1 := Lib.hid ((kB.block w.heap.size hal).trans ha)
    have B1 := Lib.hid (hB.trans (kB.mono hB.size))
    have hd1 := Lib.hid (fun W => Hd1.out k hlt W)
    have hd2 := Lib.hid (fun W => Hd2.out k hlt W)
    have hdk := Lib.hid (HD.out k)
    clear kB hdm hds ha hB
    go_wp2_with (first | (refine wpList_load_part p0 29 (.tmp 25) rfl rfl rfl Tryz.underlying29 sizePrint ?_) | (refine wpList_store_arr z0 29 (.tmp 9) (.tmp 26) rfl rfl rfl rfl sizePrint ?_))
    clear z0 p0
    generalize ((wr.alloc (.cells #[.int .i16 0, .int .i16 0, .int .i16 0, .int .i16 0, .int .i16 0, .int .i16 0, .int .i16 0, .int .i16 0, .int .i16 0, .int .i16 0, .int .i16 0, .int .i16 0, .int .i16 0, .int .i16 0, .int .i16 0, .int .i16 0, .int .i16 0, .int .i16 0, .int .i16 0, .int .i16 0, .int .i16 0, .int .i16 0, .int .i16 0, .int .i16 0, .int .i16 0, .int .i16 0, .int .i16 0, .int .i16 0, .int .i16 0, .int .i16 0, .int .i16 0, .int .i16 0, .int .i16 0, .int .i16 0, .int .i16 0, .int .i16 0, .int .i16 0, .int .i16 0, .int .i16 0, .int .i16 0, .int .i16 0, .int .i16 0, .int .i16 0, .int .i16 0, .int .i16 0, .int .i16 0, .int .i16 0, .int .i16 0, .int .i16 0, .int .i16 0, .int .i16 0, .int .i16 0, .int .i16 0, .int .i16 0, .int .i16 0, .int .i16 0, .int .i16 0, .int .i16 0, .int .i16 0, .int .i16 0, .int .i16 0, .int .i16 0, .int .i16 0, .int .i16 0] 29)).setRow wr.heap.size (arrV .i16 64 (g k))) = W6 at *
    obtain ⟨Z, hZ⟩ : ∃ Z, Z = wr.heap.size := ⟨_, rfl⟩
    rw [← hZ] at z1 ⊢
    clear hZ
    have Z1 := Lib.hid z1; clear z1
    have cM := inCell ds1.out.map
    have n0 := below_nonempty W6
    refine wp_region_quiet_tail 14 (fun w' => ∃ x : WIn (Below W6.heap.size W6), w' = x.w) (by kernel_rfl) (by kernel_rfl) ⟨⟨_, below_drew1 _⟩, rfl⟩ ?_
    simp only [List.take_succ_cons, List.take_zero, List.drop_succ_cons, List.drop_zero]
    go_big_quiet_step (fail)
    go_big_quiet_step (fail)
    refine wpQuiet_load_arr (fun W hW => by obtain ⟨y, rfl⟩ := hW; exact Z1.out.below y.ok Z1.out.lt) 29 (.tmp 9) rfl rfl rfl Tryz.underlying29 sizePrint ?_
    go_frame
    refine wpQuiet_load_arr (fun W hW => by obtain ⟨y, rfl⟩ := hW; exact Z1.out.below y.ok Z1.out.lt) 29 (.tmp 9) rfl rfl rfl Tryz.underlying29 sizePrint ?_
    go_frame
    go_big_quiet_step (fail)
    refine wpQuiet_load_part (fun W hW => by obtain ⟨y, rfl⟩ := hW; exact (ds1.out.below y.ok ds1.out.lt).part) 29 (.tmp 31) rfl rfl rfl Tryz.underlying29 sizePrint ?_
    go_frame
    go_big_quiet_step (fail)
    go_big_quiet_step ((go_at_call 69; exact inCall _ (hd1.out _)))
    go_big_quiet_step (fail)
    refine wpQuiet_load_part (fun W hW => by obtain ⟨y, rfl⟩ := hW; exact (ds1.out.below y.ok ds1.out.lt).part) 29 (.tmp 35) rfl rfl rfl Tryz.underlying29 sizePrint ?_
    go_frame
    refine wpQuiet_load_arr (fun W hW => by obtain ⟨y, rfl⟩ := hW; exact Z1.out.below y.ok Z1.out.lt) 29 (.tmp 9) rfl rfl rfl Tryz.underlying29 sizePrint ?_
    go_frame
    go_big_quiet_step (fail)
    go_big_quiet_step ((go_at_call 69; exact inCall _ (hd2.out _)))
    refine wpQuiet_val rfl (fun W => run_or_bv (a := mkB (drkP (g k) M x)) (b := mkB (drkP M (g k) x)) rfl rfl rfl) ?_
    rw [hdk.out]
    go_frame
    refine wpQuiet_nil ?_
    rintro _ ⟨y, rfl⟩
    have dm2 := dm1.out.below y.ok dm1.out.lt
    have ds2 := Lib.hid (ds1.out.below y.ok ds1.out.lt)
    have a2 := Lib.hid ((y.ok.block w.heap.size (Array.getElem?_eq_some_iff.1 a1.out).1).trans a1.out)
    have B2 := Lib.hid (B1.out.trans (y.ok.mono B1.out.size))
    generalize y.w = v at *
    go_wp2_with (refine wpList_mapUpdate_dm dm2 (by omega) (HS.out k hlt) (fun i _ h => HF.out i k h) rfl (.tmp 28) (.tmp 29) (.tmp 40) rfl rfl rfl rfl ?_)
    intro w7 N7 hN7 dm7 hg7
    have hv := ds2.out.lt
    have ds7 : HasDs w7 (B + 1) M B := (hg7.block (B + 1) hv (by simp)).trans ds2.out
    have a7 := (hg7.block w.heap.size (Array.getElem?_eq_some_iff.1 a2.out).1 (by simp; omega)).trans a2.out
    have k7 : Below w.heap.size w w7 := B2.out.grown hg7 B2.out.size (fun jj e => by injection e with e; omega)
    have D7 := Lib.hid (And.intro dm7 (And.intro ds7 (And.intro a7 k7))); clear dm7 ds7 a7 k7 dm2 hg7
    go_wp2_with fail
    go_roundw
    case rel => exact ⟨k + 1, N7, by omega, by go_num, by omega, D7.out.1, D7.out.2.1, D7.out.2.2.1, D7.out.2.2.2⟩
    case measure => simp [intOf]; omega
end Go.Proofs.YtmibinfaafhgdaaGreatDoor

namespace Go.Proofs.YtmibinfaafhgdaaGreatDoor
open Go.RowKit

/-! ### THE REFERENCE -/
def szD (z : Int) : Int := if z < 0 then -z else z
theorem l01SizeD_any (z : Int) (h : -100000 ≤ z) (h' : z ≤ 100000) (w : World) : Calls Tryz.prog 77 #[.int .i64 z] w fun e w' => e = .returned (.int .i64 (szD z)) ∧ w = w' := by
  unfold szD
  by_cases hz : z < 0
  · rw [if_pos hz]
    go_enter Tryz.func77, Tryz.ntmps77
    go_wp2
    go_ret
    exact ⟨rfl, rfl⟩
  · rw [if_neg hz]
    go_enter Tryz.func77, Tryz.ntmps77
    go_wp2
    go_ret
    exact ⟨rfl, rfl⟩
theorem l03OffD_any (x y : Int) (h : -32768 ≤ x) (h' : x ≤ 32767) (hy : -32768 ≤ y) (hy' : y ≤ 32767) (w : World) : Calls Tryz.prog 52 #[.int .i16 x, .int .i16 y] w fun e w' => e = .returned (.int .i64 (szD (y - x))) ∧ w = w' := by
  have hs := fun W => l01SizeD_any (y - x) (by omega) (by omega) W
  generalize szD (y - x) = S at *
  have Hs := Lib.hid hs; clear hs
  go_enter Tryz.func52, Tryz.ntmps52
  go_wp2_with (go_at_call 77; refine (Hs.out _).mono ?_; rintro e w' ⟨rfl, rfl⟩)
  go_ret
  exact ⟨rfl, rfl⟩
/-- The mask of the cells below k of which p holds. -/
def pmB (p : Nat → Bool) (k : Nat) : BitVec 64 := mkB fun c => p c && decide (c < k)
theorem bitR_ofD (k c : Nat) (hk : k < 64) : (1#64 <<< k).getLsbD c = decide (c = k) := by
  rw [BitVec.getLsbD_shiftLeft, BitVec.getLsbD_one]
  by_cases e : c = k
  · subst e; simp [hk]
  · by_cases h : c < k
    · simp [e, h]
    · have : ¬ c - k = 0 := by omega
      simp [e, this]
theorem pmB_0 (p : Nat → Bool) : pmB p 0 = 0#64 := (mkB_ext fun k _ => by simp).symm
theorem pmB_yes {p : Nat → Bool} {k : Nat} (hk : k < 64) (h : p k = true) : pmB p k ||| (1#64 <<< k) = pmB p (k + 1) := mkB_ext fun c hc => by
  unfold pmB
  rw [BitVec.getLsbD_or, mkB_bit _ hc, bitR_ofD k c hk]
  by_cases e : c = k
  · subst e; simp [h]
  · have : decide (c < k + 1) = decide (c < k) := decide_eq_decide.2 (by omega)
    rw [this]; simp [e]
theorem pmB_no {p : Nat → Bool} {k : Nat} (h : p k = false) : pmB p (k + 1) = pmB p k := mkB_ext fun c hc => by
  unfold pmB
  rw [mkB_bit _ hc]
  by_cases e : c = k
  · subst e; simp [h]
  · have : decide (c < k + 1) = decide (c < k) := decide_eq_decide.2 (by omega)
    rw [this]
theorem pmB_64 (p : Nat → Bool) : pmB p 64 = mkB p := mkB_ext fun c hc => by
  unfold pmB
  rw [mkB_bit _ hc]; simp [hc]

set_option maxRecDepth 100000 in
set_option maxHeartbeats 4000000 in
theorem l07Dust_any (b o q o2 : Nat) (f m : Nat → Int) (x : Int) (hf : S16 f) (hm : S16 m) (w : World) (h1 : PartA w b o .i16 64 f) (h2 : PartA w q o2 .i16 64 m) :
    Calls Tryz.prog 31 #[.pointer (some ⟨b, o, none⟩), .pointer (some ⟨q, o2, none⟩), .int .i64 x] w fun e w' => e = .returned (.int .u64 (bvI (dusB f m x))) ∧ Below w.heap.size w w' := by
  have h00 : bvI (pmB (dusP f m x) 0) = 0 := by rw [pmB_0]; rfl
  have HO := Lib.hid (fun k hk W => l03OffD_any (m k) (f k) (hm k hk).1 (hm k hk).2 (hf k hk).1 (hf k hk).2 W)
  have HF := Lib.hid hf; have HM := Lib.hid hm; clear hf hm
  go_enter Tryz.func31, Tryz.ntmps31
  go_wp2_with fail
  go_loopw [7, 8] (fun mv kv wr => ∃ k : Nat, k ≤ 64 ∧ kv = .int .i64 (k : Int) ∧ mv = .int .u64 (bvI (pmB (dusP f m x) k)) ∧ Below w.heap.size w wr) (fun _ kv _ => 64 - (intOf kv).toNat)
  case atStart => exact ⟨0, by omega, rfl, by rw [h00], Below.refl _ _⟩
  case round =>
    obtain ⟨k, hk, rfl, rfl, hB⟩ := hrel
    by_cases hlt : k < 64
    rotate_left
    · obtain rfl : k = 64 := by omega
      rw [pmB_64]
      go_wp2_with fail
      go_ret
      exact ⟨rfl, hB⟩
    have hlt' : (k : Int) < 64 := by omega
    have c1 := below_cellOf hB (h1 k hlt) (Nat.le_refl _)
    have c2 := below_cellOf hB (h2 k hlt) (Nat.le_refl _)
    have b1 := HF.out k hlt
    have b2 := HM.out k hlt
    have ho := Lib.hid (HO.out k hlt)
    have hdp : dusP f m x k = decide (x < szD (f k - m k)) := by
      unfold dusP drkP szD
      by_cases hz : f k - m k < 0
      · rw [if_pos hz, Bool.eq_iff_iff]; simp only [Bool.or_eq_true, decide_eq_true_eq]; omega
      · rw [if_neg hz, Bool.eq_iff_iff]; simp only [Bool.or_eq_true, decide_eq_true_eq]; omega
    have cc1 := inCell c1
    have cc2 := inCell c2
    have n0 := below_nonempty wr
    have hwi : IntKind.u64.wrap (k : Int) = (k : Int) := by rw [IntKind.wrap_u64]; omega
    generalize f k = Fk at *
    generalize m k = Mk at *
    rcases hv : dusP f m x k with _ | _
    · rw [hv] at hdp
      have hno := Lib.hid (pmB_no hv)
      have hnl : ¬ x < szD (Fk - Mk) := of_decide_eq_false hdp.symm
      clear hdp
      generalize szD (Fk - Mk) = S at *
      go_wp2_with fail
      refine wp_region_quietD (Below wr.heap.size wr) (by kernel_rfl) (by kernel_rfl) (below_drew1 _) ?_
      repeat (go_big_quiet_step ((go_at_call 52; exact inCallS _ (ho.out _))))
      refine wpQuiet_nil ?_
      rintro _ ⟨y, rfl⟩
      have k3 := Lib.hid (hB.trans (y.ok.mono hB.size))
      generalize y.w = v at *
      go_wp2_with fail
      go_roundw
      case rel => exact ⟨k + 1, by omega, by go_num, by rw [hno.out], k3.out⟩
      case measure => simp [intOf]; omega
    · rw [hv] at hdp
      have hyes := Lib.hid (pmB_yes hlt hv)
      have hnl : x < szD (Fk - Mk) := of_decide_eq_true hdp.symm
      clear hdp
      generalize szD (Fk - Mk) = S at *
      go_wp2_with fail
      refine wp_region_quietD (Below wr.heap.size wr) (by kernel_rfl) (by kernel_rfl) (below_drew1 _) ?_
      repeat (go_big_quiet_step ((go_at_call 52; exact inCallS _ (ho.out _))))
      refine wpQuiet_nil ?_
      rintro _ ⟨y, rfl⟩
      have k3 := Lib.hid (hB.trans (y.ok.mono hB.size))
      generalize y.w = v at *
      go_wp2_with (first
        | (refine wpList_yield rfl (run_shl_bv (κ := .u64) (a := 1#64) (k := k) rfl rfl rfl hlt) ?_)
        | (refine wpList_yield rfl (run_or_bv (a := pmB (dusP f m x) k) (b := 1#64 <<< k) rfl rfl rfl) ?_))
      go_roundw
      case rel => exact ⟨k + 1, by omega, by go_num, by rw [hyes.out], k3.out⟩
      case measure => simp [intOf]; omega

/-- What DustIn returns. -/
def dsiT (n : Nat) (g : Nat → Nat → Int) (i x : Int) : Array Value := if copC n g x = 0 then (if inB i 0 ((n : Int) - 1) = true then #[.int .u64 (dF g n x i.toNat), .int .i64 0] else #[.int .u64 0, .int .i64 2]) else #[.int .u64 0, .int .i64 (copC n g x)]

end Go.Proofs.YtmibinfaafhgdaaGreatDoor


namespace Go.Proofs.YtmibinfaafhgdaaGreatDoor
open Go.RowKit

theorem dzSize : (Tryz.zeroCells90).size = 65 := by kernel_rfl
theorem dzOne : (Tryz.zeroCells90).all (·.oneCell') = true := by kernel_rfl
section
variable {ops : Array Oper} {rest : List Oper} {o : Oper} {a : Act} {Q : Exit → Act → World → Prop} {w : World} {q : Nat}
theorem wpList_store_dz {cs : Array Value} {T : TypeId} (h0 : w.heap[q]? = some (.cells cs T (0, 0))) (hcs : cs.size = 65) (hg : o.guard = none) (x y : Operand) (ho : o.op = .store 90 x y) (hx : a.eval x = .pointer (some ⟨q, 0, none⟩)) (hy : a.eval y = .agg Tryz.zeroCells90)
    (hK : wpList Tryz.prog ops Q rest (a.put o.dst undef) (w.setRow q Tryz.zeroCells90)) : wpList Tryz.prog ops Q (o :: rest) a w :=
  wpList_store_row hg 90 x y ho q _ hx hy T _ h0 (by rw [dzSize]; exact sizeDs) (by rw [dzSize]; exact hcs) dzOne hK
end

set_option maxRecDepth 100000 in
set_option maxHeartbeats 2000000 in
theorem dustOf_bad (s : Ers) (A : Option Addr) (n cap : Nat) (g : Nat → Nat → Int) (x : Int) (hn : n ≤ 1048576) (hc : copC n g x ≠ 0) (w : World) (hr : PrsIn w A n g) (hE : ErrEnv s w) :
    Calls Tryz.prog 49 #[.slice A n cap, .int .i64 x] w fun e w' => e = .returned (.tuple #[.agg Tryz.zeroCells90, copE s (copC n g x)]) ∧ Below w.heap.size w w' := by
  have k0 := (Below.refl w.heap.size w).alloc (Nat.le_refl _) (.cells Tryz.zeroCells90 90)
  have a0 : (w.alloc (.cells Tryz.zeroCells90 90)).heap[w.heap.size]? = some (.cells Tryz.zeroCells90 90 (0, 0)) := heap_alloc_last w _
  have hq := checkCopiesWithin_any s A n cap g x hn _ (hr.below k0 (Nat.le_refl _)) (hE.below k0 (Nat.le_refl _))
  obtain ⟨a, ha⟩ := copE_ne s hc
  rw [ha] at hq ⊢
  have Hq := Lib.hid hq; clear hq hc hr hE ha
  go_enter Tryz.func49, Tryz.ntmps49
  go_wp2_with fail
  refine Hq.out.mono ?_; rintro e w2 ⟨rfl, hb2⟩
  have k2 := k0.trans (hb2.mono k0.size)
  have a2 : w2.heap[w.heap.size]? = some (.cells Tryz.zeroCells90 90 (0, 0)) := (hb2.block w.heap.size (by simp)).trans a0
  clear hb2 a0 k0 Hq
  go_wp2_with (refine wpList_store_dz a2 dzSize rfl (.tmp 4) (.tmp 15) rfl rfl rfl ?_)
  refine bodyPost_ret (v := .tuple #[.agg Tryz.zeroCells90, errV a]) ?_ rfl ⟨rfl, below_setRow k2 (b := w.heap.size) (by omega) _⟩
  exact resultsRowTmp1 rfl _ _ _ _ _ _ _ rfl (show _ = some (Obj.cells Tryz.zeroCells90 90 (0, 0)) from setRow_heap _ _ _ _ _ _ a2) Tryz.underlying90 rfl (by rw [dzSize]; exact sizeDs) _ rfl
end Go.Proofs.YtmibinfaafhgdaaGreatDoor

namespace Go.Proofs.YtmibinfaafhgdaaGreatDoor
open Go.RowKit

/-- What dustIn returns. -/
def dsiR (s : Ers) (n : Nat) (g : Nat → Nat → Int) (i x : Int) : Array Value := if copC n g x = 0 then (if inB i 0 ((n : Int) - 1) = true then #[.int .u64 (dF g n x i.toNat), .nilIface] else #[.int .u64 0, errV s.erange]) else #[.int .u64 0, copE s (copC n g x)]

set_option maxRecDepth 100000 in
set_option maxHeartbeats 4000000 in
theorem dustIn_any (s : Ers) (A : Option Addr) (n cap : Nat) (g : Nat → Nat → Int) (i x : Int) (hn : n ≤ 1048576) (hs : ∀ i, i < n → S16 (g i)) (w : World) (hr : PrsIn w A n g) (hE : ErrEnv s w) :
    Calls Tryz.prog 39 #[.slice A n cap, .int .i64 i, .int .i64 x] w fun e w' => e = .returned (.tuple (dsiR s n g i x)) ∧ Below w.heap.size w w' := by
  have hl := fun W => inRange_any i 0 ((n : Int) - 1) W
  have HR := Lib.hid hr
  have HE := Lib.hid hE
  unfold dsiR
  by_cases hc : copC n g x = 0
  rotate_left
  · rw [if_neg hc]
    have hq := dustOf_bad s A n cap g x hn hc w hr hE
    obtain ⟨a, ha⟩ := copE_ne s hc
    rw [ha] at hq ⊢
    have Hq := Lib.hid hq; clear hq hs hl hc ha hr hE
    go_enter Tryz.func39, Tryz.ntmps39
    go_wp2_with fail
    refine Hq.out.mono ?_; rintro e w2 ⟨rfl, hb2⟩
    have a2 : (w2.alloc (.cells Tryz.zeroCells90 90)).heap[w2.heap.size]? = some (.cells Tryz.zeroCells90 90 (0, 0)) := heap_alloc_last w2 _
    have k3 := below_setRow (hb2.alloc hb2.size (.cells Tryz.zeroCells90 90)) (b := w2.heap.size) hb2.size Tryz.zeroCells90
    go_wp2_with (refine wpList_store_dz a2 dzSize rfl (.tmp 8) (.tmp 14) rfl rfl rfl ?_)
    go_ret2
    exact ⟨rfl, k3⟩
  rw [if_pos hc]
  have h8 := copC_pos hc
  have Hq := Lib.hid (dustOf_ok s A n cap g x hn hs hc w hr hE)
  clear hr hE hc
  rcases hin : inB i 0 ((n : Int) - 1) with _ | _
  · rw [if_neg (by decide)]
    rw [hin] at hl
    have Hl := Lib.hid hl; clear hl hs hin
    go_enter Tryz.func39, Tryz.ntmps39
    go_wp2_with fail
    refine Hq.out.mono ?_; rintro e w2 ⟨b, N, hN, rfl, hwb, hdm, hb2⟩
    have a2 : (w2.alloc (.cells Tryz.zeroCells90 90)).heap[w2.heap.size]? = some (.cells Tryz.zeroCells90 90 (0, 0)) := heap_alloc_last w2 _
    have k3 := below_setRow (hb2.alloc hb2.size (.cells Tryz.zeroCells90 90)) (b := w2.heap.size) hb2.size (dsV (medF g n) b)
    have ce := (HE.out.below k3 (Nat.le_refl _)).c_erange
    clear hdm hb2 Hq
    go_wp2_with (first | (refine wpList_store_ds a2 dzSize rfl (.tmp 8) (.tmp 14) rfl rfl rfl ?_) | (go_at_call 62; refine (Hl.out _).mono ?_; rintro e w' ⟨rfl, rfl⟩))
    clear a2
    generalize ((w2.alloc (.cells Tryz.zeroCells90 90)).setRow w2.heap.size (dsV (medF g n) b)) = W3 at *
    go_quiet (fail)
    go_wp2
    go_ret2
    exact ⟨rfl, below_drewA k3 nq⟩
  · rw [if_pos rfl]
    rw [hin] at hl
    have hii := inB_true.1 hin
    obtain ⟨j, rfl⟩ : ∃ j : Nat, i = (j : Int) := ⟨i.toNat, by omega⟩
    have hj : j < n := by omega
    have hj' : (j : Int) < n := by omega
    rw [Int.toNat_natCast]
    have hsj := hs j hj
    have Hl := Lib.hid hl; clear hl hs hin
    go_enter Tryz.func39, Tryz.ntmps39
    go_wp2_with fail
    refine Hq.out.mono ?_; rintro e w2 ⟨b, N, hN, rfl, hwb, hdm, hb2⟩
    have a2 : (w2.alloc (.cells Tryz.zeroCells90 90)).heap[w2.heap.size]? = some (.cells Tryz.zeroCells90 90 (0, 0)) := heap_alloc_last w2 _
    have kk := below_setRow ((Below.refl w2.heap.size w2).alloc (Nat.le_refl _) (.cells Tryz.zeroCells90 90)) (b := w2.heap.size) (Nat.le_refl _) (dsV (medF g n) b)
    have k3 := hb2.trans (kk.mono hb2.size)
    have ds : HasDs ((w2.alloc (.cells Tryz.zeroCells90 90)).setRow w2.heap.size (dsV (medF g n) b)) w2.heap.size (medF g n) b := setRow_heap _ _ _ _ _ _ a2
    have dm := hdm.below kk hdm.lt
    have hr3 := HR.out.below k3 (Nat.le_refl _)
    clear hdm hb2 Hq kk
    go_wp2_with (first | (refine wpList_store_ds a2 dzSize rfl (.tmp 8) (.tmp 14) rfl rfl rfl ?_) | (go_at_call 62; refine (Hl.out _).mono ?_; rintro e w' ⟨rfl, rfl⟩))
    clear a2
    generalize ((w2.alloc (.cells Tryz.zeroCells90 90)).setRow w2.heap.size (dsV (medF g n) b)) = W3 at *
    rcases hr3 with h0 | ⟨b', o, rfl, hlb, hcc⟩
    · exfalso; omega
    have p0 := Lib.hid (hcc j hj); clear hcc
    have cM := inCell ds.map
    have n0 := below_nonempty W3
    have DM := Lib.hid dm; clear dm
    refine wp_region_quietD (Below W3.heap.size W3) (by kernel_rfl) (by kernel_rfl) (below_drew1 _) ?_
    go_big_quiet_step (fail)
    go_big_quiet_step (fail)
    go_big_quiet_step (fail)
    go_big_quiet_step (fail)
    go_big_quiet_step (fail)
    refine wpQuiet_load_part (fun W hW => by obtain ⟨y, rfl⟩ := hW; exact p0.out.below y.ok hlb) 29 (.tmp 30) rfl rfl rfl Tryz.underlying29 sizePrint ?_
    go_frame
    refine wpQuiet_lookup_dm (fun W hW => by obtain ⟨y, rfl⟩ := hW; exact DM.out.below y.ok DM.out.lt) hj hsj rfl (.tmp 27) (.tmp 31) rfl rfl rfl ?_
    go_frame
    go_big_quiet_step (fail)
    go_big_quiet_step (fail)
    refine wpQuiet_nil ?_
    rintro _ ⟨y, rfl⟩
    have k4 := k3.trans (y.ok.mono k3.size)
    go_wp2_with fail
    go_ret2
    exact ⟨rfl, k4⟩

theorem codedU64D_any {s : Ers} {v : Value} {c : Int} (h : IsCode s v c) (x : Int) (w : World) (hE : ErrEnv s w) :
    Calls Tryz.prog 38 #[.int .u64 x, v] w fun e w' => e = .returned (.tuple #[.int .u64 x, .int .i64 c]) ∧ w = w' := by
  go_enter Tryz.func38, Tryz.ntmps38
  go_wp2_with fail
  refine (codeOf_any h _ hE).mono ?_; rintro e w1 ⟨rfl, rfl⟩
  go_wp2_with fail
  go_ret2
  exact ⟨rfl, rfl⟩

/-- There is a mask, an error and a code that both return. -/
theorem dsi_code (s : Ers) (n : Nat) (g : Nat → Nat → Int) (i x : Int) : ∃ (R : Int) (v : Value) (c : Int), IsCode s v c ∧ dsiR s n g i x = #[.int .u64 R, v] ∧ dsiT n g i x = #[.int .u64 R, .int .i64 c] := by
  unfold dsiR dsiT
  by_cases hc : copC n g x = 0
  · rw [if_pos hc, if_pos hc]
    by_cases hi : inB i 0 ((n : Int) - 1) = true
    · rw [if_pos hi, if_pos hi]; exact ⟨_, _, _, .ok, rfl, rfl⟩
    · rw [if_neg hi, if_neg hi]; exact ⟨_, _, _, .erange, rfl, rfl⟩
  · rw [if_neg hc, if_neg hc]; exact ⟨_, _, _, copE_code s n g x, rfl, rfl⟩

set_option maxRecDepth 100000 in
set_option maxHeartbeats 2000000 in
theorem DustIn_any (s : Ers) (A : Option Addr) (n cap : Nat) (g : Nat → Nat → Int) (i x : Int) (hn : n ≤ 1048576) (hs : ∀ i, i < n → S16 (g i)) (w : World) (hr : PrsIn w A n g) (hE : ErrEnv s w) :
    Calls Tryz.prog 16 #[.slice A n cap, .int .i64 i, .int .i64 x] w fun e w' => e = .returned (.tuple (dsiT n g i x)) ∧ Below w.heap.size w w' := by
  have Hq := Lib.hid (dustIn_any s A n cap g i x hn hs w hr hE)
  obtain ⟨R, v, c, hv, h1, h2⟩ := dsi_code s n g i x
  rw [h1] at Hq
  rw [h2]
  clear h1 h2 hs hr
  have HE := Lib.hid hE; clear hE
  go_enter Tryz.func16, Tryz.ntmps16
  go_wp2_with fail
  refine Hq.out.mono ?_; rintro e w2 ⟨rfl, hb2⟩
  have Hcd := Lib.hid (codedU64D_any hv R _ (HE.out.below hb2 (Nat.le_refl _)))
  go_wp2_with fail
  refine Hcd.out.mono ?_; rintro e w3 ⟨rfl, rfl⟩
  go_wp2_with fail
  go_ret2
  exact ⟨rfl, hb2⟩
end Go.Proofs.YtmibinfaafhgdaaGreatDoor

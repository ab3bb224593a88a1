/-
  The dust of copies in the program: the median and the map of dust. Condition: its variables hold their own errors; at most 1048576 copies of 16-bit numbers.
-/
import Derived.Test.YtnohpkhaimmdmaaDoorDm
namespace Go.Proofs.YtnohpkhaimmdmaaDoor
open Go.RowKit

/-- Where a print has dust beside a median. -/
def dusP (f m : Nat → Int) (x : Int) (c : Nat) : Bool := drkP f m x c || drkP m f x c
def dusB (f m : Nat → Int) (x : Int) : BitVec 64 := mkB (dusP f m x)
theorem mkB_orD (p q : Nat → Bool) : mkB p ||| mkB q = mkB fun k => p k || q k := mkB_ext fun k hk => by rw [BitVec.getLsbD_or, mkB_bit p hk, mkB_bit q hk]
theorem dusB_or (f m : Nat → Int) (x : Int) : mkB (drkP f m x) ||| mkB (drkP m f x) = dusB f m x := mkB_orD _ _
theorem dusB_same {f g m : Nat → Int} {x : Int} (h : prV f = prV g) : dusB f m x = dusB g m x := by
  unfold dusB
  refine mkB_ext fun k hk => ?_
  rw [mkB_bit _ hk]
  unfold dusP drkP
  rw [prV_eq h hk]
/-- The dust in copy i. -/
def dF (g : Nat → Nat → Int) (n : Nat) (x : Int) (i : Nat) : Int := bvI (dusB (g i) (medF g n) x)

set_option maxRecDepth 100000 in
set_option maxHeartbeats 4000000 in
theorem dustOf_ok (s : Ers) (A : Option Addr) (n cap : Nat) (g : Nat → Nat → Int) (x : Int) (hn : n ≤ 1048576) (hs : ∀ i, i < n → S16 (g i)) (hc : copC n g x = 0) (w : World) (hr : PrsIn w A n g) (hE : ErrEnv s w) :
    Calls Tryd.prog 30 #[.slice A n cap, .int .i64 x] w fun e w' => ∃ b N, N ≤ 8 ∧ e = .returned (.tuple #[.agg (dsV (medF g n) b), .nilIface]) ∧ w.heap.size ≤ b ∧ DMap w' b N g (dF g n x) n ∧ Below w.heap.size w w' := by
  have k0 := (Below.refl w.heap.size w).alloc (Nat.le_refl _) (.cells Tryd.zeroCells67 67)
  have a0 : (w.alloc (.cells Tryd.zeroCells67 67)).heap[w.heap.size]? = some (.cells Tryd.zeroCells67 67 (0, 0)) := heap_alloc_last w _
  have hq := checkCopiesWithin_any s A n cap g x hn _ (hr.below k0 (Nat.le_refl _)) (hE.below k0 (Nat.le_refl _))
  rw [hc] at hq
  have h8 := copC_pos hc
  have Hm := Lib.hid (fun W h => medianOf_any A n cap g h8.1 h8.2 hs W h)
  have hms := medF_s h8.1 hs
  have Hd1 := Lib.hid (fun i hi W => darkerIn_any (g i) (medF g n) (hs i hi) hms x W)
  have Hd2 := Lib.hid (fun i hi W => darkerIn_any (medF g n) (g i) hms (hs i hi) x W)
  have HS := Lib.hid hs
  have hq' : Hid (Calls Tryd.prog 38 #[.slice A n cap, .int .i64 x] (w.alloc (.cells Tryd.zeroCells67 67)) fun e w' => e = .returned .nilIface ∧ Below (w.alloc (.cells Tryd.zeroCells67 67)).heap.size (w.alloc (.cells Tryd.zeroCells67 67)) w') := Lib.hid hq
  have HRw := Lib.hid hr
  have HR := Lib.hid (hr.below k0 (Nat.le_refl _)); clear hr hE hq hs hc hms
  have HD := Lib.hid (fun i : Nat => show bvI (mkB (drkP (g i) (medF g n) x) ||| mkB (drkP (medF g n) (g i) x)) = dF g n x i by rw [dusB_or]; rfl)
  have HF := Lib.hid (fun i k (h : prV (g i) = prV (g k)) => show dF g n x i = dF g n x k by unfold dF; rw [dusB_same h])
  generalize dF g n x = F at *
  generalize hMe : medF g n = M at *
  clear hMe
  have hmm := @run_makeMap Tryd.prog
  go_enter Tryd.func30, Tryd.ntmps30
  go_wp2_with fail
  refine hq'.out.mono ?_; rintro e w2 ⟨rfl, hb2⟩
  have k2 := k0.trans (hb2.mono k0.size)
  have a2 : w2.heap[w.heap.size]? = some (.cells Tryd.zeroCells67 67 (0, 0)) := (hb2.block w.heap.size (by simp)).trans a0
  have HR2 := Lib.hid (HR.out.below hb2 (Nat.le_refl _))
  clear hb2 a0 k0 HR hq'
  go_wp2_with fail
  refine (Hm.out _ HR2.out).mono ?_; rintro e w3 ⟨rfl, hb3⟩
  have hlt2 : w.heap.size < w2.heap.size := (Array.getElem?_eq_some_iff.1 a2).1
  have k3 := k2.trans (hb3.mono k2.size)
  have a3 : w3.heap[w.heap.size]? = some (.cells Tryd.zeroCells67 67 (0, 0)) := (hb3.block w.heap.size hlt2).trans a2
  have HR3 := Lib.hid (HR2.out.below hb3 (Nat.le_refl _))
  have hlt3 : w.heap.size < w3.heap.size := (Array.getElem?_eq_some_iff.1 a3).1
  clear hb3 k2 a2 HR2 hlt2
  have M0 := DMap.made w3 g F
  have k4 := k3.alloc k3.size (.map #[] 0)
  have a4 : (w3.alloc (.map #[] 0)).heap[w.heap.size]? = some (.cells Tryd.zeroCells67 67 (0, 0)) := (Below.heap_alloc w3 _ _ hlt3).trans a3
  have hs4 : (w3.alloc (.map #[] 0)).heap.size = w3.heap.size + 1 := by simp
  have HR4 := Lib.hid (HR3.out.below ((Below.refl w3.heap.size w3).alloc (Nat.le_refl _) (.map #[] 0)) (Nat.le_refl _))
  have z0 : ((w3.alloc (.map #[] 0)).alloc (.cells Tryd.zeroCells67 67)).heap[w3.heap.size + 1]? = some (.cells Tryd.zeroCells67 67 (0, 0)) := by
    have := heap_alloc_last (w3.alloc (.map #[] 0)) (.cells Tryd.zeroCells67 67)
    rwa [hs4] at this
  go_wp2_with (first | (refine wpList_build_ds (m := M) (b := w3.heap.size) rfl (.tmp 18) (.tmp 19) rfl rfl rfl ?_) | (refine wpList_store_ds z0 rfl rfl (.tmp 7) (.tmp 20) rfl rfl rfl ?_))
  have k5 := below_setRow (k4.alloc k4.size (.cells Tryd.zeroCells67 67)) (b := w3.heap.size + 1) (by have := k3.size; omega) (dsV M w3.heap.size)
  have ds : HasDs (((w3.alloc (.map #[] 0)).alloc (.cells Tryd.zeroCells67 67)).setRow (w3.heap.size + 1) (dsV M w3.heap.size)) (w3.heap.size + 1) M w3.heap.size := setRow_heap _ _ _ _ _ _ z0
  have dm : DMap (((w3.alloc (.map #[] 0)).alloc (.cells Tryd.zeroCells67 67)).setRow (w3.heap.size + 1) (dsV M w3.heap.size)) w3.heap.size 0 g F 0 :=
    M0.block ((setRow_other _ _ _ _ (by omega)).trans (Below.heap_alloc _ _ _ (by simp)))
  have a5 : (((w3.alloc (.map #[] 0)).alloc (.cells Tryd.zeroCells67 67)).setRow (w3.heap.size + 1) (dsV M w3.heap.size)).heap[w.heap.size]? = some (.cells Tryd.zeroCells67 67 (0, 0)) :=
    (setRow_other _ _ _ _ (by omega)).trans ((Below.heap_alloc _ _ _ (by simp; omega)).trans a4)
  have hk3 := k3.size
  obtain ⟨B, hBe⟩ : ∃ B, B = w3.heap.size := ⟨_, rfl⟩
  have HR5 : Hid (∀ W, Below w.heap.size w W → PrsIn W A n g) := Lib.hid fun W hW => by
    have := HRw.out
    exact this.below hW (Nat.le_refl _)
  clear z0 a4 k4 M0 hs4 HR4 HR3 k3 a3
  rw [← hBe] at ds dm hk3 hlt3 a5 k5 ⊢
  generalize (((w3.alloc (.map #[] 0)).alloc (.cells Tryd.zeroCells67 67)).setRow (B + 1) (dsV M B)) = W5 at *
  clear hBe hmm
  go_loopw [23] (fun iv wr => ∃ k N : Nat, k ≤ n ∧ iv = .int .i64 (k : Int) ∧ N ≤ k ∧ DMap wr B N g F k ∧ HasDs wr (B + 1) M B ∧ wr.heap[w.heap.size]? = some (.cells Tryd.zeroCells67 67 (0, 0)) ∧ Below w.heap.size w wr) (fun iv _ => n - (intOf iv).toNat)
  case atStart => exact ⟨0, 0, by omega, rfl, Nat.le_refl _, dm, ds, a5, k5⟩
  case round =>
    clear ds dm a5 k5
    obtain ⟨k, N, hkn, rfl, hNk, hdm, hds, ha, hB⟩ := hrel
    by_cases hlt : k < n
    rotate_left
    · obtain rfl : k = n := by omega
      have KB := Lib.hid hB; clear hB
      have hal := (Array.getElem?_eq_some_iff.1 ha).1
      have hdl := hdm.lt
      go_wp2_with (first | (refine wpList_load_ds hds rfl (.tmp 7) rfl rfl ?_) | (refine wpList_store_ds ha rfl rfl (.tmp 4) (.tmp 42) rfl rfl rfl ?_))
      refine bodyPost_ret (v := .tuple #[.agg (dsV M B), .nilIface]) ?_ rfl ⟨B, N, by omega, rfl, hk3, hdm.block (setRow_other _ _ _ _ (by omega)), below_setRow KB.out (b := w.heap.size) (by omega) _⟩
      exact resultsRowTmp1 rfl _ _ _ _ _ _ _ rfl (show _ = some (Obj.cells (dsV M B) 67 (0, 0)) from setRow_heap _ _ _ _ _ _ ha) Tryd.underlying67 rfl (by rw [dsV_size]; exact sizeDs) _ rfl
    have hlt' : (k : Int) < n := by omega
    rcases HR5.out wr hB with h0 | ⟨b, o, rfl, hlb, hc⟩
    · exfalso; omega
    have p0 := hc k hlt
    clear hc
    have hal := (Array.getElem?_eq_some_iff.1 ha).1
    have hdl := hdm.lt
    have hdl2 := hds.lt
    have z0 := HasArr.zero wr 36 (b := wr.heap.size) rfl
    have z1 := z0.setRow .i16 (g k)
    have kB := below_setRow ((Below.refl wr.heap.size wr).alloc (Nat.le_refl _) (.cells #[.int .i16 0, .int .i16 0, .int .i16 0, .int .i16 0, .int .i16 0, .int .i16 0, .int .i16 0, .int .i16 0, .int .i16 0, .int .i16 0, .int .i16 0, .int .i16 0, .int .i16 0, .int .i16 0, .int .i16 0, .int .i16 0, .int .i16 0, .int .i16 0, .int .i16 0, .int .i16 0, .int .i16 0, .int .i16 0, .int .i16 0, .int .i16 0, .int .i16 0, .int .i16 0, .int .i16 0, .int .i16 0, .int .i16 0, .int .i16 0, .int .i16 0, .int .i16 0, .int .i16 0, .int .i16 0, .int .i16 0, .int .i16 0, .int .i16 0, .int .i16 0, .int .i16 0, .int .i16 0, .int .i16 0, .int .i16 0, .int .i16 0, .int .i16 0, .int .i16 0, .int .i16 0, .int .i16 0, .int .i16 0, .int .i16 0, .int .i16 0, .int .i16 0, .int .i16 0, .int .i16 0, .int .i16 0, .int .i16 0, .int .i16 0, .int .i16 0, .int .i16 0, .int .i16 0, .int .i16 0, .int .i16 0, .int .i16 0, .int .i16 0, .int .i16 0] 36)) (b := wr.heap.size) (by omega) (arrV .i16 64 (g k))
    have dm1 := Lib.hid (hdm.below kB hdl)
    have ds1 := Lib.hid (hds.below kB hdl2)
    have a1 := Lib.hid ((kB.block w.heap.size hal).trans ha)
    have B1 := Lib.hid (hB.trans (kB.mono hB.size))
    have hd1 := Lib.hid (fun W => Hd1.out k hlt W)
    have hd2 := Lib.hid (fun W => Hd2.out k hlt W)
    have hdk := Lib.hid (HD.out k)
    clear kB hdm hds ha hB
    go_wp2_with (first | (refine wpList_load_part p0 36 (.tmp 25) rfl rfl rfl Tryd.underlying36 sizePrint ?_) | (refine wpList_store_arr z0 36 (.tmp 9) (.tmp 26) rfl rfl rfl rfl sizePrint ?_))
    clear z0 p0
    generalize ((wr.alloc (.cells #[.int .i16 0, .int .i16 0, .int .i16 0, .int .i16 0, .int .i16 0, .int .i16 0, .int .i16 0, .int .i16 0, .int .i16 0, .int .i16 0, .int .i16 0, .int .i16 0, .int .i16 0, .int .i16 0, .int .i16 0, .int .i16 0, .int .i16 0, .int .i16 0, .int .i16 0, .int .i16 0, .int .i16 0, .int .i16 0, .int .i16 0, .int .i16 0, .int .i16 0, .int .i16 0, .int .i16 0, .int .i16 0, .int .i16 0, .int .i16 0, .int .i16 0, .int .i16 0, .int .i16 0, .int .i16 0, .int .i16 0, .int .i16 0, .int .i16 0, .int .i16 0, .int .i16 0, .int .i16 0, .int .i16 0, .int .i16 0, .int .i16 0, .int .i16 0, .int .i16 0, .int .i16 0, .int .i16 0, .int .i16 0, .int .i16 0, .int .i16 0, .int .i16 0, .int .i16 0, .int .i16 0, .int .i16 0, .int .i16 0, .int .i16 0, .int .i16 0, .int .i16 0, .int .i16 0, .int .i16 0, .int .i16 0, .int .i16 0, .int .i16 0, .int .i16 0] 36)).setRow wr.heap.size (arrV .i16 64 (g k))) = W6 at *
    obtain ⟨Z, hZ⟩ : ∃ Z, Z = wr.heap.size := ⟨_, rfl⟩
    rw [← hZ] at z1 ⊢
    clear hZ
    have Z1 := Lib.hid z1; clear z1
    have cM := inCell ds1.out.map
    have n0 := below_nonempty W6
    refine wp_region_quiet_tail 14 (fun w' => ∃ x : WIn (Below W6.heap.size W6), w' = x.w) (by kernel_rfl) (by kernel_rfl) ⟨⟨_, below_drew1 _⟩, rfl⟩ ?_
    simp only [List.take_succ_cons, List.take_zero, List.drop_succ_cons, List.drop_zero]
    go_big_quiet_step (fail)
    go_big_quiet_step (fail)
    refine wpQuiet_load_arr (fun W hW => by obtain ⟨y, rfl⟩ := hW; exact Z1.out.below y.ok Z1.out.lt) 36 (.tmp 9) rfl rfl rfl Tryd.underlying36 sizePrint ?_
    go_frame
    refine wpQuiet_load_arr (fun W hW => by obtain ⟨y, rfl⟩ := hW; exact Z1.out.below y.ok Z1.out.lt) 36 (.tmp 9) rfl rfl rfl Tryd.underlying36 sizePrint ?_
    go_frame
    go_big_quiet_step (fail)
    refine wpQuiet_load_part (fun W hW => by obtain ⟨y, rfl⟩ := hW; exact (ds1.out.below y.ok ds1.out.lt).part) 36 (.tmp 31) rfl rfl rfl Tryd.underlying36 sizePrint ?_
    go_frame
    go_big_quiet_step (fail)
    go_big_quiet_step ((go_at_call 40; exact inCall _ (hd1.out _)))
    go_big_quiet_step (fail)
    refine wpQuiet_load_part (fun W hW => by obtain ⟨y, rfl⟩ := hW; exact (ds1.out.below y.ok ds1.out.lt).part) 36 (.tmp 35) rfl rfl rfl Tryd.underlying36 sizePrint ?_
    go_frame
    refine wpQuiet_load_arr (fun W hW => by obtain ⟨y, rfl⟩ := hW; exact Z1.out.below y.ok Z1.out.lt) 36 (.tmp 9) rfl rfl rfl Tryd.underlying36 sizePrint ?_
    go_frame
    go_big_quiet_step (fail)
    go_big_quiet_step ((go_at_call 40; exact inCall _ (hd2.out _)))
    refine wpQuiet_val rfl (fun W => run_or_bv (a := mkB (drkP (g k) M x)) (b := mkB (drkP M (g k) x)) rfl rfl rfl) ?_
    rw [hdk.out]
    go_frame
    refine wpQuiet_nil ?_
    rintro _ ⟨y, rfl⟩
    have dm2 := dm1.out.below y.ok dm1.out.lt
    have ds2 := Lib.hid (ds1.out.below y.ok ds1.out.lt)
    have a2 := Lib.hid ((y.ok.block w.heap.size (Array.getElem?_eq_some_iff.1 a1.out).1).trans a1.out)
    have B2 := Lib.hid (B1.out.trans (y.ok.mono B1.out.size))
    generalize y.w = v at *
    go_wp2_with (refine wpList_mapUpdate_dm dm2 (by omega) (HS.out k hlt) (fun i _ h => HF.out i k h) rfl (.tmp 28) (.tmp 29) (.tmp 40) rfl rfl rfl rfl ?_)
    intro w7 N7 hN7 dm7 hg7
    have hv := ds2.out.lt
    have ds7 : HasDs w7 (B + 1) M B := (hg7.block (B + 1) hv (by simp)).trans ds2.out
    have a7 := (hg7.block w.heap.size (Array.getElem?_eq_some_iff.1 a2.out).1 (by simp; omega)).trans a2.out
    have k7 : Below w.heap.size w w7 := B2.out.grown hg7 B2.out.size (fun jj e => by injection e with e; omega)
    have D7 := Lib.hid (And.intro dm7 (And.intro ds7 (And.intro a7 k7))); clear dm7 ds7 a7 k7 dm2 hg7
    go_wp2_with fail
    go_roundw
    case rel => exact ⟨k + 1, N7, by omega, by go_num, by omega, D7.out.1, D7.out.2.1, D7.out.2.2.1, D7.out.2.2.2⟩
    case measure => simp [intOf]; omega
end Go.Proofs.YtnohpkhaimmdmaaDoor

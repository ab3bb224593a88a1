/-
  The cleanest copy: what both sides' functions return. Condition of the program's: its variables hold their own errors.
-/
import Derived.Test.YtmibinfaafhgdaaGreatDoorDsX
import Derived.Test.YtmibinfaafhgdaaGreatDoorOneX
import Derived.Test.YtmibinfaafhgdaaGreatDoorRsX
namespace Go.Proofs.YtmibinfaafhgdaaGreatDoor
open Go.RowKit

/-! ### PLAIN -/
/-- The first of those that have the least. -/
def nrI (c : Nat → Nat) : Nat → Nat
  | 0 => 0
  | k + 1 => if c k < c (nrI c k) then k else nrI c k
theorem nrI_yes {c : Nat → Nat} {k : Nat} (h : c k < c (nrI c k)) : nrI c (k + 1) = k := if_pos h
theorem nrI_no {c : Nat → Nat} {k : Nat} (h : ¬ c k < c (nrI c k)) : nrI c (k + 1) = nrI c k := if_neg h
theorem nrI_lt (c : Nat → Nat) {n : Nat} (hn : 1 ≤ n) : ∀ k, k ≤ n → nrI c k < n
  | 0, _ => by show 0 < n; omega
  | k + 1, hk => by
    have := nrI_lt c hn k (by omega)
    unfold nrI
    split <;> omega
theorem nrI_1 (c : Nat → Nat) : nrI c 1 = 0 := nrI_no (by show ¬ c 0 < c 0; omega)
/-- How many cells with dust copy i has. -/
def dC (g : Nat → Nat → Int) (n : Nat) (x : Int) (i : Nat) : Nat := cntB (dusB (g i) (medF g n) x) 64
/-- What the reference has behind k copies. -/
def lsS (c : Nat → Nat) : Nat → Int
  | 0 => -1
  | k + 1 => (c (nrI c (k + 1)) : Nat)
/-- What CleanestCopy returns. -/
def cleT (n : Nat) (g : Nat → Nat → Int) (x : Int) : Array Value := if copC n g x = 0 then #[.int .i64 (nrI (dC g n x) n : Nat), .int .i64 (dC g n x (nrI (dC g n x) n) : Nat), .int .i64 0] else #[.int .i64 0, .int .i64 0, .int .i64 (copC n g x)]

/-! ### THE REFERENCE -/
set_option maxRecDepth 100000 in
set_option maxHeartbeats 4000000 in
theorem specCleanestCopy_any (A : Option Addr) (n cap : Nat) (g : Nat → Nat → Int) (x : Int) (hn : n ≤ 1048576) (hs : ∀ i, i < n → S16 (g i)) (w : World) (hr : PrsIn w A n g) :
    Calls Tryz.prog 12 #[.slice A n cap, .int .i64 x] w fun e w' => e = .returned (.tuple (cleT n g x)) ∧ Below w.heap.size w w' := by
  have hq := l07Copies_any A n cap g x hn hs _ hr
  have HR := Lib.hid hr; clear hr
  unfold cleT
  by_cases hc : copC n g x = 0
  rotate_left
  · rw [if_neg hc]
    have Hq := Lib.hid hq; clear hq hs
    generalize copC n g x = C at *
    go_enter Tryz.func12, Tryz.ntmps12
    go_wp2_with fail
    refine Hq.out.mono ?_; rintro e w2 ⟨rfl, hb2⟩
    go_wp2_with fail
    go_ret3
    exact ⟨rfl, hb2⟩
  rw [if_pos hc]
  rw [hc] at hq
  have h8 := copC_pos hc
  have hms := medF_s h8.1 hs
  have Hm := Lib.hid (fun W h => l07Median_any A n cap g h8.1 h8.2 hs W h)
  have Hd := Lib.hid (fun j (hj : j < n) b o q W h1 h2 => l07Dust_any b o q 0 (g j) (medF g n) x (hs j hj) hms W h1 h2)
  have Hc := Lib.hid (fun (j : Nat) W => show Calls Tryz.prog 33 #[.int .u64 (bvI (dusB (g j) (medF g n) x))] W fun e w' => e = .returned (.int .i64 (dC g n x j : Nat)) ∧ W = w' from (l07Count_any (dusB (g j) (medF g n) x) W).mono fun e w' h => h)
  have hcb := Lib.hid (fun j => show dC g n x j ≤ 64 from cntB_le _ 64)
  have Hq := Lib.hid hq; clear hq hs hc hms
  generalize dC g n x = c at *
  generalize hMe : medF g n = M at *
  clear hMe
  go_enter Tryz.func12, Tryz.ntmps12
  go_wp2_with fail
  refine Hq.out.mono ?_; rintro e w2 ⟨rfl, hb2⟩
  have HR2 := Lib.hid (HR.out.below hb2 (Nat.le_refl _))
  go_wp2_with fail
  refine (Hm.out _ HR2.out).mono ?_; rintro e w3 ⟨rfl, hb3⟩
  have k3 := hb2.trans (hb3.mono hb2.size)
  clear HR2 hb3 hb2 Hq
  have z0 := HasArr.zero w3 29 (b := w3.heap.size) rfl
  have z1 := z0.setRow .i16 M
  have k4 := below_setRow (k3.alloc k3.size (.cells #[.int .i16 0, .int .i16 0, .int .i16 0, .int .i16 0, .int .i16 0, .int .i16 0, .int .i16 0, .int .i16 0, .int .i16 0, .int .i16 0, .int .i16 0, .int .i16 0, .int .i16 0, .int .i16 0, .int .i16 0, .int .i16 0, .int .i16 0, .int .i16 0, .int .i16 0, .int .i16 0, .int .i16 0, .int .i16 0, .int .i16 0, .int .i16 0, .int .i16 0, .int .i16 0, .int .i16 0, .int .i16 0, .int .i16 0, .int .i16 0, .int .i16 0, .int .i16 0, .int .i16 0, .int .i16 0, .int .i16 0, .int .i16 0, .int .i16 0, .int .i16 0, .int .i16 0, .int .i16 0, .int .i16 0, .int .i16 0, .int .i16 0, .int .i16 0, .int .i16 0, .int .i16 0, .int .i16 0, .int .i16 0, .int .i16 0, .int .i16 0, .int .i16 0, .int .i16 0, .int .i16 0, .int .i16 0, .int .i16 0, .int .i16 0, .int .i16 0, .int .i16 0, .int .i16 0, .int .i16 0, .int .i16 0, .int .i16 0, .int .i16 0, .int .i16 0] 29)) (b := w3.heap.size) k3.size (arrV .i16 64 M)
  go_wp2_with (refine wpList_store_arr z0 29 (.tmp 8) (.tmp 20) rfl rfl rfl rfl sizePrint ?_)
  clear z0
  generalize ((w3.alloc (.cells #[.int .i16 0, .int .i16 0, .int .i16 0, .int .i16 0, .int .i16 0, .int .i16 0, .int .i16 0, .int .i16 0, .int .i16 0, .int .i16 0, .int .i16 0, .int .i16 0, .int .i16 0, .int .i16 0, .int .i16 0, .int .i16 0, .int .i16 0, .int .i16 0, .int .i16 0, .int .i16 0, .int .i16 0, .int .i16 0, .int .i16 0, .int .i16 0, .int .i16 0, .int .i16 0, .int .i16 0, .int .i16 0, .int .i16 0, .int .i16 0, .int .i16 0, .int .i16 0, .int .i16 0, .int .i16 0, .int .i16 0, .int .i16 0, .int .i16 0, .int .i16 0, .int .i16 0, .int .i16 0, .int .i16 0, .int .i16 0, .int .i16 0, .int .i16 0, .int .i16 0, .int .i16 0, .int .i16 0, .int .i16 0, .int .i16 0, .int .i16 0, .int .i16 0, .int .i16 0, .int .i16 0, .int .i16 0, .int .i16 0, .int .i16 0, .int .i16 0, .int .i16 0, .int .i16 0, .int .i16 0, .int .i16 0, .int .i16 0, .int .i16 0, .int .i16 0] 29)).setRow w3.heap.size (arrV .i16 64 M)) = W4 at *
  obtain ⟨B, hB⟩ : ∃ B, B = w3.heap.size := ⟨_, rfl⟩
  rw [← hB] at z1 ⊢
  clear hB k3
  go_loopw [9, 10, 11] (fun bv lv iv wr => ∃ k : Nat, k ≤ n ∧ iv = .int .i64 (k : Int) ∧ bv = .int .i64 (nrI c k : Nat) ∧ lv = .int .i64 (lsS c k) ∧ HasArr wr B 29 .i16 64 M ∧ Below w.heap.size w wr) (fun _ _ iv _ => n - (intOf iv).toNat)
  case atStart => exact ⟨0, by omega, rfl, rfl, rfl, z1, k4⟩
  case round =>
    clear z1 k4
    obtain ⟨k, hk, rfl, rfl, rfl, hz, hB⟩ := hrel
    by_cases hlt : k < n
    rotate_left
    · obtain rfl : k = n := by omega
      have e1 : lsS c k = (c (nrI c k) : Nat) := by
        cases k with
        | zero => omega
        | succ k => rfl
      rw [e1]
      go_wp2_with fail
      go_ret3
      exact ⟨rfl, hB⟩
    have hlt' : (k : Int) < n := by omega
    rcases HR.out.below hB (Nat.le_refl _) with h0 | ⟨b, o, rfl, hlb, hcc⟩
    · exfalso; omega
    have hd := Lib.hid (Hd.out k hlt b (o + k * 64) B wr (hcc k hlt) (PartA.of_arr hz))
    have hcn := Lib.hid (fun W => Hc.out k W)
    have hbk := hcb.out k
    have HZ := Lib.hid hz; have HBB := Lib.hid hB; clear hz hB hcc
    have hres : Hid (if c k < c (nrI c k) then nrI c (k + 1) = k else nrI c (k + 1) = nrI c k) := Lib.hid (by
      by_cases h : c k < c (nrI c k)
      · rw [if_pos h]; exact nrI_yes h
      · rw [if_neg h]; exact nrI_no h)
    by_cases hk0 : k = 0
    · subst hk0
      have e1 : nrI c 1 = 0 := nrI_1 c
      have e2 : Hid (lsS c 1 = (c 0 : Nat)) := Lib.hid (by show ((c (nrI c 1) : Nat) : Int) = _; rw [e1])
      have E1 := Lib.hid e1; clear e1
      have e3 : lsS c 0 = -1 := rfl
      have e4 : nrI c 0 = 0 := rfl
      rw [e3, e4]
      generalize c 0 = C0 at *
      go_wp2_with fail
      refine hd.out.mono ?_; rintro e w5 ⟨rfl, hb5⟩
      have z5 := Lib.hid (HZ.out.below hb5 HZ.out.lt)
      have k5 := Lib.hid (HBB.out.trans (hb5.mono HBB.out.size))
      clear hb5
      go_wp2_with (go_at_call 33; refine (hcn.out _).mono ?_; rintro e w' ⟨rfl, rfl⟩)
      go_roundw
      case rel => exact ⟨1, by omega, by go_num, by rw [E1.out]; rfl, by rw [e2.out], z5.out, k5.out⟩
      case measure => simp [intOf]; omega
    · have e1 : lsS c k = (c (nrI c k) : Nat) := by
        cases k with
        | zero => omega
        | succ k => rfl
      have e2 : Hid (lsS c (k + 1) = (c (nrI c (k + 1)) : Nat)) := Lib.hid rfl
      rw [e1]
      by_cases hcl : c k < c (nrI c k)
      · have hr2 := hres.out
        rw [if_pos hcl] at hr2
        have HR2 := Lib.hid hr2; clear hr2
        have hcl' : ((c k : Nat) : Int) < (c (nrI c k) : Nat) := by omega
        have hckk : Hid (lsS c (k + 1) = (c k : Nat)) := Lib.hid (by rw [e2.out, HR2.out])
        generalize c (nrI c k) = CN at *
        generalize c k = CK at *
        go_wp2_with fail
        refine hd.out.mono ?_; rintro e w5 ⟨rfl, hb5⟩
        have z5 := Lib.hid (HZ.out.below hb5 HZ.out.lt)
        have k5 := Lib.hid (HBB.out.trans (hb5.mono HBB.out.size))
        clear hb5
        go_wp2_with (go_at_call 33; refine (hcn.out _).mono ?_; rintro e w' ⟨rfl, rfl⟩)
        go_roundw
        case rel => exact ⟨k + 1, by omega, by go_num, by rw [HR2.out], by rw [hckk.out], z5.out, k5.out⟩
        case measure => simp [intOf]; omega
      · have hr2 := hres.out
        rw [if_neg hcl] at hr2
        have HR2 := Lib.hid hr2; clear hr2
        have hcl' : ¬ ((c k : Nat) : Int) < (c (nrI c k) : Nat) := by omega
        have hckk : Hid (lsS c (k + 1) = (c (nrI c k) : Nat)) := Lib.hid (by rw [e2.out, HR2.out])
        generalize hnr : nrI c k = NR at *
        generalize c NR = CN at *
        generalize c k = CK at *
        go_wp2_with fail
        refine hd.out.mono ?_; rintro e w5 ⟨rfl, hb5⟩
        have z5 := Lib.hid (HZ.out.below hb5 HZ.out.lt)
        have k5 := Lib.hid (HBB.out.trans (hb5.mono HBB.out.size))
        clear hb5
        go_wp2_with (go_at_call 33; refine (hcn.out _).mono ?_; rintro e w' ⟨rfl, rfl⟩)
        go_roundw
        case rel => exact ⟨k + 1, by omega, by go_num, by rw [HR2.out], by rw [hckk.out], z5.out, k5.out⟩
        case measure => simp [intOf]; omega
end Go.Proofs.YtmibinfaafhgdaaGreatDoor

namespace Go.Proofs.YtmibinfaafhgdaaGreatDoor
open Go.RowKit

set_option maxRecDepth 100000 in
set_option maxHeartbeats 2000000 in
theorem dustCount_any (M : Nat → Int) (b N k : Nat) (g : Nat → Nat → Int) (F : Nat → Int) (i : Nat) (hi : i < k) (hs : S16 (g i)) (D : BitVec 64) (hF : F i = bvI D) (w : World) (hm : DMap w b N g F k) :
    Calls Tryz.prog 54 #[.agg (dsV M b), .agg (arrV .i16 64 (g i))] w fun e w' => e = .returned (.int .i64 (cntB D 64 : Nat)) ∧ Below w.heap.size w w' := by
  have a0 : HasDs (w.alloc (.cells (dsV M b) 90)) w.heap.size M b := heap_alloc_last w _
  have kk := ((Below.refl w.heap.size w).alloc (Nat.le_refl _) (.cells (dsV M b) 90)).alloc (by simp) (.cells (arrV .i16 64 (g i)) 29)
  have a1 : HasDs ((w.alloc (.cells (dsV M b) 90)).alloc (.cells (arrV .i16 64 (g i)) 29)) w.heap.size M b := (Below.heap_alloc _ _ _ (by simp)).trans a0
  have a2 : HasArr ((w.alloc (.cells (dsV M b) 90)).alloc (.cells (arrV .i16 64 (g i)) 29)) (w.heap.size + 1) 29 .i16 64 (g i) := by
    have h := HasArr.new (w.alloc (.cells (dsV M b) 90)) 29 .i16 64 (g i)
    simpa using h
  have dm := hm.below kk hm.lt
  have cm := a1.map
  have Hc := Lib.hid (fun W => count_any D W)
  have hFF := Lib.hid hF
  clear a0 hm hF
  go_enter Tryz.func54, Tryz.ntmps54
  go_wp2_with (first
    | (refine wpList_load_arr a2 29 (.tmp 3) rfl rfl rfl Tryz.underlying29 sizePrint ?_)
    | (refine wpList_lookup_dm dm hi hs rfl (.tmp 6) (.tmp 7) rfl rfl rfl ?_; rw [hFF.out])
    | (go_at_call 78; refine (Hc.out _).mono ?_; rintro e w' ⟨rfl, rfl⟩))
  go_ret
  exact ⟨rfl, kk⟩

set_option maxRecDepth 100000 in
set_option maxHeartbeats 4000000 in
theorem nearestPr_any (A : Option Addr) (n cap : Nat) (M : Nat → Int) (b N : Nat) (g : Nat → Nat → Int) (F : Nat → Int) (c : Nat → Nat) (D : Nat → BitVec 64) (hF : ∀ i, F i = bvI (D i)) (hc : ∀ i, c i = cntB (D i) 64) (h1 : 1 ≤ n) (hn : n ≤ 1048576) (hs : ∀ i, i < n → S16 (g i)) (w : World) (hr : PrsIn w A n g) (hm : DMap w b N g F n) :
    Calls Tryz.prog 53 #[.slice A n cap, .func (.func 54) #[.agg (dsV M b)] #[]] w fun e w' => e = .returned (.int .i64 (nrI c n : Nat)) ∧ Below w.heap.size w w' := by
  have Hd := Lib.hid (fun i (hi : i < n) W hW => show Calls Tryz.prog 54 #[.agg (dsV M b), .agg (arrV .i16 64 (g i))] W fun e w' => e = .returned (.int .i64 (c i : Nat)) ∧ Below W.heap.size W w' by
    rw [hc i]; exact dustCount_any M b N n g F i hi (hs i hi) (D i) (hF i) W hW)
  have HR := Lib.hid hr; have HM := Lib.hid hm; clear hr hm hF hc hs
  go_enter Tryz.func53, Tryz.ntmps53
  go_wp2_with fail
  go_loopw [5, 10] (fun fv iv wr => ∃ k : Nat, k ≤ n ∧ iv = .int .i64 (k : Int) ∧ fv = .int .i64 (nrI c k : Nat) ∧ Below w.heap.size w wr) (fun _ iv _ => n - (intOf iv).toNat)
  case atStart => exact ⟨0, by omega, rfl, rfl, Below.refl _ _⟩
  case round =>
    obtain ⟨k, hk, rfl, rfl, hB⟩ := hrel
    by_cases hlt : k < n
    rotate_left
    · obtain rfl : k = n := by omega
      go_wp2_with fail
      go_ret
      exact ⟨rfl, hB⟩
    have hlt' : (k : Int) < n := by omega
    have hfl := nrI_lt c h1 k hk
    have hfl' : ((nrI c k : Nat) : Int) < n := by omega
    rcases HR.out.below hB (Nat.le_refl _) with h0 | ⟨b', o, rfl, hlb, hcc⟩
    · exfalso; omega
    have p0 := hcc k hlt
    have p1 := hcc (nrI c k) hfl
    have hres : Hid (if c k < c (nrI c k) then nrI c (k + 1) = k else nrI c (k + 1) = nrI c k) := Lib.hid (by
      by_cases h : c k < c (nrI c k)
      · rw [if_pos h]; exact nrI_yes h
      · rw [if_neg h]; exact nrI_no h)
    have z0 := HasArr.zero wr 29 (b := wr.heap.size) rfl
    have z1 := z0.setRow .i16 (g k)
    have kB := below_setRow ((Below.refl wr.heap.size wr).alloc (Nat.le_refl _) (.cells #[.int .i16 0, .int .i16 0, .int .i16 0, .int .i16 0, .int .i16 0, .int .i16 0, .int .i16 0, .int .i16 0, .int .i16 0, .int .i16 0, .int .i16 0, .int .i16 0, .int .i16 0, .int .i16 0, .int .i16 0, .int .i16 0, .int .i16 0, .int .i16 0, .int .i16 0, .int .i16 0, .int .i16 0, .int .i16 0, .int .i16 0, .int .i16 0, .int .i16 0, .int .i16 0, .int .i16 0, .int .i16 0, .int .i16 0, .int .i16 0, .int .i16 0, .int .i16 0, .int .i16 0, .int .i16 0, .int .i16 0, .int .i16 0, .int .i16 0, .int .i16 0, .int .i16 0, .int .i16 0, .int .i16 0, .int .i16 0, .int .i16 0, .int .i16 0, .int .i16 0, .int .i16 0, .int .i16 0, .int .i16 0, .int .i16 0, .int .i16 0, .int .i16 0, .int .i16 0, .int .i16 0, .int .i16 0, .int .i16 0, .int .i16 0, .int .i16 0, .int .i16 0, .int .i16 0, .int .i16 0, .int .i16 0, .int .i16 0, .int .i16 0, .int .i16 0] 29)) (b := wr.heap.size) (by omega) (arrV .i16 64 (g k))
    have P1 := Lib.hid (p1.below kB hlb)
    have hlb2 : b' < ((wr.alloc (.cells #[.int .i16 0, .int .i16 0, .int .i16 0, .int .i16 0, .int .i16 0, .int .i16 0, .int .i16 0, .int .i16 0, .int .i16 0, .int .i16 0, .int .i16 0, .int .i16 0, .int .i16 0, .int .i16 0, .int .i16 0, .int .i16 0, .int .i16 0, .int .i16 0, .int .i16 0, .int .i16 0, .int .i16 0, .int .i16 0, .int .i16 0, .int .i16 0, .int .i16 0, .int .i16 0, .int .i16 0, .int .i16 0, .int .i16 0, .int .i16 0, .int .i16 0, .int .i16 0, .int .i16 0, .int .i16 0, .int .i16 0, .int .i16 0, .int .i16 0, .int .i16 0, .int .i16 0, .int .i16 0, .int .i16 0, .int .i16 0, .int .i16 0, .int .i16 0, .int .i16 0, .int .i16 0, .int .i16 0, .int .i16 0, .int .i16 0, .int .i16 0, .int .i16 0, .int .i16 0, .int .i16 0, .int .i16 0, .int .i16 0, .int .i16 0, .int .i16 0, .int .i16 0, .int .i16 0, .int .i16 0, .int .i16 0, .int .i16 0, .int .i16 0, .int .i16 0] 29)).setRow wr.heap.size (arrV .i16 64 (g k))).heap.size := Nat.lt_of_lt_of_le hlb kB.size
    have B1 := Lib.hid (hB.trans (kB.mono hB.size))
    have M1 := Lib.hid (HM.out.below (hB.trans (kB.mono hB.size)) HM.out.lt)
    have hd1 := Lib.hid (fun W hW => Hd.out k hlt W hW)
    have hd2 := Lib.hid (fun W hW => Hd.out (nrI c k) hfl W hW)
    clear kB hB p1 hcc
    generalize hNR : nrI c k = NR at *
    go_wp2_with (first | (refine wpList_load_part p0 29 (.tmp 13) rfl rfl rfl Tryz.underlying29 sizePrint ?_) | (refine wpList_store_arr z0 29 (.tmp 7) (.tmp 14) rfl rfl rfl rfl sizePrint ?_))
    clear z0 p0
    generalize ((wr.alloc (.cells #[.int .i16 0, .int .i16 0, .int .i16 0, .int .i16 0, .int .i16 0, .int .i16 0, .int .i16 0, .int .i16 0, .int .i16 0, .int .i16 0, .int .i16 0, .int .i16 0, .int .i16 0, .int .i16 0, .int .i16 0, .int .i16 0, .int .i16 0, .int .i16 0, .int .i16 0, .int .i16 0, .int .i16 0, .int .i16 0, .int .i16 0, .int .i16 0, .int .i16 0, .int .i16 0, .int .i16 0, .int .i16 0, .int .i16 0, .int .i16 0, .int .i16 0, .int .i16 0, .int .i16 0, .int .i16 0, .int .i16 0, .int .i16 0, .int .i16 0, .int .i16 0, .int .i16 0, .int .i16 0, .int .i16 0, .int .i16 0, .int .i16 0, .int .i16 0, .int .i16 0, .int .i16 0, .int .i16 0, .int .i16 0, .int .i16 0, .int .i16 0, .int .i16 0, .int .i16 0, .int .i16 0, .int .i16 0, .int .i16 0, .int .i16 0, .int .i16 0, .int .i16 0, .int .i16 0, .int .i16 0, .int .i16 0, .int .i16 0, .int .i16 0, .int .i16 0] 29)).setRow wr.heap.size (arrV .i16 64 (g k))) = W6 at *
    obtain ⟨Z, hZ⟩ : ∃ Z, Z = wr.heap.size := ⟨_, rfl⟩
    rw [← hZ] at z1 ⊢
    clear hZ
    have Z1 := Lib.hid z1; clear z1
    have n0 := below_nonempty W6
    have hda := Lib.hid (fun (y : WIn (Below W6.heap.size W6)) => hd1.out y.w (M1.out.below y.ok M1.out.lt))
    have hdb := Lib.hid (fun (y : WIn (Below W6.heap.size W6)) => hd2.out y.w (M1.out.below y.ok M1.out.lt))
    refine wp_region_quietD (Below W6.heap.size W6) (by kernel_rfl) (by kernel_rfl) (below_drew1 _) ?_
    go_big_quiet_step (fail)
    refine wpQuiet_load_arr (fun W hW => by obtain ⟨y, rfl⟩ := hW; exact Z1.out.below y.ok Z1.out.lt) 29 (.tmp 7) rfl rfl rfl Tryz.underlying29 sizePrint ?_
    go_frame
    go_big_quiet_step ((go_at_call 54; exact inCall _ (hda.out _)))
    go_big_quiet_step (fail)
    go_big_quiet_step (fail)
    go_big_quiet_step (fail)
    go_big_quiet_step (fail)
    refine wpQuiet_load_part (fun W hW => by obtain ⟨y, rfl⟩ := hW; exact P1.out.below y.ok hlb2) 29 (.tmp 21) rfl rfl rfl Tryz.underlying29 sizePrint ?_
    go_frame
    go_big_quiet_step ((go_at_call 54; exact inCall _ (hdb.out _)))
    go_big_quiet_step (fail)
    refine wpQuiet_nil ?_
    rintro _ ⟨y, rfl⟩
    have k7 := Lib.hid (B1.out.trans (y.ok.mono B1.out.size))
    generalize y.w = v at *
    by_cases hcl : c k < c NR
    · have hr2 := hres.out
      rw [if_pos hcl] at hr2
      have HR2 := Lib.hid hr2; clear hr2
      have hcl' : ((c k : Nat) : Int) < (c NR : Nat) := by omega
      generalize c k = CK at *
      generalize c NR = CN at *
      go_wp2_with fail
      go_roundw
      case rel => exact ⟨k + 1, by omega, by go_num, by rw [HR2.out], k7.out⟩
      case measure => simp [intOf]; omega
    · have hr2 := hres.out
      rw [if_neg hcl] at hr2
      have HR2 := Lib.hid hr2; clear hr2
      have hcl' : ¬ ((c k : Nat) : Int) < (c NR : Nat) := by omega
      generalize c k = CK at *
      generalize c NR = CN at *
      go_wp2_with fail
      go_roundw
      case rel => exact ⟨k + 1, by omega, by go_num, by rw [HR2.out], k7.out⟩
      case measure => simp [intOf]; omega
end Go.Proofs.YtmibinfaafhgdaaGreatDoor

namespace Go.Proofs.YtmibinfaafhgdaaGreatDoor
open Go.RowKit

/-- Block q is a variable that holds an index and an amount. -/
def CcBox (W : World) (q : Nat) (a b : Int) : Prop := W.heap[q]? = some (.cells #[.int .i64 a, .int .i64 b] 67 (0, 0))
theorem CcBox.lt {W : World} {q : Nat} {a b : Int} (h : CcBox W q a b) : q < W.heap.size := (Array.getElem?_eq_some_iff.1 h).1
theorem CcBox.cell0 {W : World} {q : Nat} {a b : Int} (h : CcBox W q a b) : W.cell? ⟨q, 0, none⟩ = some (.int .i64 a) := by rw [cell_of_row W q 0 _ _ _ h]; rfl
theorem CcBox.cell1 {W : World} {q : Nat} {a b : Int} (h : CcBox W q a b) : W.cell? ⟨q, 1, none⟩ = some (.int .i64 b) := by rw [cell_of_row W q 1 _ _ _ h]; rfl
theorem CcBox.free {W : World} {q : Nat} {a b : Int} (h : CcBox W q a b) (k : Nat) : W.frozen? ⟨q, k, none⟩ = false := frozen_of_row W q k _ _ h
theorem CcBox.new (W : World) (a b : Int) : CcBox (W.alloc (.cells #[.int .i64 a, .int .i64 b] 67)) W.heap.size a b := heap_alloc_last W _
theorem CcBox.below {W W' : World} {B q : Nat} {a b : Int} (h : CcBox W q a b) (hb : Below B W W') (hB : q < B) : CcBox W' q a b := (hb.block q hB).trans h
theorem CcBox.set {W : World} {q : Nat} {a b : Int} (h : CcBox W q a b) (a' b' : Int) : CcBox ((W.setCell ⟨q, 0, none⟩ (.int .i64 a')).setCell ⟨q, 1, none⟩ (.int .i64 b')) q a' b' :=
  heap_setCell_same _ q 1 _ _ _ (heap_setCell_same _ q 0 _ _ _ h)
theorem wpQuiet_load_ds {ops : Array Oper} {C : World → Prop} {Q : Act → Prop} {a : Act} {o : Oper} {rest : List Oper} {q b : Nat} {m : Nat → Int}
    (h : ∀ W, C W → HasDs W q m b) (x : Operand) (hgd : o.guard = none) (ho : o.op = .load 90 x) (hx : a.eval x = .pointer (some ⟨q, 0, none⟩))
    (hK : wpQuiet Tryz.prog ops C Q rest (a.put o.dst (.agg (dsV m b)))) : wpQuiet Tryz.prog ops C Q (o :: rest) a :=
  BigFrame.wpQuiet_want (by simp [Region.wanted, hgd]) fun _ hK' => ⟨_, fun W hW => by
    have e := run_loadVar_row (P := Tryz.prog) W q _ 90 _ (0, 0) _ (h W hW) Tryz.underlying90 rfl (by rw [dsV_size]; exact sizeDs)
    have e2 : (execOp a.eval o).run Tryz.prog W = .ok (.value (.agg (dsV m b))) W := by simp [execOp, ho, hx, Instr.loadAt, Instr.sureAddr, e, Result.andThen]
    unfold Oper.quietAt; rw [e2]; exact ⟨rfl, rfl⟩, hK' _ hK⟩

set_option maxRecDepth 100000 in
set_option maxHeartbeats 4000000 in
theorem cleanestCopy_bad (s : Ers) (A : Option Addr) (n cap : Nat) (g : Nat → Nat → Int) (x : Int) (hn : n ≤ 1048576) (hc : copC n g x ≠ 0) (w : World) (hr : PrsIn w A n g) (hE : ErrEnv s w) :
    Calls Tryz.prog 32 #[.slice A n cap, .int .i64 x] w fun e w' => e = .returned (.tuple #[.agg #[.int .i64 0, .int .i64 0], copE s (copC n g x)]) ∧ Below w.heap.size w w' := by
  have k0 := (Below.refl w.heap.size w).alloc (Nat.le_refl _) (.cells #[.int .i64 0, .int .i64 0] 67)
  have b0 := CcBox.new w 0 0
  have hq := dustOf_bad s A n cap g x hn hc _ (hr.below k0 (Nat.le_refl _)) (hE.below k0 (Nat.le_refl _))
  obtain ⟨a, ha⟩ := copE_ne s hc
  rw [ha] at hq ⊢
  have Hq := Lib.hid hq; clear hq hc ha hr hE
  go_enter Tryz.func32, Tryz.ntmps32
  go_wp2_with fail
  refine Hq.out.mono ?_; rintro e w2 ⟨rfl, hb2⟩
  have k2 := k0.trans (hb2.mono k0.size)
  have b2 := b0.below hb2 b0.lt
  have a2 : (w2.alloc (.cells Tryz.zeroCells90 90)).heap[w2.heap.size]? = some (.cells Tryz.zeroCells90 90 (0, 0)) := heap_alloc_last w2 _
  have kk := below_setRow ((Below.refl w2.heap.size w2).alloc (Nat.le_refl _) (.cells Tryz.zeroCells90 90)) (b := w2.heap.size) (Nat.le_refl _) Tryz.zeroCells90
  have k3 := k2.trans (kk.mono k2.size)
  have b3 := b2.below kk b2.lt
  have c0 := b3.cell0
  have c1 := b3.cell1
  have f0 := b3.free 0
  have f1 := b3.free 1
  clear hb2 k2 b2 b0 k0 kk
  go_wp2_with (refine wpList_store_dz a2 dzSize rfl (.tmp 6) (.tmp 13) rfl rfl rfl ?_)
  have b4 := b3.set 0 0
  refine bodyPost_ret (v := .tuple #[.agg #[.int .i64 0, .int .i64 0], errV a]) (by simp [results, Tryz.results32, go_sem, b4.cell0, b4.cell1]) rfl ⟨rfl, (k3.setCell (by simp) _).setCell (by simp) _⟩

set_option maxRecDepth 100000 in
set_option maxHeartbeats 4000000 in
theorem cleanestCopy_ok (s : Ers) (A : Option Addr) (n cap : Nat) (g : Nat → Nat → Int) (x : Int) (hn : n ≤ 1048576) (hs : ∀ i, i < n → S16 (g i)) (hc : copC n g x = 0) (w : World) (hr : PrsIn w A n g) (hE : ErrEnv s w) :
    Calls Tryz.prog 32 #[.slice A n cap, .int .i64 x] w fun e w' => e = .returned (.tuple #[.agg #[.int .i64 (nrI (dC g n x) n : Nat), .int .i64 (dC g n x (nrI (dC g n x) n) : Nat)], .nilIface]) ∧ Below w.heap.size w w' := by
  have k0 := (Below.refl w.heap.size w).alloc (Nat.le_refl _) (.cells #[.int .i64 0, .int .i64 0] 67)
  have b0 := CcBox.new w 0 0
  have h8 := copC_pos hc
  have Hq := Lib.hid (dustOf_ok s A n cap g x hn hs hc _ (hr.below k0 (Nat.le_refl _)) (hE.below k0 (Nat.le_refl _)))
  have HRw := Lib.hid hr
  have Hnr := Lib.hid (fun M b N W h1 h2 => nearestPr_any A n cap M b N g (dF g n x) (dC g n x) (fun i => dusB (g i) (medF g n) x) (fun i => rfl) (fun i => rfl) h8.1 hn hs W h1 h2)
  have hfl := nrI_lt (dC g n x) h8.1 n (Nat.le_refl _)
  have Hdc := Lib.hid (fun M b N i (hi : i < n) W hW => show Calls Tryz.prog 54 #[.agg (dsV M b), .agg (arrV .i16 64 (g i))] W fun e w' => e = .returned (.int .i64 (dC g n x i : Nat)) ∧ Below W.heap.size W w' from dustCount_any M b N n g (dF g n x) i hi (hs i hi) (dusB (g i) (medF g n) x) rfl W hW)
  clear hc hr hE hs
  generalize dC g n x = c at *
  generalize dF g n x = F at *
  generalize medF g n = M at *
  generalize hNI : nrI c n = NI at *
  have hNIL := Lib.hid hNI; clear hNI
  have hfl' : (NI : Int) < n := by omega
  go_enter Tryz.func32, Tryz.ntmps32
  go_wp2_with fail
  refine Hq.out.mono ?_; rintro e w2 ⟨b, N, hN, rfl, hwb, hdm, hb2⟩
  have k2 := k0.trans (hb2.mono k0.size)
  have b2 := b0.below hb2 b0.lt
  have a2 : (w2.alloc (.cells Tryz.zeroCells90 90)).heap[w2.heap.size]? = some (.cells Tryz.zeroCells90 90 (0, 0)) := heap_alloc_last w2 _
  have kk := below_setRow ((Below.refl w2.heap.size w2).alloc (Nat.le_refl _) (.cells Tryz.zeroCells90 90)) (b := w2.heap.size) (Nat.le_refl _) (dsV M b)
  have k3 := k2.trans (kk.mono k2.size)
  have b3 := b2.below kk b2.lt
  have ds : HasDs ((w2.alloc (.cells Tryz.zeroCells90 90)).setRow w2.heap.size (dsV M b)) w2.heap.size M b := setRow_heap _ _ _ _ _ _ a2
  have dm := hdm.below kk hdm.lt
  clear hb2 k2 b2 b0 k0 kk hdm Hq
  go_wp2_with (first | (refine wpList_store_ds a2 dzSize rfl (.tmp 6) (.tmp 13) rfl rfl rfl ?_) | (refine wpList_load_ds ds rfl (.tmp 6) rfl rfl ?_))
  clear a2
  generalize ((w2.alloc (.cells Tryz.zeroCells90 90)).setRow w2.heap.size (dsV M b)) = W3 at *
  obtain ⟨Z, hZ⟩ : ∃ Z, Z = w2.heap.size := ⟨_, rfl⟩
  rw [← hZ] at ds ⊢
  clear hZ
  refine (Hnr.out M b N W3 (HRw.out.below k3 (Nat.le_refl _)) dm).mono ?_; rintro e w4 ⟨rfl, hb4⟩
  have k4 := k3.trans (hb4.mono k3.size)
  have ds4 := Lib.hid (ds.below hb4 ds.lt)
  have dm4 := Lib.hid (dm.below hb4 dm.lt)
  have b4 := b3.below hb4 b3.lt
  clear k3 b3 ds dm hb4
  go_wp2_with fail
  rcases HRw.out.below k4 (Nat.le_refl _) with h0 | ⟨b', o, rfl, hlb, hcc⟩
  · exfalso; omega
  have P0 := Lib.hid (hcc NI hfl); clear hcc
  have n0 := below_nonempty w4
  have hdc := Lib.hid (fun (y : WIn (Below w4.heap.size w4)) => Hdc.out M b N NI hfl y.w (dm4.out.below y.ok dm4.out.lt))
  refine wp_region_quiet_tail 8 (fun w' => ∃ x : WIn (Below w4.heap.size w4), w' = x.w) (by kernel_rfl) (by kernel_rfl) ⟨⟨_, below_drew1 _⟩, rfl⟩ ?_
  simp only [List.take_succ_cons, List.take_zero, List.drop_succ_cons, List.drop_zero]
  go_big_quiet_step (fail)
  refine wpQuiet_load_ds (fun W hW => by obtain ⟨y, rfl⟩ := hW; exact ds4.out.below y.ok ds4.out.lt) (.tmp 6) rfl rfl rfl ?_
  go_frame
  go_big_quiet_step (fail)
  go_big_quiet_step (fail)
  go_big_quiet_step (fail)
  refine wpQuiet_load_part (fun W hW => by obtain ⟨y, rfl⟩ := hW; exact P0.out.below y.ok hlb) 29 (.tmp 27) rfl rfl rfl Tryz.underlying29 sizePrint ?_
  go_frame
  go_big_quiet_step ((go_at_call 54; exact inCall _ (hdc.out _)))
  go_big_quiet_step (fail)
  refine wpQuiet_nil ?_
  rintro _ ⟨y, rfl⟩
  have b5 := b4.below y.ok b4.lt
  have k5 := k4.trans (y.ok.mono k4.size)
  have c0 := b5.cell0
  have c1 := b5.cell1
  have f0 := b5.free 0
  have f1 := b5.free 1
  have b6 := b5.set (NI : Int) (c NI : Nat)
  go_wp2_with fail
  refine bodyPost_ret (v := .tuple #[.agg #[.int .i64 (NI : Int), .int .i64 (c NI : Nat)], .nilIface]) (by simp [results, Tryz.results32, go_sem, b6.cell0, b6.cell1]) rfl ⟨rfl, (k5.setCell (by simp) _).setCell (by simp) _⟩

set_option maxRecDepth 100000 in
set_option maxHeartbeats 2000000 in
theorem CleanestCopy_ex (s : Ers) (A : Option Addr) (n cap : Nat) (x a b c : Int) (v : Value) (hv : IsCode s v c) (w : World) (hE : ErrEnv s w)
    (h : Calls Tryz.prog 32 #[.slice A n cap, .int .i64 x] w fun e w' => e = .returned (.tuple #[.agg #[.int .i64 a, .int .i64 b], v]) ∧ Below w.heap.size w w') :
    Calls Tryz.prog 11 #[.slice A n cap, .int .i64 x] w fun e w' => e = .returned (.tuple #[.int .i64 a, .int .i64 b, .int .i64 c]) ∧ Below w.heap.size w w' := by
  have H := Lib.hid h; clear h
  go_enter Tryz.func11, Tryz.ntmps11
  go_wp2_with fail
  refine H.out.mono ?_; rintro e w2 ⟨rfl, hb2⟩
  have q0 := CcBox.new w2 a b
  have k3 := hb2.alloc hb2.size (.cells #[.int .i64 a, .int .i64 b] 67)
  clear hb2 H
  go_wp2_with fail
  generalize w2.alloc (.cells #[.int .i64 a, .int .i64 b] 67) = W3 at *
  have HE := hE.below k3 (Nat.le_refl _)
  have cc0 := inCell q0.cell0
  have cc1 := inCell q0.cell1
  have hcd := Lib.hid (fun (x : WIn (Below W3.heap.size W3)) => codeOf_any hv x.w (HE.below x.ok (Nat.le_refl _)))
  refine wp_region_quietD (Below W3.heap.size W3) (by kernel_rfl) (by kernel_rfl) (below_drew1 _) ?_
  have n0 := below_nonempty W3
  repeat (go_big_quiet_step ((go_at_call 30; exact inCallS _ (hcd.out _))))
  refine wpQuiet_nil ?_
  rintro _ ⟨x, rfl⟩
  have k4 := k3.trans (x.ok.mono k3.size)
  go_wp2_with fail
  go_ret3
  exact ⟨rfl, k4⟩

theorem CleanestCopy_any (s : Ers) (A : Option Addr) (n cap : Nat) (g : Nat → Nat → Int) (x : Int) (hn : n ≤ 1048576) (hs : ∀ i, i < n → S16 (g i)) (w : World) (hr : PrsIn w A n g) (hE : ErrEnv s w) :
    Calls Tryz.prog 11 #[.slice A n cap, .int .i64 x] w fun e w' => e = .returned (.tuple (cleT n g x)) ∧ Below w.heap.size w w' := by
  unfold cleT
  by_cases hc : copC n g x = 0
  · rw [if_pos hc]
    exact CleanestCopy_ex s A n cap x _ _ 0 _ .ok w hE (cleanestCopy_ok s A n cap g x hn hs hc w hr hE)
  · rw [if_neg hc]
    exact CleanestCopy_ex s A n cap x 0 0 _ _ (copE_code s n g x) w hE (cleanestCopy_bad s A n cap g x hn hc w hr hE)
end Go.Proofs.YtmibinfaafhgdaaGreatDoor

/-
  The cleanest copy: what both sides' functions return. Condition of the program's: its variables hold their own errors.
-/
import Derived.Test.YtnohpkhaimmdmaaDoorDsI
import Derived.Test.YtnohpkhaimmdmaaDoorOnesI
import Derived.Test.YtnohpkhaimmdmaaDoorRndS
namespace Go.Proofs.YtnohpkhaimmdmaaDoor
open Go.RowKit

/-! ### PLAIN -/
/-- The first of those that have the least. -/
def nrI (c : Nat → Nat) : Nat → Nat
  | 0 => 0
  | k + 1 => if c k < c (nrI c k) then k else nrI c k
theorem nrI_yes {c : Nat → Nat} {k : Nat} (h : c k < c (nrI c k)) : nrI c (k + 1) = k := if_pos h
theorem nrI_no {c : Nat → Nat} {k : Nat} (h : ¬ c k < c (nrI c k)) : nrI c (k + 1) = nrI c k := if_neg h
theorem nrI_lt (c : Nat → Nat) {n : Nat} (hn : 1 ≤ n) : ∀ k, k ≤ n → nrI c k < n
  | 0, _ => by show 0 < n; omega
  | k + 1, hk => by
    have := nrI_lt c hn k (by omega)
    unfold nrI
    split <;> omega
theorem nrI_1 (c : Nat → Nat) : nrI c 1 = 0 := nrI_no (by show ¬ c 0 < c 0; omega)
/-- How many cells with dust copy i has. -/
def dC (g : Nat → Nat → Int) (n : Nat) (x : Int) (i : Nat) : Nat := cntB (dusB (g i) (medF g n) x) 64
/-- What the reference has behind k copies. -/
def lsS (c : Nat → Nat) : Nat → Int
  | 0 => -1
  | k + 1 => (c (nrI c (k + 1)) : Nat)
/-- What CleanestCopy returns. -/
def cleT (n : Nat) (g : Nat → Nat → Int) (x : Int) : Array Value := if copC n g x = 0 then #[.int .i64 (nrI (dC g n x) n : Nat), .int .i64 (dC g n x (nrI (dC g n x) n) : Nat), .int .i64 0] else #[.int .i64 0, .int .i64 0, .int .i64 (copC n g x)]

/-! ### THE REFERENCE -/
set_option maxRecDepth 100000 in
set_option maxHeartbeats 4000000 in
theorem specCleanestCopy_any (A : Option Addr) (n cap : Nat) (g : Nat → Nat → Int) (x : Int) (hn : n ≤ 1048576) (hs : ∀ i, i < n → S16 (g i)) (w : World) (hr : PrsIn w A n g) :
    Calls Tryd.prog 11 #[.slice A n cap, .int .i64 x] w fun e w' => e = .returned (.tuple (cleT n g x)) ∧ Below w.heap.size w w' := by
  have hq := l07Copies_any A n cap g x hn hs _ hr
  have HR := Lib.hid hr; clear hr
  unfold cleT
  by_cases hc : copC n g x = 0
  rotate_left
  · rw [if_neg hc]
    have Hq := Lib.hid hq; clear hq hs
    generalize copC n g x = C at *
    go_enter Tryd.func11, Tryd.ntmps11
    go_wp2_with fail
    refine Hq.out.mono ?_; rintro e w2 ⟨rfl, hb2⟩
    go_wp2_with fail
    go_ret3
    exact ⟨rfl, hb2⟩
  rw [if_pos hc]
  rw [hc] at hq
  have h8 := copC_pos hc
  have hms := medF_s h8.1 hs
  have Hm := Lib.hid (fun W h => l07Median_any A n cap g h8.1 h8.2 hs W h)
  have Hd := Lib.hid (fun j (hj : j < n) b o q W h1 h2 => l07Dust_any b o q 0 (g j) (medF g n) x (hs j hj) hms W h1 h2)
  have Hc := Lib.hid (fun (j : Nat) W => show Calls Tryd.prog 23 #[.int .u64 (bvI (dusB (g j) (medF g n) x))] W fun e w' => e = .returned (.int .i64 (dC g n x j : Nat)) ∧ W = w' from (l07Count_any (dusB (g j) (medF g n) x) W).mono fun e w' h => h)
  have hcb := Lib.hid (fun j => show dC g n x j ≤ 64 from cntB_le _ 64)
  have Hq := Lib.hid hq; clear hq hs hc hms
  generalize dC g n x = c at *
  generalize hMe : medF g n = M at *
  clear hMe
  go_enter Tryd.func11, Tryd.ntmps11
  go_wp2_with fail
  refine Hq.out.mono ?_; rintro e w2 ⟨rfl, hb2⟩
  have HR2 := Lib.hid (HR.out.below hb2 (Nat.le_refl _))
  go_wp2_with fail
  refine (Hm.out _ HR2.out).mono ?_; rintro e w3 ⟨rfl, hb3⟩
  have k3 := hb2.trans (hb3.mono hb2.size)
  clear HR2 hb3 hb2 Hq
  have z0 := HasArr.zero w3 36 (b := w3.heap.size) rfl
  have z1 := z0.setRow .i16 M
  have k4 := below_setRow (k3.alloc k3.size (.cells #[.int .i16 0, .int .i16 0, .int .i16 0, .int .i16 0, .int .i16 0, .int .i16 0, .int .i16 0, .int .i16 0, .int .i16 0, .int .i16 0, .int .i16 0, .int .i16 0, .int .i16 0, .int .i16 0, .int .i16 0, .int .i16 0, .int .i16 0, .int .i16 0, .int .i16 0, .int .i16 0, .int .i16 0, .int .i16 0, .int .i16 0, .int .i16 0, .int .i16 0, .int .i16 0, .int .i16 0, .int .i16 0, .int .i16 0, .int .i16 0, .int .i16 0, .int .i16 0, .int .i16 0, .int .i16 0, .int .i16 0, .int .i16 0, .int .i16 0, .int .i16 0, .int .i16 0, .int .i16 0, .int .i16 0, .int .i16 0, .int .i16 0, .int .i16 0, .int .i16 0, .int .i16 0, .int .i16 0, .int .i16 0, .int .i16 0, .int .i16 0, .int .i16 0, .int .i16 0, .int .i16 0, .int .i16 0, .int .i16 0, .int .i16 0, .int .i16 0, .int .i16 0, .int .i16 0, .int .i16 0, .int .i16 0, .int .i16 0, .int .i16 0, .int .i16 0] 36)) (b := w3.heap.size) k3.size (arrV .i16 64 M)
  go_wp2_with (refine wpList_store_arr z0 36 (.tmp 8) (.tmp 20) rfl rfl rfl rfl sizePrint ?_)
  clear z0
  generalize ((w3.alloc (.cells #[.int .i16 0, .int .i16 0, .int .i16 0, .int .i16 0, .int .i16 0, .int .i16 0, .int .i16 0, .int .i16 0, .int .i16 0, .int .i16 0, .int .i16 0, .int .i16 0, .int .i16 0, .int .i16 0, .int .i16 0, .int .i16 0, .int .i16 0, .int .i16 0, .int .i16 0, .int .i16 0, .int .i16 0, .int .i16 0, .int .i16 0, .int .i16 0, .int .i16 0, .int .i16 0, .int .i16 0, .int .i16 0, .int .i16 0, .int .i16 0, .int .i16 0, .int .i16 0, .int .i16 0, .int .i16 0, .int .i16 0, .int .i16 0, .int .i16 0, .int .i16 0, .int .i16 0, .int .i16 0, .int .i16 0, .int .i16 0, .int .i16 0, .int .i16 0, .int .i16 0, .int .i16 0, .int .i16 0, .int .i16 0, .int .i16 0, .int .i16 0, .int .i16 0, .int .i16 0, .int .i16 0, .int .i16 0, .int .i16 0, .int .i16 0, .int .i16 0, .int .i16 0, .int .i16 0, .int .i16 0, .int .i16 0, .int .i16 0, .int .i16 0, .int .i16 0] 36)).setRow w3.heap.size (arrV .i16 64 M)) = W4 at *
  obtain ⟨B, hB⟩ : ∃ B, B = w3.heap.size := ⟨_, rfl⟩
  rw [← hB] at z1 ⊢
  clear hB k3
  go_loopw [9, 10, 11] (fun bv lv iv wr => ∃ k : Nat, k ≤ n ∧ iv = .int .i64 (k : Int) ∧ bv = .int .i64 (nrI c k : Nat) ∧ lv = .int .i64 (lsS c k) ∧ HasArr wr B 36 .i16 64 M ∧ Below w.heap.size w wr) (fun _ _ iv _ => n - (intOf iv).toNat)
  case atStart => exact ⟨0, by omega, rfl, rfl, rfl, z1, k4⟩
  case round =>
    clear z1 k4
    obtain ⟨k, hk, rfl, rfl, rfl, hz, hB⟩ := hrel
    by_cases hlt : k < n
    rotate_left
    · obtain rfl : k = n := by omega
      have e1 : lsS c k = (c (nrI c k) : Nat) := by
        cases k with
        | zero => omega
        | succ k => rfl
      rw [e1]
      go_wp2_with fail
      go_ret3
      exact ⟨rfl, hB⟩
    have hlt' : (k : Int) < n := by omega
    rcases HR.out.below hB (Nat.le_refl _) with h0 | ⟨b, o, rfl, hlb, hcc⟩
    · exfalso; omega
    have hd := Lib.hid (Hd.out k hlt b (o + k * 64) B wr (hcc k hlt) (PartA.of_arr hz))
    have hcn := Lib.hid (fun W => Hc.out k W)
    have hbk := hcb.out k
    have HZ := Lib.hid hz; have HBB := Lib.hid hB; clear hz hB hcc
    have hres : Hid (if c k < c (nrI c k) then nrI c (k + 1) = k else nrI c (k + 1) = nrI c k) := Lib.hid (by
      by_cases h : c k < c (nrI c k)
      · rw [if_pos h]; exact nrI_yes h
      · rw [if_neg h]; exact nrI_no h)
    by_cases hk0 : k = 0
    · subst hk0
      have e1 : nrI c 1 = 0 := nrI_1 c
      have e2 : Hid (lsS c 1 = (c 0 : Nat)) := Lib.hid (by show ((c (nrI c 1) : Nat) : Int) = _; rw [e1])
      have E1 := Lib.hid e1; clear e1
      have e3 : lsS c 0 = -1 := rfl
      have e4 : nrI c 0 = 0 := rfl
      rw [e3, e4]
      generalize c 0 = C0 at *
      go_wp2_with fail
      refine hd.out.mono ?_; rintro e w5 ⟨rfl, hb5⟩
      have z5 := Lib.hid (HZ.out.below hb5 HZ.out.lt)
      have k5 := Lib.hid (HBB.out.trans (hb5.mono HBB.out.size))
      clear hb5
      go_wp2_with (go_at_call 23; refine (hcn.out _).mono ?_; rintro e w' ⟨rfl, rfl⟩)
      go_roundw
      case rel => exact ⟨1, by omega, by go_num, by rw [E1.out]; rfl, by rw [e2.out], z5.out, k5.out⟩
      case measure => simp [intOf]; omega
    · have e1 : lsS c k = (c (nrI c k) : Nat) := by
        cases k with
        | zero => omega
        | succ k => rfl
      have e2 : Hid (lsS c (k + 1) = (c (nrI c (k + 1)) : Nat)) := Lib.hid rfl
      rw [e1]
      by_cases hcl : c k < c (nrI c k)
      · have hr2 := hres.out
        rw [if_pos hcl] at hr2
        have HR2 := Lib.hid hr2; clear hr2
        have hcl' : ((c k : Nat) : Int) < (c (nrI c k) : Nat) := by omega
        have hckk : Hid (lsS c (k + 1) = (c k : Nat)) := Lib.hid (by rw [e2.out, HR2.out])
        generalize c (nrI c k) = CN at *
        generalize c k = CK at *
        go_wp2_with fail
        refine hd.out.mono ?_; rintro e w5 ⟨rfl, hb5⟩
        have z5 := Lib.hid (HZ.out.below hb5 HZ.out.lt)
        have k5 := Lib.hid (HBB.out.trans (hb5.mono HBB.out.size))
        clear hb5
        go_wp2_with (go_at_call 23; refine (hcn.out _).mono ?_; rintro e w' ⟨rfl, rfl⟩)
        go_roundw
        case rel => exact ⟨k + 1, by omega, by go_num, by rw [HR2.out], by rw [hckk.out], z5.out, k5.out⟩
        case measure => simp [intOf]; omega
      · have hr2 := hres.out
        rw [if_neg hcl] at hr2
        have HR2 := Lib.hid hr2; clear hr2
        have hcl' : ¬ ((c k : Nat) : Int) < (c (nrI c k) : Nat) := by omega
        have hckk : Hid (lsS c (k + 1) = (c (nrI c k) : Nat)) := Lib.hid (by rw [e2.out, HR2.out])
        generalize hnr : nrI c k = NR at *
        generalize c NR = CN at *
        generalize c k = CK at *
        go_wp2_with fail
        refine hd.out.mono ?_; rintro e w5 ⟨rfl, hb5⟩
        have z5 := Lib.hid (HZ.out.below hb5 HZ.out.lt)
        have k5 := Lib.hid (HBB.out.trans (hb5.mono HBB.out.size))
        clear hb5
        go_wp2_with (go_at_call 23; refine (hcn.out _).mono ?_; rintro e w' ⟨rfl, rfl⟩)
        go_roundw
        case rel => exact ⟨k + 1, by omega, by go_num, by rw [HR2.out], by rw [hckk.out], z5.out, k5.out⟩
        case measure => simp [intOf]; omega
end Go.Proofs.YtnohpkhaimmdmaaDoor

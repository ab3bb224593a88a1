/-
  The cleanest copy in the program. Condition: its variables hold their own errors; at most 1048576 copies of 16-bit numbers.
-/
import Derived.Test.YtnohpkhaimmdmaaDoorCln
namespace Go.Proofs.YtnohpkhaimmdmaaDoor
open Go.RowKit

set_option maxRecDepth 100000 in
set_option maxHeartbeats 2000000 in
theorem dustCount_any (M : Nat → Int) (b N k : Nat) (g : Nat → Nat → Int) (F : Nat → Int) (i : Nat) (hi : i < k) (hs : S16 (g i)) (D : BitVec 64) (hF : F i = bvI D) (w : World) (hm : DMap w b N g F k) :
    Calls Tryd.prog 33 #[.agg (dsV M b), .agg (arrV .i16 64 (g i))] w fun e w' => e = .returned (.int .i64 (cntB D 64 : Nat)) ∧ Below w.heap.size w w' := by
  have a0 : HasDs (w.alloc (.cells (dsV M b) 67)) w.heap.size M b := heap_alloc_last w _
  have kk := ((Below.refl w.heap.size w).alloc (Nat.le_refl _) (.cells (dsV M b) 67)).alloc (by simp) (.cells (arrV .i16 64 (g i)) 36)
  have a1 : HasDs ((w.alloc (.cells (dsV M b) 67)).alloc (.cells (arrV .i16 64 (g i)) 36)) w.heap.size M b := (Below.heap_alloc _ _ _ (by simp)).trans a0
  have a2 : HasArr ((w.alloc (.cells (dsV M b) 67)).alloc (.cells (arrV .i16 64 (g i)) 36)) (w.heap.size + 1) 36 .i16 64 (g i) := by
    have h := HasArr.new (w.alloc (.cells (dsV M b) 67)) 36 .i16 64 (g i)
    simpa using h
  have dm := hm.below kk hm.lt
  have cm := a1.map
  have Hc := Lib.hid (fun W => count_any D W)
  have hFF := Lib.hid hF
  clear a0 hm hF
  go_enter Tryd.func33, Tryd.ntmps33
  go_wp2_with (first
    | (refine wpList_load_arr a2 36 (.tmp 3) rfl rfl rfl Tryd.underlying36 sizePrint ?_)
    | (refine wpList_lookup_dm dm hi hs rfl (.tmp 6) (.tmp 7) rfl rfl rfl ?_; rw [hFF.out])
    | (go_at_call 41; refine (Hc.out _).mono ?_; rintro e w' ⟨rfl, rfl⟩))
  go_ret
  exact ⟨rfl, kk⟩

set_option maxRecDepth 100000 in
set_option maxHeartbeats 4000000 in
theorem nearestPr_any (A : Option Addr) (n cap : Nat) (M : Nat → Int) (b N : Nat) (g : Nat → Nat → Int) (F : Nat → Int) (c : Nat → Nat) (D : Nat → BitVec 64) (hF : ∀ i, F i = bvI (D i)) (hc : ∀ i, c i = cntB (D i) 64) (h1 : 1 ≤ n) (hn : n ≤ 1048576) (hs : ∀ i, i < n → S16 (g i)) (w : World) (hr : PrsIn w A n g) (hm : DMap w b N g F n) :
    Calls Tryd.prog 32 #[.slice A n cap, .func (.func 33) #[.agg (dsV M b)] #[]] w fun e w' => e = .returned (.int .i64 (nrI c n : Nat)) ∧ Below w.heap.size w w' := by
  have Hd := Lib.hid (fun i (hi : i < n) W hW => show Calls Tryd.prog 33 #[.agg (dsV M b), .agg (arrV .i16 64 (g i))] W fun e w' => e = .returned (.int .i64 (c i : Nat)) ∧ Below W.heap.size W w' by
    rw [hc i]; exact dustCount_any M b N n g F i hi (hs i hi) (D i) (hF i) W hW)
  have HR := Lib.hid hr; have HM := Lib.hid hm; clear hr hm hF hc hs
  go_enter Tryd.func32, Tryd.ntmps32
  go_wp2_with fail
  go_loopw [5, 10] (fun fv iv wr => ∃ k : Nat, k ≤ n ∧ iv = .int .i64 (k : Int) ∧ fv = .int .i64 (nrI c k : Nat) ∧ Below w.heap.size w wr) (fun _ iv _ => n - (intOf iv).toNat)
  case atStart => exact ⟨0, by omega, rfl, rfl, Below.refl _ _⟩
  case round =>
    obtain ⟨k, hk, rfl, rfl, hB⟩ := hrel
    by_cases hlt : k < n
    rotate_left
    · obtain rfl : k = n := by omega
      go_wp2_with fail
      go_ret
      exact ⟨rfl, hB⟩
    have hlt' : (k : Int) < n := by omega
    have hfl := nrI_lt c h1 k hk
    have hfl' : ((nrI c k : Nat) : Int) < n := by omega
    rcases HR.out.below hB (Nat.le_refl _) with h0 | ⟨b', o, rfl, hlb, hcc⟩
    · exfalso; omega
    have p0 := hcc k hlt
    have p1 := hcc (nrI c k) hfl
    have hres : Hid (if c k < c (nrI c k) then nrI c (k + 1) = k else nrI c (k + 1) = nrI c k) := Lib.hid (by
      by_cases h : c k < c (nrI c k)
      · rw [if_pos h]; exact nrI_yes h
      · rw [if_neg h]; exact nrI_no h)
    have z0 := HasArr.zero wr 36 (b := wr.heap.size) rfl
    have z1 := z0.setRow .i16 (g k)
    have kB := below_setRow ((Below.refl wr.heap.size wr).alloc (Nat.le_refl _) (.cells #[.int .i16 0, .int .i16 0, .int .i16 0, .int .i16 0, .int .i16 0, .int .i16 0, .int .i16 0, .int .i16 0, .int .i16 0, .int .i16 0, .int .i16 0, .int .i16 0, .int .i16 0, .int .i16 0, .int .i16 0, .int .i16 0, .int .i16 0, .int .i16 0, .int .i16 0, .int .i16 0, .int .i16 0, .int .i16 0, .int .i16 0, .int .i16 0, .int .i16 0, .int .i16 0, .int .i16 0, .int .i16 0, .int .i16 0, .int .i16 0, .int .i16 0, .int .i16 0, .int .i16 0, .int .i16 0, .int .i16 0, .int .i16 0, .int .i16 0, .int .i16 0, .int .i16 0, .int .i16 0, .int .i16 0, .int .i16 0, .int .i16 0, .int .i16 0, .int .i16 0, .int .i16 0, .int .i16 0, .int .i16 0, .int .i16 0, .int .i16 0, .int .i16 0, .int .i16 0, .int .i16 0, .int .i16 0, .int .i16 0, .int .i16 0, .int .i16 0, .int .i16 0, .int .i16 0, .int .i16 0, .int .i16 0, .int .i16 0, .int .i16 0, .int .i16 0] 36)) (b := wr.heap.size) (by omega) (arrV .i16 64 (g k))
    have P1 := Lib.hid (p1.below kB hlb)
    have hlb2 : b' < ((wr.alloc (.cells #[.int .i16 0, .int .i16 0, .int .i16 0, .int .i16 0, .int .i16 0, .int .i16 0, .int .i16 0, .int .i16 0, .int .i16 0, .int .i16 0, .int .i16 0, .int .i16 0, .int .i16 0, .int .i16 0, .int .i16 0, .int .i16 0, .int .i16 0, .int .i16 0, .int .i16 0, .int .i16 0, .int .i16 0, .int .i16 0, .int .i16 0, .int .i16 0, .int .i16 0, .int .i16 0, .int .i16 0, .int .i16 0, .int .i16 0, .int .i16 0, .int .i16 0, .int .i16 0, .int .i16 0, .int .i16 0, .int .i16 0, .int .i16 0, .int .i16 0, .int .i16 0, .int .i16 0, .int .i16 0, .int .i16 0, .int .i16 0, .int .i16 0, .int .i16 0, .int .i16 0, .int .i16 0, .int .i16 0, .int .i16 0, .int .i16 0, .int .i16 0, .int .i16 0, .int .i16 0, .int .i16 0, .int .i16 0, .int .i16 0, .int .i16 0, .int .i16 0, .int .i16 0, .int .i16 0, .int .i16 0, .int .i16 0, .int .i16 0, .int .i16 0, .int .i16 0] 36)).setRow wr.heap.size (arrV .i16 64 (g k))).heap.size := Nat.lt_of_lt_of_le hlb kB.size
    have B1 := Lib.hid (hB.trans (kB.mono hB.size))
    have M1 := Lib.hid (HM.out.below (hB.trans (kB.mono hB.size)) HM.out.lt)
    have hd1 := Lib.hid (fun W hW => Hd.out k hlt W hW)
    have hd2 := Lib.hid (fun W hW => Hd.out (nrI c k) hfl W hW)
    clear kB hB p1 hcc
    generalize hNR : nrI c k = NR at *
    go_wp2_with (first | (refine wpList_load_part p0 36 (.tmp 13) rfl rfl rfl Tryd.underlying36 sizePrint ?_) | (refine wpList_store_arr z0 36 (.tmp 7) (.tmp 14) rfl rfl rfl rfl sizePrint ?_))
    clear z0 p0
    generalize ((wr.alloc (.cells #[.int .i16 0, .int .i16 0, .int .i16 0, .int .i16 0, .int .i16 0, .int .i16 0, .int .i16 0, .int .i16 0, .int .i16 0, .int .i16 0, .int .i16 0, .int .i16 0, .int .i16 0, .int .i16 0, .int .i16 0, .int .i16 0, .int .i16 0, .int .i16 0, .int .i16 0, .int .i16 0, .int .i16 0, .int .i16 0, .int .i16 0, .int .i16 0, .int .i16 0, .int .i16 0, .int .i16 0, .int .i16 0, .int .i16 0, .int .i16 0, .int .i16 0, .int .i16 0, .int .i16 0, .int .i16 0, .int .i16 0, .int .i16 0, .int .i16 0, .int .i16 0, .int .i16 0, .int .i16 0, .int .i16 0, .int .i16 0, .int .i16 0, .int .i16 0, .int .i16 0, .int .i16 0, .int .i16 0, .int .i16 0, .int .i16 0, .int .i16 0, .int .i16 0, .int .i16 0, .int .i16 0, .int .i16 0, .int .i16 0, .int .i16 0, .int .i16 0, .int .i16 0, .int .i16 0, .int .i16 0, .int .i16 0, .int .i16 0, .int .i16 0, .int .i16 0] 36)).setRow wr.heap.size (arrV .i16 64 (g k))) = W6 at *
    obtain ⟨Z, hZ⟩ : ∃ Z, Z = wr.heap.size := ⟨_, rfl⟩
    rw [← hZ] at z1 ⊢
    clear hZ
    have Z1 := Lib.hid z1; clear z1
    have n0 := below_nonempty W6
    have hda := Lib.hid (fun (y : WIn (Below W6.heap.size W6)) => hd1.out y.w (M1.out.below y.ok M1.out.lt))
    have hdb := Lib.hid (fun (y : WIn (Below W6.heap.size W6)) => hd2.out y.w (M1.out.below y.ok M1.out.lt))
    refine wp_region_quietD (Below W6.heap.size W6) (by kernel_rfl) (by kernel_rfl) (below_drew1 _) ?_
    go_big_quiet_step (fail)
    refine wpQuiet_load_arr (fun W hW => by obtain ⟨y, rfl⟩ := hW; exact Z1.out.below y.ok Z1.out.lt) 36 (.tmp 7) rfl rfl rfl Tryd.underlying36 sizePrint ?_
    go_frame
    go_big_quiet_step ((go_at_call 33; exact inCall _ (hda.out _)))
    go_big_quiet_step (fail)
    go_big_quiet_step (fail)
    go_big_quiet_step (fail)
    go_big_quiet_step (fail)
    refine wpQuiet_load_part (fun W hW => by obtain ⟨y, rfl⟩ := hW; exact P1.out.below y.ok hlb2) 36 (.tmp 21) rfl rfl rfl Tryd.underlying36 sizePrint ?_
    go_frame
    go_big_quiet_step ((go_at_call 33; exact inCall _ (hdb.out _)))
    go_big_quiet_step (fail)
    refine wpQuiet_nil ?_
    rintro _ ⟨y, rfl⟩
    have k7 := Lib.hid (B1.out.trans (y.ok.mono B1.out.size))
    generalize y.w = v at *
    by_cases hcl : c k < c NR
    · have hr2 := hres.out
      rw [if_pos hcl] at hr2
      have HR2 := Lib.hid hr2; clear hr2
      have hcl' : ((c k : Nat) : Int) < (c NR : Nat) := by omega
      generalize c k = CK at *
      generalize c NR = CN at *
      go_wp2_with fail
      go_roundw
      case rel => exact ⟨k + 1, by omega, by go_num, by rw [HR2.out], k7.out⟩
      case measure => simp [intOf]; omega
    · have hr2 := hres.out
      rw [if_neg hcl] at hr2
      have HR2 := Lib.hid hr2; clear hr2
      have hcl' : ¬ ((c k : Nat) : Int) < (c NR : Nat) := by omega
      generalize c k = CK at *
      generalize c NR = CN at *
      go_wp2_with fail
      go_roundw
      case rel => exact ⟨k + 1, by omega, by go_num, by rw [HR2.out], k7.out⟩
      case measure => simp [intOf]; omega
end Go.Proofs.YtnohpkhaimmdmaaDoor

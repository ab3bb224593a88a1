/-
  What the law FnDust calls beside the program: two lists of numbers that are the same, a list that has a number, how many cells a mask has; copies that are drawn. No condition of ours but their sizes.
-/
import Derived.Test.YtmibinfaafhgdaaGreatDoorDuF
import Derived.Test.YtmibinfaafhgdaaGreatDoorSrcX
namespace Go.Proofs.YtmibinfaafhgdaaGreatDoor
open Go.RowKit

theorem below_drewU {B : Nat} {w w' : World} (h : Below B w w') (n : Nat) : Below B w (w'.drewN n) := ⟨h.os, h.tape, h.output, h.size, h.block⟩
set_option maxRecDepth 100000 in
set_option maxHeartbeats 1000000 in
theorem l00Same_any (A A' : Option Addr) (n c c' : Nat) (xs : Nat → Int) (hn : n ≤ 1048576) (w : World) (h1 : IntsIn w A n xs) (h2 : IntsIn w A' n xs) :
    Calls Tryz.prog 37 #[.slice A n c, .slice A' n c'] w fun e w' => e = .returned (.bool true) ∧ Below w.heap.size w w' := by
  go_enter Tryz.func37, Tryz.ntmps37
  go_wp2_with fail
  go_loopw [5] (fun kv wr => ∃ k : Nat, k ≤ n ∧ kv = .int .i64 (k : Int) ∧ Below w.heap.size w wr) (fun kv _ => n - (intOf kv).toNat)
  case atStart => exact ⟨0, by omega, rfl, Below.refl _ _⟩
  case round =>
    obtain ⟨k, hk, rfl, hB⟩ := hrel
    by_cases hkn : k < n
    · rcases h1.below hB (Nat.le_refl _) with h0 | ⟨g, o, rfl, hg, hc⟩
      · exfalso; omega
      rcases h2.below hB (Nat.le_refl _) with h0 | ⟨g', o', rfl, hg', hc'⟩
      · exfalso; omega
      have c1 := hc k hkn
      have c2 := hc' k hkn
      have hkn' : (k : Int) < n := by omega
      have HB := Lib.hid hB
      clear hc hc' h1 h2 hB
      generalize xs k = x at *
      go_wp2_with fail
      go_quiet (fail)
      go_wp2_with fail
      go_roundw
      case rel => exact ⟨k + 1, by omega, by go_num, below_drewU HB.out _⟩
      case measure => simp [intOf]; omega
    · obtain rfl : k = n := by omega
      clear h1 h2
      go_wp2_with fail
      go_ret
      exact ⟨rfl, hB⟩
theorem SameNumbers_any (A A' : Option Addr) (n c c' : Nat) (xs : Nat → Int) (hn : n ≤ 1048576) (w : World) (h1 : IntsIn w A n xs) (h2 : IntsIn w A' n xs) :
    Calls Tryz.prog 15 #[.slice A n c, .slice A' n c'] w fun e w' => e = .returned (.bool true) ∧ Below w.heap.size w w' := by
  have H := Lib.hid (l00Same_any A A' n c c' xs hn w h1 h2)
  clear h1 h2
  go_enter Tryz.func15, Tryz.ntmps15
  go_wp2_with fail
  refine H.out.mono ?_; rintro e w1 ⟨rfl, hb⟩
  go_wp2_with fail
  go_ret
  exact ⟨rfl, hb⟩
set_option maxRecDepth 100000 in
set_option maxHeartbeats 1000000 in
theorem l00Has_any (A : Option Addr) (cap : Nat) (l : List Int) (x : Int) (hn : l.length ≤ 1048576) (w : World) (h1 : IntsIn w A l.length (fun j => l.getD j 0)) :
    Calls Tryz.prog 41 #[.slice A l.length cap, .int .i64 x] w fun e w' => e = .returned (.bool (decide (x ∈ l))) ∧ w = w' := by
  have Hx := Lib.hid (show (x ∈ l) ↔ ∃ j, j < l.length ∧ l.getD j 0 = x from ⟨fun hx => by
      obtain ⟨j, hj, e⟩ := List.getElem_of_mem hx
      exact ⟨j, hj, by rw [List.getD_eq_getElem?_getD, List.getElem?_eq_getElem hj]; exact e⟩, fun ⟨j, hj, e⟩ => by
      rw [List.getD_eq_getElem?_getD, List.getElem?_eq_getElem hj] at e
      have e : l[j] = x := e
      rw [← e]; exact List.getElem_mem hj⟩)
  obtain ⟨R, hR⟩ : ∃ R, R = decide (x ∈ l) := ⟨_, rfl⟩
  rw [← hR]
  have HR := Lib.hid hR; clear hR
  obtain ⟨n, hln⟩ : ∃ n, n = l.length := ⟨_, rfl⟩
  rw [← hln] at h1 hn Hx ⊢
  clear hln
  go_enter Tryz.func41, Tryz.ntmps41
  go_wp2_with fail
  go_loopw [5] (fun i wr => ∃ k : Nat, k ≤ n ∧ i = .int .i64 (k : Int) ∧ (∀ j, j < k → l.getD j 0 ≠ x) ∧ wr = w) (fun i _ => n - (intOf i).toNat)
  case atStart => exact ⟨0, Nat.zero_le _, rfl, fun j hj => by omega, rfl⟩
  case round =>
    obtain ⟨k, hk, rfl, hno, rfl⟩ := hrel
    have Hno := Lib.hid hno; clear hno
    by_cases hkn : k < n
    · rcases h1 with h0 | ⟨g, o, rfl, hg, hc⟩
      · exfalso; omega
      have c1 := hc k hkn
      have hkn' : (k : Int) < n := by omega
      clear hc
      simp only at c1
      generalize hy : l.getD k 0 = y at c1
      have Hy := Lib.hid hy; clear hy
      by_cases hq : y = x
      · have HRt := Lib.hid (show R = true by rw [HR.out]; exact decide_eq_true (Hx.out.2 ⟨k, hkn, Hy.out.trans hq⟩))
        have hqb : (y == x) = true := by simpa using hq
        clear hq
        go_wp2_with fail
        go_ret
        exact ⟨by rw [HRt.out]; rfl, rfl⟩
      · have hqb : (y == x) = false := by simpa using hq
        have Hq := Lib.hid hq; clear hq
        go_wp2_with fail
        go_roundw
        case rel => exact ⟨k + 1, by omega, by go_num, fun j hj => by
          by_cases e : j = k
          · subst e; rw [Hy.out]; exact Hq.out
          · exact Hno.out j (by omega), trivial⟩
        case measure => simp [intOf]; omega
    · obtain rfl : k = n := by omega
      have HRf := Lib.hid (show R = false by rw [HR.out]; exact decide_eq_false (fun h => (Hx.out.1 h).elim fun j hj => Hno.out j hj.1 hj.2))
      clear h1
      go_wp2_with fail
      go_ret
      exact ⟨by rw [HRf.out]; rfl, rfl⟩
theorem HasNumber_any (A : Option Addr) (cap : Nat) (l : List Int) (x : Int) (hn : l.length ≤ 1048576) (w : World) (h1 : IntsIn w A l.length (fun j => l.getD j 0)) :
    Calls Tryz.prog 19 #[.slice A l.length cap, .int .i64 x] w fun e w' => e = .returned (.bool (decide (x ∈ l))) ∧ w = w' := by
  have H := Lib.hid (l00Has_any A cap l x hn w h1)
  clear h1
  generalize decide (x ∈ l) = R at *
  generalize l.length = n at *
  go_enter Tryz.func19, Tryz.ntmps19
  go_wp2_with fail
  refine H.out.mono ?_; rintro e w1 ⟨rfl, rfl⟩
  go_wp2_with fail
  go_ret
  exact ⟨rfl, rfl⟩
theorem CellsInD_any (M : BitVec 64) (w : World) :
    Calls Tryz.prog 18 #[.int .u64 (bvI M)] w fun e w' => e = .returned (.int .i64 ((cntB M 64 : Nat) : Int)) ∧ w = w' := by
  have Hc := Lib.hid (l07Count_any M w)
  go_enter Tryz.func18, Tryz.ntmps18
  go_wp2_with fail
  refine Hc.out.mono ?_; rintro e w1 ⟨rfl, rfl⟩
  go_wp2_with fail
  go_ret
  exact ⟨rfl, rfl⟩
theorem cop_ofD {w w' : World} {e : Ending} (h : CopiesOut w e w') : ∃ q k c G, e = .returned (.slice (some ⟨q, 0, none⟩) k c) ∧ (1 ≤ k ∧ k ≤ 5) ∧ (∀ i, i < k → Dn 64 (G i)) ∧ PrsIn w' (some ⟨q, 0, none⟩) k G ∧ Below w.heap.size w w' := by
  obtain ⟨q, k, c, he, h1, h5, _, ⟨hl, f, hd, hc⟩, hb⟩ := h
  refine ⟨q, k, c, fun i j => f (i * 64 + j), he, ⟨h1, h5⟩, fun i hi j hj => hd _ (by omega), .inr ⟨q, 0, rfl, ?_, fun i hi j hj => ?_⟩, hb⟩
  · exact World.block_lt_of_cell? _ _ (hc 0 (by omega))
  · rw [Nat.zero_add]; exact hc _ (by omega)
end Go.Proofs.YtmibinfaafhgdaaGreatDoor

namespace Go.Proofs.YtmibinfaafhgdaaGreatDoor
open Go.RowKit

theorem bcF_s {n : Nat} {g : Nat → Nat → Int} {x : Int} (hc : copC n g x = 0) : S16 (bcF g n x) := fun k hk => by
  rw [bcF_ok hc]
  have h := inB_true.1 (bs_near hc k hk n (Nat.le_refl _)).1
  omega
theorem dust_all (s : Ers) (q n c : Nat) (g : Nat → Nat → Int) (x : Int) (hc : copC n g x = 0) (hs : ∀ i, i < n → S16 (g i)) :
    ∃ (M B : Nat → Int) (D : Nat → BitVec 64) (at' least : Nat) (l : List Int),
      (at' < n ∧ ∀ i, i < n → least ≤ cntB (D i) 64 ∧ (i < at' → least < cntB (D i) 64) ∧ (i = at' → cntB (D i) 64 = least)) ∧
      (bvI (anD D n) = 0 ∧ bvI (covB l D n) = 18446744073709551615 ∧ 1 ≤ l.length ∧ l.length ≤ 8 ∧ ∀ i, i < n → D i = 0#64 → l.length = 1) ∧
      (∀ k, 2 * cN (fun v => decide (v < M k)) (fun i => g i k) n ≤ n ∧ 2 * cN (fun v => decide (M k < v)) (fun i => g i k) n ≤ n) ∧
      (∀ W, PrsIn W (some ⟨q, 0, none⟩) n g → ErrEnv s W → Calls Tryz.prog 7 #[.slice (some ⟨q, 0, none⟩) n c] W fun e w' => e = .returned (.tuple #[.agg (arrV .i16 64 M), .int .i64 0]) ∧ Below W.heap.size W w') ∧
      (∀ W, PrsIn W (some ⟨q, 0, none⟩) n g → Calls Tryz.prog 8 #[.slice (some ⟨q, 0, none⟩) n c] W fun e w' => e = .returned (.tuple #[.agg (arrV .i16 64 M), .int .i64 0]) ∧ Below W.heap.size W w') ∧
      (∀ W, PrsIn W (some ⟨q, 0, none⟩) n g → ErrEnv s W → DbEnv W → Calls Tryz.prog 9 #[.slice (some ⟨q, 0, none⟩) n c, .int .i64 x] W fun e w' => e = .returned (.tuple #[.agg (arrV .i16 64 B), .int .u64 0, .int .i64 0]) ∧ Below W.heap.size W w') ∧
      (∀ W, PrsIn W (some ⟨q, 0, none⟩) n g → Calls Tryz.prog 10 #[.slice (some ⟨q, 0, none⟩) n c, .int .i64 x] W fun e w' => e = .returned (.tuple #[.agg (arrV .i16 64 B), .int .u64 0, .int .i64 0]) ∧ Below W.heap.size W w') ∧
      (∀ W, PrsIn W (some ⟨q, 0, none⟩) n g → ErrEnv s W → Calls Tryz.prog 11 #[.slice (some ⟨q, 0, none⟩) n c, .int .i64 x] W fun e w' => e = .returned (.tuple #[.int .i64 (at' : Nat), .int .i64 (least : Nat), .int .i64 0]) ∧ Below W.heap.size W w') ∧
      (∀ W, PrsIn W (some ⟨q, 0, none⟩) n g → Calls Tryz.prog 12 #[.slice (some ⟨q, 0, none⟩) n c, .int .i64 x] W fun e w' => e = .returned (.tuple #[.int .i64 (at' : Nat), .int .i64 (least : Nat), .int .i64 0]) ∧ Below W.heap.size W w') ∧
      (∀ W, PrsIn W (some ⟨q, 0, none⟩) n g → ErrEnv s W → Calls Tryz.prog 13 #[.slice (some ⟨q, 0, none⟩) n c, .int .i64 x] W fun e w' => ∃ A cap, e = .returned (.tuple #[.slice A l.length cap, .int .i64 0]) ∧ IntsIn w' A l.length (fun j => l.getD j 0) ∧ Below W.heap.size W w') ∧
      (∀ W, PrsIn W (some ⟨q, 0, none⟩) n g → Calls Tryz.prog 14 #[.slice (some ⟨q, 0, none⟩) n c, .int .i64 x] W fun e w' => ∃ A cap, e = .returned (.tuple #[.slice A l.length cap, .int .i64 0]) ∧ IntsIn w' A l.length (fun j => l.getD j 0) ∧ Below W.heap.size W w') ∧
      (∀ i, i < n → ∀ W, PrsIn W (some ⟨q, 0, none⟩) n g → ErrEnv s W → Calls Tryz.prog 16 #[.slice (some ⟨q, 0, none⟩) n c, .int .i64 (i : Int), .int .i64 x] W fun e w' => e = .returned (.tuple #[.int .u64 (bvI (D i)), .int .i64 0]) ∧ Below W.heap.size W w') ∧
      (∀ i, i < n → ∀ W, ErrEnv s W → Calls Tryz.prog 17 #[.agg (arrV .i16 64 M), .agg (arrV .i16 64 (g i)), .int .i64 x] W fun e w' => e = .returned (.tuple #[.int .u64 (bvI (D i)), .int .i64 0]) ∧ Below W.heap.size W w') ∧
      (∀ W, ErrEnv s W → Calls Tryz.prog 17 #[.agg (arrV .i16 64 M), .agg (arrV .i16 64 B), .int .i64 x] W fun e w' => e = .returned (.tuple #[.int .u64 0, .int .i64 0]) ∧ Below W.heap.size W w') ∧
      (∀ W, PrsIn W (some ⟨q, 0, none⟩) n g → ErrEnv s W → Calls Tryz.prog 20 #[.agg (arrV .i16 64 M), .slice (some ⟨q, 0, none⟩) n c, .int .i64 x] W fun e w' => e = .returned (.tuple #[.int .u64 0, .int .i64 0]) ∧ Below W.heap.size W w') ∧
      (∀ W, PrsIn W (some ⟨q, 0, none⟩) n g → Calls Tryz.prog 21 #[.agg (arrV .i16 64 M), .slice (some ⟨q, 0, none⟩) n c, .int .i64 x] W fun e w' => e = .returned (.tuple #[.int .u64 0, .int .i64 0]) ∧ Below W.heap.size W w') := by
  have hf := cop_facts hc
  have h8 := hf.2.1
  have hn : n ≤ 1048576 := by omega
  have hc0 : copC n g 0 = 0 := copC_ok hf.1 (inB_true.2 (by omega)) (by decide)
  have hMs := medF_s h8.1 hs
  have hfew := few_facts hc
  have hnr := nr_fact (dC g n x) n
  refine ⟨medF g n, bcF g n x, dBs g n x, nrI (dC g n x) n, dC g n x (nrI (dC g n x) n), fewL n g x, ⟨nrI_lt _ h8.1 n (Nat.le_refl _), fun i hi => ⟨hnr.1 i hi, hnr.2 i, fun e => by rw [← e]; rfl⟩⟩,
    ⟨by rw [anD_all hc]; rfl, by rw [hfew.1, anD_all hc]; decide, hfew.2.1, by omega, hfew.2.2.2⟩, fun k => ⟨med_low h8.1 g k, med_high h8.1 g k⟩, ?_, ?_, ?_, ?_, ?_, ?_, ?_, ?_, ?_, ?_, ?_, ?_, ?_⟩
  · intro W h hE
    have := MedianPrint_any s (some ⟨q, 0, none⟩) n c g hn hs W h hE
    rw [mdF_ok hc0, hc0] at this; exact this
  · intro W h
    have := specMedianPrint_any (some ⟨q, 0, none⟩) n c g hn hs W h
    rw [mdF_ok hc0, hc0] at this; exact this
  · intro W h hE hT
    have := BestOfCopies_any s (some ⟨q, 0, none⟩) n c g x hn hs W h hE hT
    rw [lf_zero hc, hc] at this; exact this
  · intro W h
    have := specBestOfCopies_any (some ⟨q, 0, none⟩) n c g x hn hs W h
    rw [lf_zero hc, hc] at this; exact this
  · intro W h hE
    have := CleanestCopy_any s (some ⟨q, 0, none⟩) n c g x hn hs W h hE
    unfold cleT at this
    rw [if_pos hc] at this; exact this
  · intro W h
    have := specCleanestCopy_any (some ⟨q, 0, none⟩) n c g x hn hs W h
    unfold cleT at this
    rw [if_pos hc] at this; exact this
  · intro W h hE
    refine (FewestCopies_any s (some ⟨q, 0, none⟩) n c g x hn hs W h hE).mono ?_
    rintro e w' ⟨u, rfl, hu, hb⟩
    obtain ⟨A, cap, rfl, hi⟩ := hu.ints
    exact ⟨A, cap, by rw [hc], hi, hb⟩
  · intro W h
    refine (specFewestCopies_any (some ⟨q, 0, none⟩) n c g x hn hs W h).mono ?_
    rintro e w' ⟨u, rfl, hu, hb⟩
    obtain ⟨A, cap, rfl, hi⟩ := hu.ints
    exact ⟨A, cap, by rw [hc], hi, hb⟩
  · intro i hi W h hE
    have := DustIn_any s (some ⟨q, 0, none⟩) n c g (i : Int) x hn hs W h hE
    unfold dsiT at this
    rw [if_pos hc, if_pos (inB_true.2 (by omega)), Int.toNat_natCast, dF_bv] at this; exact this
  · intro i hi W hE
    have := DifferIn_any s (medF g n) (g i) x hMs (hs i hi) W hE
    rw [(dif_copy hc hi).1, (dif_copy hc hi).2] at this; exact this
  · intro W hE
    have := DifferIn_any s (medF g n) (bcF g n x) x hMs (bcF_s hc) W hE
    rw [(dif_best hc).1, (dif_best hc).2] at this; exact this
  · intro W h hE
    have := ScratchIn_any s (medF g n) (some ⟨q, 0, none⟩) n c g x hn hMs hs W h hE
    rw [scr_none hc] at this; exact this
  · intro W h
    have := specScratchIn_any (medF g n) (some ⟨q, 0, none⟩) n c g x hn hMs hs W h
    rw [scr_none hc] at this; exact this
end Go.Proofs.YtmibinfaafhgdaaGreatDoor

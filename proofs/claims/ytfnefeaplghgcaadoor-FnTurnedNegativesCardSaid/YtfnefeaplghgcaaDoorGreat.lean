/-
  Where two prints differ most: what both sides' functions return. Condition: int16 numbers.
-/
import Derived.Test.YtfnefeaplghgcaaDoorNegs
import Derived.Test.YtfnefeaplghgcaaDoorArrTools
import Derived.Lib.MinMax
namespace Go.Proofs.YtfnefeaplghgcaaDoor
open Go.RowKit

/-- The size of a number. -/
def szA (z : Int) : Int := if z < 0 then -z else z
theorem szA_bd {z : Int} (h : -100000 ≤ z) (h' : z ≤ 100000) : 0 ≤ szA z ∧ szA z ≤ 100000 := by unfold szA; split <;> omega
/-- The first of the numbers 0 to k whose size is the greatest. -/
def bestN (d : Nat → Int) : Nat → Nat
  | 0 => 0
  | k + 1 => if szA (d (bestN d k)) < szA (d (k + 1)) then k + 1 else bestN d k
theorem bestN_yes {d : Nat → Int} {k : Nat} (h : szA (d (bestN d k)) < szA (d (k + 1))) : bestN d (k + 1) = k + 1 := by simp [bestN, h]
theorem bestN_no {d : Nat → Int} {k : Nat} (h : ¬ szA (d (bestN d k)) < szA (d (k + 1))) : bestN d (k + 1) = bestN d k := by simp [bestN, h]
theorem bestN_le (d : Nat → Int) : ∀ k, bestN d k ≤ k
  | 0 => Nat.le_refl _
  | k + 1 => by
    have := bestN_le d k
    by_cases h : szA (d (bestN d k)) < szA (d (k + 1))
    · rw [bestN_yes h]; exact Nat.le_refl _
    · rw [bestN_no h]; omega
/-- What the program keeps behind k numbers. -/
def grtN (d : Nat → Int) : Nat → Int × Int
  | 0 => (0, 0)
  | k + 1 => if szA (grtN d k).2 < szA (d k) then ((k : Int), d k) else grtN d k
theorem grtN_yes {d : Nat → Int} {k : Nat} (h : szA (grtN d k).2 < szA (d k)) : grtN d (k + 1) = ((k : Int), d k) := by simp [grtN, h]
theorem grtN_no {d : Nat → Int} {k : Nat} (h : ¬ szA (grtN d k).2 < szA (d k)) : grtN d (k + 1) = grtN d k := by simp [grtN, h]
theorem grtN_best (d : Nat → Int) : ∀ k, grtN d (k + 1) = ((bestN d k : Int), d (bestN d k))
  | 0 => by
    by_cases h : szA (grtN d 0).2 < szA (d 0)
    · rw [grtN_yes h]; rfl
    · rw [grtN_no h]
      have : d 0 = 0 := by simp only [grtN, szA] at h; simp at h; split at h <;> omega
      show ((0 : Int), (0 : Int)) = ((((0 : Nat) : Int)), d 0)
      rw [this]; rfl
  | k + 1 => by
    have ih := grtN_best d k
    by_cases h : szA (d (bestN d k)) < szA (d (k + 1))
    · rw [grtN_yes (by rw [ih]; exact h), bestN_yes h]
    · rw [grtN_no (by rw [ih]; exact h), ih, bestN_no h]
theorem grtN_bd {d : Nat → Int} (hd : ∀ k, k < 64 → -65535 ≤ d k ∧ d k ≤ 65535) : ∀ k, k ≤ 64 → -65535 ≤ (grtN d k).2 ∧ (grtN d k).2 ≤ 65535
  | 0, _ => by simp [grtN]
  | k + 1, h => by
    have ih := grtN_bd hd k (by omega)
    have := hd k (by omega)
    by_cases h1 : szA (grtN d k).2 < szA (d k)
    · rw [grtN_yes h1]; exact this
    · rw [grtN_no h1]; exact ih
/-- How the numbers differ. -/
def difN (f g : Nat → Int) (k : Nat) : Int := g k - f k

theorem l01Size_16 (z : Int) (h : -100000 ≤ z) (h' : z ≤ 100000) (w : World) : Calls Tryd.prog 49 #[.int .i64 z] w fun e w' => e = .returned (.int .i64 (szA z)) ∧ w = w' := by
  unfold szA
  by_cases h0 : z < 0
  · rw [if_pos h0]
    go_enter Tryd.func49, Tryd.ntmps49
    go_wp2
    go_ret
    exact ⟨rfl, rfl⟩
  · rw [if_neg h0]
    go_enter Tryd.func49, Tryd.ntmps49
    go_wp2
    go_ret
    exact ⟨rfl, rfl⟩

theorem distance_16 (z : Int) (h : -100000 ≤ z) (h' : z ≤ 100000) (w : World) : Calls Tryd.prog 46 #[.int .i64 z, .int .i64 0] w fun e w' => e = .returned (.int .i64 (szA z)) ∧ w = w' := by
  unfold szA
  by_cases h0 : z < 0
  · rw [if_pos h0]
    have e1 : max z (-z) = -z := by omega
    go_enter Tryd.func46, Tryd.ntmps46
    go_wp2
    go_ret
    exact ⟨ret_int (by omega), rfl⟩
  · rw [if_neg h0]
    have e1 : max z (-z) = z := by omega
    go_enter Tryd.func46, Tryd.ntmps46
    go_wp2
    go_ret
    exact ⟨ret_int (by omega), rfl⟩

theorem l03Off_16 (x y : Int) (h : -32768 ≤ x) (h' : x ≤ 32767) (hy : -32768 ≤ y) (hy' : y ≤ 32767) (w : World) : Calls Tryd.prog 33 #[.int .i16 x, .int .i16 y] w fun e w' => e = .returned (.int .i64 (szA (y - x))) ∧ w = w' := by
  have hs := fun W => l01Size_16 (y - x) (by omega) (by omega) W
  generalize szA (y - x) = S at *
  have Hs := Lib.hid hs; clear hs
  go_enter Tryd.func33, Tryd.ntmps33
  go_wp2_with (go_at_call 49; refine (Hs.out _).mono ?_; rintro e w' ⟨rfl, rfl⟩)
  go_ret
  exact ⟨rfl, rfl⟩

set_option maxRecDepth 100000 in
set_option maxHeartbeats 1000000 in
theorem densityArr_any (f : Nat → Int) (hf : S16 f) (k : Nat) (hk : k < 64) (w : World) :
    Calls Tryd.prog 48 #[.agg (arrV .i16 64 f), .int .i64 (k : Int)] w fun e w' => e = .returned (.int .i64 (f k)) ∧ Below w.heap.size w w' := by
  have c1 := (HasArr.new w 65 .i16 64 f).cell hk
  have bf := hf k hk
  clear hf
  generalize f k = X at *
  go_enter Tryd.func48, Tryd.ntmps48
  go_wp2
  go_ret
  exact ⟨rfl, (Below.refl _ _).alloc (Nat.le_refl _) _⟩

set_option maxRecDepth 100000 in
set_option maxHeartbeats 2000000 in
theorem specGreatest_any (f g : Nat → Int) (hf : S16 f) (hg : S16 g) (w : World) :
    Calls Tryd.prog 15 #[.agg (arrV .i16 64 f), .agg (arrV .i16 64 g)] w fun e w' => e = .returned (.tuple (if (dnsB f && dnsB g) = true then #[.int .i64 (bestN (difN f g) 63 : Nat), .int .i64 (difN f g (bestN (difN f g) 63)), .int .i64 0] else #[.int .i64 0, .int .i64 0, .int .i64 1])) ∧ Below w.heap.size w w' := by
  have a1 := (HasArr.new w 37 .i16 64 f).alloc (.cells (arrV .i16 64 g) 37)
  have a2 : HasArr ((w.alloc (.cells (arrV .i16 64 f) 37)).alloc (.cells (arrV .i16 64 g) 37)) (w.heap.size + 1) 37 .i16 64 g := by
    have h := HasArr.new (w.alloc (.cells (arrV .i16 64 f) 37)) 37 .i16 64 g
    simpa using h
  have k0 := ((Below.refl w.heap.size w).alloc (Nat.le_refl _) (.cells (arrV .i16 64 f) 37)).alloc (by simp) (.cells (arrV .i16 64 g) 37)
  have hd := fun W h => l03Print_any w.heap.size 37 f hf W h
  have he := fun W h => l03Print_any (w.heap.size + 1) 37 g hg W h
  rcases hv : dnsB f with _ | _
  · rw [hv] at hd
    simp only [Bool.false_and, Bool.false_eq_true, if_false]
    have Hd := Lib.hid hd; clear hd hv
    go_enter Tryd.func15, Tryd.ntmps15
    go_wp2_with fail
    refine (Hd.out _ a1).mono ?_; rintro e w1 ⟨rfl, hb1⟩
    have k1 := k0.trans (hb1.mono k0.size)
    clear a1 hb1 k0 Hd
    go_wp2_with fail
    go_ret3
    exact ⟨rfl, k1⟩
  rcases hv2 : dnsB g with _ | _
  · rw [hv] at hd
    rw [hv2] at he
    simp only [Bool.and_false, Bool.false_eq_true, if_false]
    have Hd := Lib.hid hd; clear hd hv
    have He := Lib.hid he; clear he hv2
    go_enter Tryd.func15, Tryd.ntmps15
    go_wp2_with fail
    refine (Hd.out _ a1).mono ?_; rintro e w1 ⟨rfl, hb1⟩
    have k1 := k0.trans (hb1.mono k0.size)
    have b2 := a2.below hb1 a2.lt
    clear a1 hb1 k0 Hd
    go_wp2_with fail
    refine (He.out _ b2).mono ?_; rintro e w2 ⟨rfl, hb2⟩
    have k2 := k1.trans (hb2.mono k1.size)
    clear hb2 k1 He
    go_wp2_with fail
    go_ret3
    exact ⟨rfl, k2⟩
  · rw [hv] at hd
    rw [hv2] at he
    simp only [Bool.and_self, if_true]
    have Hd := Lib.hid hd; clear hd hv
    have He := Lib.hid he; clear he hv2
    have hle := bestN_le (difN f g)
    have hno := fun k => bestN_no (d := difN f g) (k := k)
    have hye := fun k => bestN_yes (d := difN f g) (k := k)
    have Hle := Lib.hid hle; clear hle
    have Hno := Lib.hid hno; clear hno
    have Hye := Lib.hid hye; clear hye
    have Hf := Lib.hid hf; clear hf
    have Hg := Lib.hid hg; clear hg
    have Hdd : Hid (∀ k, difN f g k = g k - f k) := Lib.hid fun _ => rfl
    have h00 : Hid (bestN (difN f g) 0 = 0) := Lib.hid rfl
    generalize difN f g = d at *
    go_enter Tryd.func15, Tryd.ntmps15
    go_wp2_with fail
    refine (Hd.out _ a1).mono ?_; rintro e w1 ⟨rfl, hb1⟩
    have k1 := k0.trans (hb1.mono k0.size)
    have b1 := a1.below hb1 a1.lt
    have b2 := a2.below hb1 a2.lt
    clear a1 a2 hb1 k0 Hd
    go_wp2_with fail
    refine (He.out _ b2).mono ?_; rintro e w2 ⟨rfl, hb2⟩
    have k2 := k1.trans (hb2.mono k1.size)
    have c1 := b1.below hb2 b1.lt
    have c2 := b2.below hb2 b2.lt
    have K2 := Lib.hid (And.intro c1 (And.intro c2 k2))
    clear b1 b2 hb2 k1 He c1 c2 k2
    go_wp2_with fail
    go_loopw [7, 8] (fun t i wr => ∃ k : Nat, k < 64 ∧ i = .int .i64 ((k : Int) + 1) ∧ t = .int .i64 ((bestN d k : Nat) : Int) ∧ HasArr wr w.heap.size 37 .i16 64 f ∧ HasArr wr (w.heap.size + 1) 37 .i16 64 g ∧ Below w.heap.size w wr) (fun _ i _ => 64 - (intOf i).toNat)
    case atStart => exact ⟨0, by omega, rfl, by rw [h00.out]; rfl, K2.out⟩
    case round =>
      obtain ⟨k, hk, rfl, rfl, h1, h2, hB⟩ := hrel
      have hbk := Hle.out k
      have hf0 := Hf.out (bestN d k) (by omega)
      have hg0 := Hg.out (bestN d k) (by omega)
      have e0 := Hdd.out (bestN d k)
      have c1 := h1.cell (k := bestN d k) (by omega)
      have c2 := h2.cell (k := bestN d k) (by omega)
      by_cases hkn : k + 1 < 64
      · have hno := Hno.out k
        have hye := Hye.out k
        have hf1 := Hf.out (k + 1) hkn
        have hg1 := Hg.out (k + 1) hkn
        have e1 := Hdd.out (k + 1)
        have c3 := h1.cell hkn
        have c4 := h2.cell hkn
        rw [e0, e1] at hno hye
        clear e0 e1
        have w1 : (k : Int) + 1 < 64 := by omega
        have hm64 : bestN d k < 64 := by omega
        have K3 := Lib.hid (fun n => And.intro (h1.drewN n) (And.intro (h2.drewN n) (below_drewA hB n)))
        clear h1 h2 hB K2
        have HB : ∃ B, B = bestN d (k + 1) := ⟨_, rfl⟩
        generalize f (k + 1) = F1 at *
        generalize g (k + 1) = G1 at *
        generalize hm : bestN d k = m at *
        have Hm := Lib.hid hm; clear hm
        generalize f m = F0 at *
        generalize g m = G0 at *
        have q1 := fun W => l03Off_16 F1 G1 hf1.1 hf1.2 hg1.1 hg1.2 W
        have q2 := fun W => l03Off_16 F0 G0 hf0.1 hf0.2 hg0.1 hg0.2 W
        by_cases hc : szA (G0 - F0) < szA (G1 - F1)
        · have HY := Lib.hid (hye hc)
          clear hno hye
          generalize szA (G0 - F0) = S0 at *
          generalize szA (G1 - F1) = S1 at *
          have Q1 := Lib.hid q1; clear q1
          have Q2 := Lib.hid q2; clear q2
          go_wp2_with fail
          go_quiet ((go_at_call 33; (first | (with_reducible refine Calls.mono (Q1.out _) ?_) | (with_reducible refine Calls.mono (Q2.out _) ?_)); exact fun e w' ⟨he, hw⟩ => ⟨he, _, hw.symm⟩))
          go_wp2
          go_roundw
          case rel => exact ⟨k + 1, by omega, by go_num, by rw [HY.out]; go_num, K3.out _⟩
          case measure => simp [intOf]; omega
        · have HN := Lib.hid (hno (by omega))
          clear hno hye
          generalize szA (G0 - F0) = S0 at *
          generalize szA (G1 - F1) = S1 at *
          have Q1 := Lib.hid q1; clear q1
          have Q2 := Lib.hid q2; clear q2
          go_wp2_with fail
          go_quiet ((go_at_call 33; (first | (with_reducible refine Calls.mono (Q1.out _) ?_) | (with_reducible refine Calls.mono (Q2.out _) ?_)); exact fun e w' ⟨he, hw⟩ => ⟨he, _, hw.symm⟩))
          go_wp2
          go_roundw
          case rel => exact ⟨k + 1, by omega, by go_num, by rw [HN.out], K3.out _⟩
          case measure => simp [intOf]; omega
      · obtain rfl : k = 63 := by omega
        have E0 := Lib.hid e0
        clear e0 K2
        have hm64 : bestN d 63 < 64 := by omega
        generalize hm : bestN d 63 = m at *
        have Hm := Lib.hid hm; clear hm
        generalize f m = F0 at *
        generalize g m = G0 at *
        go_wp2_with fail
        go_quiet (fail)
        go_wp2
        go_ret3
        refine ⟨?_, below_drewA hB _⟩
        show Ending.returned (.tuple #[.int .i64 ((m : Nat) : Int), .int .i64 (G0 - F0), .int .i64 0]) = _
        rw [Hm.out, E0.out]

/-- A block of two numbers. -/
def Has2 (w : World) (b : Nat) (T : TypeId) (x y : Int) : Prop := w.heap[b]? = some (.cells #[.int .i64 x, .int .i64 y] T (0, 0))
theorem Has2.lt {w : World} {b : Nat} {T : TypeId} {x y : Int} (h : Has2 w b T x y) : b < w.heap.size := (Array.getElem?_eq_some_iff.1 h).1
theorem Has2.c0 {w : World} {b : Nat} {T : TypeId} {x y : Int} (h : Has2 w b T x y) : w.cell? ⟨b, 0, none⟩ = some (.int .i64 x) := by rw [cell_of_row w b 0 _ T (0, 0) h]; rfl
theorem Has2.c1 {w : World} {b : Nat} {T : TypeId} {x y : Int} (h : Has2 w b T x y) : w.cell? ⟨b, 1, none⟩ = some (.int .i64 y) := by rw [cell_of_row w b 1 _ T (0, 0) h]; rfl
theorem Has2.free {w : World} {b : Nat} {T : TypeId} {x y : Int} (h : Has2 w b T x y) (k : Nat) : w.frozen? ⟨b, k, none⟩ = false := frozen_of_row w b k _ T h
theorem Has2.below {w w' : World} {b B : Nat} {T : TypeId} {x y : Int} (h : Has2 w b T x y) (hb : Below B w w') (hB : b < B) : Has2 w' b T x y := (hb.block b hB).trans h
theorem Has2.alloc {w : World} {b : Nat} {T : TypeId} {x y : Int} (h : Has2 w b T x y) (o : Obj) : Has2 (w.alloc o) b T x y := (Below.heap_alloc w o b h.lt).trans h
theorem Has2.new (w : World) (T : TypeId) (x y : Int) : Has2 (w.alloc (.cells #[.int .i64 x, .int .i64 y] T)) w.heap.size T x y := heap_alloc_last w _
theorem Has2.other {w : World} {b : Nat} {T : TypeId} {x y : Int} (h : Has2 w b T x y) {a : Addr} (hne : b ≠ a.block) (v : Value) : Has2 (w.setCell a v) b T x y := (Below.heap_setCell w a v b hne).trans h
theorem Has2.set0 {w : World} {b : Nat} {T : TypeId} {x y : Int} (h : Has2 w b T x y) (x' : Int) : Has2 (w.setCell ⟨b, 0, none⟩ (.int .i64 x')) b T x' y := by
  unfold Has2
  rw [heap_setCell_same w b 0 _ T _ h]; rfl
theorem Has2.set1 {w : World} {b : Nat} {T : TypeId} {x y : Int} (h : Has2 w b T x y) (y' : Int) : Has2 (w.setCell ⟨b, 1, none⟩ (.int .i64 y')) b T x y' := by
  unfold Has2
  rw [heap_setCell_same w b 1 _ T _ h]; rfl

set_option maxRecDepth 100000 in
set_option maxHeartbeats 4000000 in
theorem greatest_any (f g : Nat → Int) (hf : S16 f) (hg : S16 g) (w : World) :
    Calls Tryd.prog 31 #[.agg (arrV .i16 64 f), .agg (arrV .i16 64 g)] w fun e w' => e = .returned (.agg #[.int .i64 (grtN (difN f g) 64).1, .int .i64 (grtN (difN f g) 64).2]) ∧ Below w.heap.size w w' := by
  have a1 := (((HasArr.new w 65 .i16 64 f).alloc (.cells (arrV .i16 64 g) 65)).alloc (.cells #[.int .i64 0, .int .i64 0] 63)).alloc (.cells #[.int .i64 0, .int .i64 0] 63)
  have a2 : HasArr ((((w.alloc (.cells (arrV .i16 64 f) 65)).alloc (.cells (arrV .i16 64 g) 65)).alloc (.cells #[.int .i64 0, .int .i64 0] 63)).alloc (.cells #[.int .i64 0, .int .i64 0] 63)) (w.heap.size + 1) 65 .i16 64 g := by
    have h := ((HasArr.new (w.alloc (.cells (arrV .i16 64 f) 65)) 65 .i16 64 g).alloc (.cells #[.int .i64 0, .int .i64 0] 63)).alloc (.cells #[.int .i64 0, .int .i64 0] 63)
    simpa using h
  have a3 : Has2 ((((w.alloc (.cells (arrV .i16 64 f) 65)).alloc (.cells (arrV .i16 64 g) 65)).alloc (.cells #[.int .i64 0, .int .i64 0] 63)).alloc (.cells #[.int .i64 0, .int .i64 0] 63)) (w.heap.size + 1 + 1) 63 0 0 := by
    have h := (Has2.new ((w.alloc (.cells (arrV .i16 64 f) 65)).alloc (.cells (arrV .i16 64 g) 65)) 63 0 0).alloc (.cells #[.int .i64 0, .int .i64 0] 63)
    simpa using h
  have a4 : Has2 ((((w.alloc (.cells (arrV .i16 64 f) 65)).alloc (.cells (arrV .i16 64 g) 65)).alloc (.cells #[.int .i64 0, .int .i64 0] 63)).alloc (.cells #[.int .i64 0, .int .i64 0] 63)) (w.heap.size + 1 + 1 + 1) 63 0 0 := by
    have h := Has2.new (((w.alloc (.cells (arrV .i16 64 f) 65)).alloc (.cells (arrV .i16 64 g) 65)).alloc (.cells #[.int .i64 0, .int .i64 0] 63)) 63 0 0
    simpa using h
  have k0 := ((((Below.refl w.heap.size w).alloc (Nat.le_refl _) (.cells (arrV .i16 64 f) 65)).alloc (by first | (simp; done) | (simp; omega)) (.cells (arrV .i16 64 g) 65)).alloc (by first | (simp; done) | (simp; omega)) (.cells #[.int .i64 0, .int .i64 0] 63)).alloc (by first | (simp; done) | (simp; omega)) (.cells #[.int .i64 0, .int .i64 0] 63)
  have K0 := Lib.hid (And.intro a1 (And.intro a2 (And.intro a3 (And.intro a4 k0))))
  clear a1 a2 a3 a4 k0
  have hno := fun k => grtN_no (d := difN f g) (k := k)
  have hye := fun k => grtN_yes (d := difN f g) (k := k)
  have hbd := grtN_bd (d := difN f g) (fun k hk => by have := hf k hk; have := hg k hk; unfold difN; omega)
  have h00 : Hid (grtN (difN f g) 0 = (0, 0)) := Lib.hid rfl
  have Hdd : Hid (∀ k, difN f g k = g k - f k) := Lib.hid fun _ => rfl
  have Hno := Lib.hid hno; clear hno
  have Hye := Lib.hid hye; clear hye
  have Hbd := Lib.hid hbd; clear hbd
  have hqf := fun k hk W => densityArr_any f hf k hk W
  have hqg := fun k hk W => densityArr_any g hg k hk W
  have Hqf := Lib.hid hqf; clear hqf
  have Hqg := Lib.hid hqg; clear hqg
  have Hf := Lib.hid hf; clear hf
  have Hg := Lib.hid hg; clear hg
  generalize difN f g = d at *
  go_enter Tryd.func31, Tryd.ntmps31
  go_wp2_with fail
  go_loopw [9] (fun i wr => ∃ k : Nat, k ≤ 64 ∧ i = .int .i64 (k : Int) ∧ HasArr wr w.heap.size 65 .i16 64 f ∧ HasArr wr (w.heap.size + 1) 65 .i16 64 g ∧ Has2 wr (w.heap.size + 1 + 1) 63 0 0 ∧ Has2 wr (w.heap.size + 1 + 1 + 1) 63 (grtN d k).1 (grtN d k).2 ∧ Below w.heap.size w wr) (fun i _ => 64 - (intOf i).toNat)
  case atStart =>
    refine ⟨0, by omega, rfl, ?_⟩
    rw [h00.out]
    exact K0.out
  case round =>
    obtain ⟨k, hk, rfl, h1, h2, h3, h4, hB⟩ := hrel
    clear K0
    by_cases hkn : k < 64
    · have hno := Hno.out k
      have hye := Hye.out k
      have bg := Hbd.out k hk
      have hf1 := Hf.out k hkn
      have hg1 := Hg.out k hkn
      have e1 := Hdd.out k
      rw [e1] at hno hye
      clear e1
      have w1 : (k : Int) < 64 := by omega
      have qf := fun W => Hqf.out k hkn W
      have qg := fun W => Hqg.out k hkn W
      generalize hg0 : (grtN d k).1 = A0 at *
      generalize hg2 : (grtN d k).2 = B0 at *
      have G0 := Lib.hid (And.intro hg0 hg2); clear hg0 hg2
      generalize f k = F1 at *
      generalize g k = G1 at *
      have Qf := Lib.hid qf; clear qf
      have Qg := Lib.hid qg; clear qg
      have q1 := fun W => distance_16 (G1 - F1) (by omega) (by omega) W
      have q2 := fun W => distance_16 B0 (by omega) (by omega) W
      have Hno1 := Lib.hid hno; clear hno
      have Hye1 := Lib.hid hye; clear hye
      have H1 := Lib.hid h1
      have H2 := Lib.hid h2
      have H3 := Lib.hid h3
      have H4 := Lib.hid h4
      have HB := Lib.hid hB
      clear h1 h2 h3 h4 hB
      go_wp2_with fail
      refine wp_region_quietD (Below wr.heap.size wr) (by kernel_rfl) (by kernel_rfl) (below_drew1 _) ?_
      have n0 := below_nonempty wr
      refine wpQuiet_load_arr (fun W hW => by obtain ⟨x, rfl⟩ := hW; exact H2.out.below x.ok H2.out.lt) 65 (.tmp 3) rfl rfl rfl Tryd.underlying65 sizeCells ?_
      quiet_step (fail)
      quiet_step ((go_at_call 48; exact inCall _ (Qg.out _)))
      refine wpQuiet_load_arr (fun W hW => by obtain ⟨x, rfl⟩ := hW; exact H1.out.below x.ok H1.out.lt) 65 (.tmp 2) rfl rfl rfl Tryd.underlying65 sizeCells ?_
      quiet_step (fail)
      quiet_step ((go_at_call 48; exact inCall _ (Qf.out _)))
      quiet_step (fail)
      quiet_step (fail)
      refine wpQuiet_nil ?_
      rintro w2 ⟨⟨w3, hb2⟩, rfl⟩
      have K1 := Lib.hid (And.intro (H1.out.below hb2 H1.out.lt) (H2.out.below hb2 H2.out.lt))
      have p3 := H3.out.below hb2 H3.out.lt
      have p4 := H4.out.below hb2 H4.out.lt
      have pB := HB.out.trans (Below.mono hb2 HB.out.size)
      have c1 := p4.c1
      clear H1 H2 H3 H4 HB hb2 n0
      have P3 := Lib.hid p3; clear p3
      have P4 := Lib.hid p4; clear p4
      have PB := Lib.hid pB; clear pB
      by_cases hc : szA B0 < szA (G1 - F1)
      · have HY := Lib.hid (Hye1.out hc)
        generalize szA B0 = S0 at *
        generalize szA (G1 - F1) = S1 at *
        have Q1 := Lib.hid q1; clear q1
        have Q2 := Lib.hid q2; clear q2
        go_wp2_with fail
        go_quiet ((go_at_call 46; (first | (with_reducible refine Calls.mono (Q1.out _) ?_) | (with_reducible refine Calls.mono (Q2.out _) ?_)); exact fun e w' ⟨he, hw⟩ => ⟨he, _, hw.symm⟩))
        have c0 := P4.out.c0
        have f0 := P4.out.free 0
        have f1 := P4.out.free 1
        go_wp2
        go_roundw
        case rel =>
          refine ⟨k + 1, by omega, by go_num, ?_⟩
          rw [HY.out]
          have e1 := (K1.out.1.drewN nq).other (a := ⟨w.heap.size + 1 + 1 + 1, 0, none⟩) (by first | (simp; done) | (simp; omega)) (.int .i64 (k : Int))
          have e1' := e1.other (a := ⟨w.heap.size + 1 + 1 + 1, 1, none⟩) (by first | (simp; done) | (simp; omega)) (.int .i64 (G1 - F1))
          have e2 := (K1.out.2.drewN nq).other (a := ⟨w.heap.size + 1 + 1 + 1, 0, none⟩) (by first | (simp; done) | (simp; omega)) (.int .i64 (k : Int))
          have e2' := e2.other (a := ⟨w.heap.size + 1 + 1 + 1, 1, none⟩) (by first | (simp; done) | (simp; omega)) (.int .i64 (G1 - F1))
          have e3 := Has2.other (w := w2.drewN nq) P3.out (a := ⟨w.heap.size + 1 + 1 + 1, 0, none⟩) (by simp) (.int .i64 (k : Int))
          have e3' := e3.other (a := ⟨w.heap.size + 1 + 1 + 1, 1, none⟩) (by simp) (.int .i64 (G1 - F1))
          have e4 := (Has2.set0 (w := w2.drewN nq) P4.out (k : Int)).set1 (G1 - F1)
          exact ⟨e1', e2', e3', e4, ((below_drewA PB.out nq).setCell (by first | (simp; done) | (simp; omega)) _).setCell (by first | (simp; done) | (simp; omega)) _⟩
        case measure => simp [intOf]; omega
      · have HN := Lib.hid (Hno1.out (by omega))
        generalize szA B0 = S0 at *
        generalize szA (G1 - F1) = S1 at *
        have Q1 := Lib.hid q1; clear q1
        have Q2 := Lib.hid q2; clear q2
        go_wp2_with fail
        go_quiet ((go_at_call 46; (first | (with_reducible refine Calls.mono (Q1.out _) ?_) | (with_reducible refine Calls.mono (Q2.out _) ?_)); exact fun e w' ⟨he, hw⟩ => ⟨he, _, hw.symm⟩))
        go_wp2
        go_roundw
        case rel =>
          refine ⟨k + 1, by omega, by go_num, ?_⟩
          rw [HN.out, G0.out.1, G0.out.2]
          exact ⟨K1.out.1.drewN nq, K1.out.2.drewN nq, P3.out, P4.out, below_drewA PB.out nq⟩
        case measure => simp [intOf]; omega
    · obtain rfl : k = 64 := by omega
      have c0 := h4.c0
      have c1 := h4.c1
      have r0 := h3.c0
      have r1 := h3.c1
      have f0 := h3.free 0
      have f1 := h3.free 1
      go_wp2_with fail
      refine bodyPost_ret (v := .agg #[.int .i64 (grtN d 64).1, .int .i64 (grtN d 64).2]) (by simp [results, Tryd.results31, go_sem, *]) rfl ⟨rfl, ?_⟩
      exact (hB.setCell (by first | (simp; done) | (simp; omega)) _).setCell (by first | (simp; done) | (simp; omega)) _
end Go.Proofs.YtfnefeaplghgcaaDoor

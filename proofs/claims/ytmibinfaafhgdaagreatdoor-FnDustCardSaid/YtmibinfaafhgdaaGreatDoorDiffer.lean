/-
  The cells in which two prints differ: what both sides' functions return. Condition: int16 numbers; of the program's: its variables hold their own errors.
-/
import Derived.Test.YtmibinfaafhgdaaGreatDoorMasks
import Derived.Test.YtmibinfaafhgdaaGreatDoorGreat
namespace Go.Proofs.YtmibinfaafhgdaaGreatDoor
open Go.RowKit

/-- Does a cell differ by more? -/
def difP (f g : Nat → Int) (t : Int) (k : Nat) : Bool := decide (t < szA (g k - f k))
theorem difP_yes {f g : Nat → Int} {t : Int} {k : Nat} (h : t < szA (g k - f k)) : difP f g t k = true := by simp [difP, h]
theorem difP_no {f g : Nat → Int} {t : Int} {k : Nat} (h : ¬ t < szA (g k - f k)) : difP f g t k = false := by simp only [difP, decide_eq_false_iff_not]; exact h
def difV (f g : Nat → Int) (t : Int) : Int := if (dnsB f && (dnsB g && inB t 0 400)) = true then ((maskN (difP f g t) 64 : Nat) : Int) else 0
def difC (f g : Nat → Int) (t : Int) : Int := if (dnsB f && dnsB g) = true then (if inB t 0 400 = true then 0 else 2) else 1

theorem isDensity_16 (x : Int) (w : World) : Calls Tryz.prog 64 #[.int .i64 x] w fun e w' => e = .returned (.bool (inB x 0 400)) ∧ w = w' := by
  go_enter Tryz.func64, Tryz.ntmps64
  go_wp2_with (go_at_call 62; refine (inRange_any _ _ _ _).mono ?_; rintro e w' ⟨rfl, rfl⟩)
  go_ret
  exact ⟨rfl, rfl⟩

theorem distanceAB_16 (x y : Int) (h : -32768 ≤ x) (h' : x ≤ 32767) (hy : -32768 ≤ y) (hy' : y ≤ 32767) (w : World) : Calls Tryz.prog 67 #[.int .i64 x, .int .i64 y] w fun e w' => e = .returned (.int .i64 (szA (y - x))) ∧ w = w' := by
  unfold szA
  by_cases h0 : y - x < 0
  · rw [if_pos h0]
    have e1 : max (x - y) (y - x) = -(y - x) := by omega
    go_enter Tryz.func67, Tryz.ntmps67
    go_wp2
    go_ret
    exact ⟨ret_int (by omega), rfl⟩
  · rw [if_neg h0]
    have e1 : max (x - y) (y - x) = y - x := by omega
    go_enter Tryz.func67, Tryz.ntmps67
    go_wp2
    go_ret
    exact ⟨ret_int (by omega), rfl⟩

set_option maxRecDepth 100000 in
set_option maxHeartbeats 1000000 in
theorem differIn1_any (f g : Nat → Int) (hf : S16 f) (hg : S16 g) (t : Int) (k : Nat) (hk : k < 64) (a b q : Nat) (T : TypeId) (w : World) (h1 : HasArr w a T .i16 64 f) (h2 : HasArr w b T .i16 64 g) (c3 : w.cell? ⟨q, 0, none⟩ = some (.int .i64 t)) :
    Calls Tryz.prog 66 #[.int .i64 (k : Int), .pointer (some ⟨a, 0, none⟩), .pointer (some ⟨b, 0, none⟩), .pointer (some ⟨q, 0, none⟩)] w fun e w' => e = .returned (.bool (difP f g t k)) ∧ Below w.heap.size w w' := by
  have c1 := h1.cell hk
  have c2 := h2.cell hk
  have b1 := hf k hk
  have b2 := hg k hk
  have hyes := difP_yes (f := f) (g := g) (t := t) (k := k)
  have hno := difP_no (f := f) (g := g) (t := t) (k := k)
  clear hf hg h1 h2
  generalize difP f g t k = V at *
  generalize f k = X at *
  generalize g k = Y at *
  have hd := fun W => distanceAB_16 X Y b1.1 b1.2 b2.1 b2.2 W
  have w1 : (k : Int) < 64 := by omega
  by_cases hc : t < szA (Y - X)
  · obtain rfl := hyes hc
    clear hyes hno
    generalize szA (Y - X) = S at *
    have Hd := Lib.hid hd; clear hd
    go_enter Tryz.func66, Tryz.ntmps66
    go_wp2_with fail
    go_quiet ((go_at_call 67; exact (Hd.out _).mono fun e w' ⟨he, hw⟩ => ⟨he, _, hw.symm⟩))
    go_wp2
    go_ret
    exact ⟨rfl, below_drewA (Below.refl _ _) _⟩
  · obtain rfl := hno hc
    clear hyes hno
    have hc' : szA (Y - X) ≤ t := by omega
    clear hc
    generalize szA (Y - X) = S at *
    have Hd := Lib.hid hd; clear hd
    go_enter Tryz.func66, Tryz.ntmps66
    go_wp2_with fail
    go_quiet ((go_at_call 67; exact (Hd.out _).mono fun e w' ⟨he, hw⟩ => ⟨he, _, hw.symm⟩))
    go_wp2
    go_ret
    refine ⟨?_, below_drewA (Below.refl _ _) _⟩
    show Ending.returned (.bool (decide (t < S))) = _
    rw [decide_eq_false (by omega)]

set_option maxRecDepth 100000 in
set_option maxHeartbeats 4000000 in
theorem differIn_any (s : Ers) (f g : Nat → Int) (t : Int) (hf : S16 f) (hg : S16 g) (w : World) (hE : ErrEnv s w) :
    Calls Tryz.prog 40 #[.agg (arrV .i16 64 f), .agg (arrV .i16 64 g), .int .i64 t] w (MskOut s w (difV f g t) (difC f g t)) := by
  have a1 := ((HasArr.new w 29 .i16 64 f).alloc (.cells (arrV .i16 64 g) 29)).alloc (.cells #[.int .i64 t] 2)
  have a2 : HasArr (((w.alloc (.cells (arrV .i16 64 f) 29)).alloc (.cells (arrV .i16 64 g) 29)).alloc (.cells #[.int .i64 t] 2)) (w.heap.size + 1) 29 .i16 64 g := by
    have h := (HasArr.new (w.alloc (.cells (arrV .i16 64 f) 29)) 29 .i16 64 g).alloc (.cells #[.int .i64 t] 2)
    simpa using h
  have k0 := (((Below.refl w.heap.size w).alloc (Nat.le_refl _) (.cells (arrV .i16 64 f) 29)).alloc (by simp) (.cells (arrV .i16 64 g) 29)).alloc (by first | (simp; done) | (simp; omega)) (.cells #[.int .i64 t] 2)
  have c0 : (((w.alloc (.cells (arrV .i16 64 f) 29)).alloc (.cells (arrV .i16 64 g) 29)).alloc (.cells #[.int .i64 t] 2)).cell? ⟨w.heap.size + 1 + 1, 0, none⟩ = some (.int .i64 t) := by go_simp
  have hd := fun W => ValidPrint_any f W
  have he := fun W => ValidPrint_any g W
  have ht := fun W => isDensity_16 t W
  unfold difV difC
  rcases hv : dnsB f with _ | _
  · rw [hv] at hd
    simp only [Bool.false_and, Bool.false_eq_true, if_false]
    have Hd := Lib.hid hd; clear hd hv he ht hf hg
    go_enter Tryz.func40, Tryz.ntmps40
    go_wp2_with (refine wpList_load_arr a1 _ _ rfl rfl rfl Tryz.underlying29 sizePrint ?_)
    refine (Hd.out _).mono ?_; rintro e w1 ⟨rfl, hb1⟩
    have k1 := k0.trans (hb1.mono k0.size)
    have ce := (hE.below k1 (Nat.le_refl _)).c_einvalid
    clear a1 hb1 k0 Hd c0
    go_wp2_with fail
    go_quiet (fail)
    go_wp2
    go_ret2
    exact ⟨_, rfl, .einvalid, below_drewA k1 _⟩
  rw [hv] at hd
  have Hd := Lib.hid hd; clear hd hv
  rcases hv2 : dnsB g with _ | _
  · rw [hv2] at he
    simp only [Bool.and_false, Bool.false_and, Bool.false_eq_true, if_false]
    have He := Lib.hid he; clear he hv2 ht hf hg
    go_enter Tryz.func40, Tryz.ntmps40
    go_wp2_with (refine wpList_load_arr a1 _ _ rfl rfl rfl Tryz.underlying29 sizePrint ?_)
    refine (Hd.out _).mono ?_; rintro e w1 ⟨rfl, hb1⟩
    have k1 := k0.trans (hb1.mono k0.size)
    have b2 := a2.below hb1 a2.lt
    clear a1 hb1 k0 Hd c0
    go_wp2_with (refine wpList_load_arrG b2 _ _ rfl rfl rfl Tryz.underlying29 sizePrint ?_)
    refine (He.out _).mono ?_; rintro e w2 ⟨rfl, hb2⟩
    have k2 := k1.trans (hb2.mono k1.size)
    have ce := (hE.below k2 (Nat.le_refl _)).c_einvalid
    clear hb2 k1 He
    go_wp2_with fail
    go_quiet (fail)
    go_wp2
    go_ret2
    exact ⟨_, rfl, .einvalid, below_drewA k2 _⟩
  rw [hv2] at he
  have He := Lib.hid he; clear he hv2
  simp only [Bool.true_and, Bool.and_self, if_true]
  rcases hv3 : inB t 0 400 with _ | _
  · rw [hv3] at ht
    simp only [Bool.false_eq_true, if_false]
    have Ht := Lib.hid ht; clear ht hv3 hf hg
    go_enter Tryz.func40, Tryz.ntmps40
    go_wp2_with (refine wpList_load_arr a1 _ _ rfl rfl rfl Tryz.underlying29 sizePrint ?_)
    refine (Hd.out _).mono ?_; rintro e w1 ⟨rfl, hb1⟩
    have k1 := k0.trans (hb1.mono k0.size)
    have b2 := a2.below hb1 a2.lt
    have c1 := below_cellOf hb1 c0 (Nat.le_refl _)
    clear a1 hb1 k0 Hd c0
    go_wp2_with (refine wpList_load_arrG b2 _ _ rfl rfl rfl Tryz.underlying29 sizePrint ?_)
    refine (He.out _).mono ?_; rintro e w2 ⟨rfl, hb2⟩
    have k2 := k1.trans (hb2.mono k1.size)
    have c2 := below_cellOf hb2 c1 (Nat.le_refl _)
    have ce := (hE.below k2 (Nat.le_refl _)).c_erange
    clear hb2 k1 He c1
    go_wp2_with fail
    refine (Ht.out _).mono ?_; rintro e w3 ⟨rfl, rfl⟩
    go_wp2_with fail
    go_quiet (fail)
    go_wp2
    go_ret2
    exact ⟨_, rfl, .erange, below_drewA k2 _⟩
  · rw [hv3] at ht
    simp only [if_true]
    have Ht := Lib.hid ht; clear ht hv3
    have hm := fun a b c W h => maskWhere_differIn (difP f g t) a b c W h
    have hc := fun k hk a b q W h1 h2 h3 => differIn1_any f g hf hg t k hk a b q 29 W h1 h2 h3
    clear hf hg
    generalize difP f g t = p at *
    have Hm := Lib.hid hm; clear hm
    have Hc := Lib.hid hc; clear hc
    go_enter Tryz.func40, Tryz.ntmps40
    go_wp2_with (refine wpList_load_arr a1 _ _ rfl rfl rfl Tryz.underlying29 sizePrint ?_)
    refine (Hd.out _).mono ?_; rintro e w1 ⟨rfl, hb1⟩
    have k1 := k0.trans (hb1.mono k0.size)
    have b1 := a1.below hb1 a1.lt
    have b2 := a2.below hb1 a2.lt
    have c1 := below_cellOf hb1 c0 (Nat.le_refl _)
    clear a1 a2 hb1 k0 Hd c0
    go_wp2_with (refine wpList_load_arrG b2 _ _ rfl rfl rfl Tryz.underlying29 sizePrint ?_)
    refine (He.out _).mono ?_; rintro e w2 ⟨rfl, hb2⟩
    have k2 := k1.trans (hb2.mono k1.size)
    have d1 := b1.below hb2 b1.lt
    have d2 := b2.below hb2 b2.lt
    have c2 := below_cellOf hb2 c1 (Nat.le_refl _)
    have D := Lib.hid (And.intro d1 (And.intro d2 c2))
    clear hb2 k1 He c1 b1 b2 d1 d2
    go_wp2_with fail
    refine (Ht.out _).mono ?_; rintro e w3 ⟨rfl, rfl⟩
    clear c2
    go_wp2_with fail
    refine (Hm.out _ _ _ _ (fun k hk V hV => Hc.out k hk _ _ _ V (D.out.1.below hV D.out.1.lt) (D.out.2.1.below hV D.out.2.1.lt) (below_cellOf hV D.out.2.2 (Nat.le_refl _)))).mono ?_; rintro e w4 ⟨rfl, hb4⟩
    have k4 := k2.trans (hb4.mono k2.size)
    clear hb4 k2 D
    go_wp2_with fail
    go_ret2
    exact ⟨.nilIface, rfl, .ok, k4⟩

set_option maxRecDepth 100000 in
set_option maxHeartbeats 2000000 in
theorem DifferIn_any (s : Ers) (f g : Nat → Int) (t : Int) (hf : S16 f) (hg : S16 g) (w : World) (hE : ErrEnv s w) :
    Calls Tryz.prog 17 #[.agg (arrV .i16 64 f), .agg (arrV .i16 64 g), .int .i64 t] w fun e w' => e = .returned (.tuple #[.int .u64 (difV f g t), .int .i64 (difC f g t)]) ∧ Below w.heap.size w w' := by
  have a1 := (HasArr.new w 29 .i16 64 f).alloc (.cells (arrV .i16 64 g) 29)
  have a2 : HasArr ((w.alloc (.cells (arrV .i16 64 f) 29)).alloc (.cells (arrV .i16 64 g) 29)) (w.heap.size + 1) 29 .i16 64 g := by
    have h := HasArr.new (w.alloc (.cells (arrV .i16 64 f) 29)) 29 .i16 64 g
    simpa using h
  have k0 := ((Below.refl w.heap.size w).alloc (Nat.le_refl _) (.cells (arrV .i16 64 f) 29)).alloc (by simp) (.cells (arrV .i16 64 g) 29)
  have hm := fun V h => differIn_any s f g t hf hg V h
  generalize difV f g t = V at *
  generalize difC f g t = C at *
  have Hm := Lib.hid hm; clear hm hf hg
  go_enter Tryz.func17, Tryz.ntmps17
  go_wp2_with (first | (refine wpList_load_arr a1 _ _ rfl rfl rfl Tryz.underlying29 sizePrint ?_) | (refine wpList_load_arr a2 _ _ rfl rfl rfl Tryz.underlying29 sizePrint ?_))
  refine (Hm.out _ ((hE.alloc _).alloc _)).mono ?_; rintro e w1 ⟨v, rfl, hv, hb1⟩
  have k1 := k0.trans (hb1.mono k0.size)
  clear a1 a2 hb1 k0
  go_wp2_with fail
  refine (codedMask_any hv _ _ (hE.below k1 (Nat.le_refl _))).mono ?_; rintro e w2 ⟨rfl, rfl⟩
  go_wp2_with fail
  go_ret2
  exact ⟨rfl, k1⟩
end Go.Proofs.YtmibinfaafhgdaaGreatDoor

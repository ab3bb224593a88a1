/-
  Light found by strips, with its code: by the program and by the reference, for every list of at most 1048576 points. Condition of the program's: its variables hold their own errors.
-/
import Derived.Test.YtkhahffdacopdaaDoorStripL
import Derived.Test.YtkhahffdacopdaaDoorShade
import Derived.Test.YtkhahffdacopdaaDoorNearB
import Derived.Test.YtkhahffdacopdaaDoorFiner
import Derived.Deep.RegionWith
namespace Go.Proofs.YtkhahffdacopdaaDoor
open Go.RowKit

theorem irow_ownC {w : World} {L n : Nat} {xs : Nat → Int} {v : Value} (h : w.ownsRow L 2 1 v n (tabV xs n)) (hn : 0 < n) : ∃ g cap, v = .slice (some ⟨g, 0, none⟩) n cap ∧ L ≤ g ∧ n ≤ cap ∧ IRow w g n xs := by
  have h2 := h
  obtain ⟨hl, h⟩ := h
  rcases h with ⟨_, h0⟩ | ⟨b, cap, cur, rfl, hb, hh, hn', hm, hs, ht⟩
  · omega
  · obtain ⟨g, cp, e, hg, hr⟩ := irow_own h2 hn
    injection e with e1 e2 e3
    injection e1 with e1
    injection e1 with e1 e4 e5
    subst e1
    exact ⟨b, cap, rfl, hg, hn', hr⟩
/-- A new list of numbers, whose capacity holds them. -/
def MadeNC (n : Nat) (xs : Nat → Int) (w : World) (e : Ending) (w' : World) : Prop :=
  ∃ g cap, e = .returned (.slice (some ⟨g, 0, none⟩) n cap) ∧ w.heap.size ≤ g ∧ n ≤ cap ∧ IRow w' g n xs ∧ Below w.heap.size w w'

set_option maxRecDepth 100000 in
set_option maxHeartbeats 4000000 in
theorem bandsAtC_any (f : Nat → Int) (g n cap : Nat) (xs : Nat → Int) (hn0 : 0 < n) (hn : n ≤ 100) (hx : ∀ j, j < n → 0 ≤ xs j ∧ xs j ≤ 36) (w : World) (hr : IRow w g n xs) :
    Calls Tryd.prog 89 #[.agg (arrV .i64 37 f), .slice (some ⟨g, 0, none⟩) n cap] w (MadeNC n (fun j => f (xs j).toNat) w) := by
  have hlt := hr.lt
  have a0 := HasArr.new w 104 .i64 37 f
  have k0 := (Below.refl w.heap.size w).alloc (Nat.le_refl _) (.cells (arrV .i64 37 f) 104)
  have o1 := World.ownsRow_lit (size := 1) (e := 2) (base := w.heap.size + 1) (w.alloc (.cells (arrV .i64 37 f) 104)) #[] 0 (by simp) (Nat.zero_le _) rfl
  simp only [World.size_alloc] at o1
  have a1 := a0.alloc (.cells #[] 2)
  have k1 := k0.alloc k0.size (.cells #[] 2)
  have hat := fun k hk W => shAt_any f k hk W
  have hG : ∀ j, (fun j => f (xs j).toNat) j = f (xs j).toNat := fun _ => rfl
  generalize (fun j => f (xs j).toNat) = G at *
  have Hat := Lib.hid hat; clear hat
  have HG := Lib.hid hG; clear hG
  have Hx := Lib.hid hx; clear hx
  go_enter Tryd.func89, Tryd.ntmps89
  go_wp2_with fail
  go_loopw [5, 11] (fun lv iv wr => ∃ k : Nat, iv = .int .i64 k ∧ k ≤ n ∧ wr.ownsRow (w.heap.size + 1) 2 1 lv k (tabV G k) ∧ HasArr wr w.heap.size 104 .i64 37 f ∧ Below w.heap.size w wr) (fun _ iv _ => n - (intOf iv).toNat)
  case atStart => exact ⟨0, rfl, by omega, o1, a1, k1⟩
  case round =>
    clear o1 a0 a1 k0 k1
    obtain ⟨k, rfl, hk, hown, hA, k2⟩ := hrel
    by_cases hkn : k < n
    rotate_left
    · obtain rfl : k = n := by omega
      obtain ⟨g', cap', rfl, hg', hcp, hrow'⟩ := irow_ownC hown (by omega)
      go_wp2_with fail
      go_ret
      exact ⟨g', cap', rfl, by omega, hcp, hrow', k2⟩
    have kn : (k : Int) < (n : Int) := by omega
    have c1 := (hr.below k2 hlt).cell hkn
    have hxk := Hx.out k hkn
    have hgk := HG.out k
    obtain ⟨m, hm⟩ : ∃ m : Nat, xs k = (m : Int) := ⟨(xs k).toNat, by omega⟩
    rw [hm] at c1 hxk hgk
    clear hm
    have hm37 : m < 37 := by omega
    have htn : ((m : Int)).toNat = m := by omega
    rw [htn] at hgk
    clear htn
    have hv := Hat.out m hm37
    generalize f m = V at hv hgk
    have HV := Lib.hid hgk; clear hgk
    have Hv := Lib.hid hv; clear hv
    have z2 := k2.size
    have hAl := hA.lt
    have hfar := fun jj hjj => hown.lt jj hjj
    go_wp2_with (refine wpList_load_arr hA _ _ rfl rfl rfl Tryd.underlying104 sizeShades ?_)
    refine (Hv.out _).mono ?_; rintro x w3 ⟨rfl, hb3⟩
    have k3 := k2.trans (hb3.mono k2.size)
    have own3 := own_belowT hown hb3
    have A3 := hA.below hb3 hA.lt
    have z3 := hb3.size
    clear hb3 k2 hown hA c1
    go_wp2_with (at_builtin; refine wpList_append1 rfl _ _ rfl rfl own3 rfl (by omega) (by omega) HV.out ?_)
    intro v' w5 hown5 hg2 hat
    have A5 := A3.farS hg2 (fun e => by have := (hfar _ e.symm).1; omega)
    have k5 : Below w.heap.size w w5 := k3.grown hg2 k3.size (fun jj hjj => by have := (hfar jj hjj).1; omega)
    clear hg2 k3 own3 A3 hat
    go_wp2_with fail
    go_roundw
    case rel => exact ⟨k + 1, by go_num, by omega, hown5, A5, k5⟩
    case measure => simp [intOf]; omega

theorem step_load_arrB {P : Program} {ops : Array Oper} {o : Oper} {a : Act} {w : World} {K : Act → World → Prop} {Q : Exit → Act → World → Prop} {E : Prop} {b : Nat} {T : TypeId} {κ : IntKind} {n : Nat} {f : Nat → Int} {m : Nat} {e : TypeId}
    (h : HasArr w b T κ n f) (hg : o.guard = none) (ty : TypeId) (x : Operand) (ho : o.op = .load ty x) (hx : a.eval x = .pointer (some ⟨b, 0, none⟩)) (hu : P.underlying ty = some (.array m e)) (hi : (P.info? ty).map (·.size) = some n)
    (hK : K (a.put o.dst (.agg (arrV κ n f))) w) : if Region.wanted o (yielded ops a.tmps) = true then Oper.wp P o a w K Q else E := by
  have hw : Region.wanted o (yielded ops a.tmps) = true := by simp [Region.wanted, hg]
  rw [if_pos hw]
  exact wp_load_row ty x ho b hx T _ (0, 0) _ h hu rfl (by rw [arrV_size]; exact hi) hK

/-- A block of two numbers that may be written. -/
structure TwoAt (w : World) (g : Nat) (x y : Int) : Prop where
  c0 : w.cell? ⟨g, 0, none⟩ = some (.int .i64 x)
  c1 : w.cell? ⟨g, 1, none⟩ = some (.int .i64 y)
  fz : ∀ o, w.frozen? ⟨g, o, none⟩ = false
theorem TwoAt.lt {w : World} {g : Nat} {x y : Int} (h : TwoAt w g x y) : g < w.heap.size := World.block_lt_of_cell? w _ h.c0
theorem TwoAt.below {w w' : World} {g : Nat} {x y : Int} {B : Nat} (h : TwoAt w g x y) (hb : Below B w w') (hB : g < B) : TwoAt w' g x y :=
  ⟨(hb.cell (p := ⟨g, 0, none⟩) hB).trans h.c0, (hb.cell (p := ⟨g, 1, none⟩) hB).trans h.c1, fun o => (hb.frozen (p := ⟨g, o, none⟩) hB).trans (h.fz o)⟩
theorem TwoAt.new (w : World) (t : TypeId) (x y : Int) : TwoAt (w.alloc (.cells #[.int .i64 x, .int .i64 y] t)) w.heap.size x y := ⟨by simp, by simp, fun o => by simp⟩

/-! ### PLAIN -/
theorem fstK_congr {n : Nat} {xs ys : Nat → Int} {t : Int} (h : ∀ j, j < n → xs j = ys j) : fstK n xs t = fstK n ys t := by
  unfold fstK
  have hs := firstK_spec (n := n) (q := fun j => decide (t ≤ ys j))
  refine firstK_eq hs.1 (fun j hj => ?_) (fun hlt => ?_)
  · have h1 := hs.2.1 j hj
    rw [h j (by have := hs.1; omega)]; exact h1
  · have h1 := hs.2.2 hlt
    show decide (t ≤ xs (firstK (fun j => decide (t ≤ ys j)) n)) = true
    rw [h _ hlt]; exact h1
theorem fstK_ahead {n : Nat} {xs : Nat → Int} {t : Int} {j : Nat} (h : j < fstK n xs t) : xs j < t := by
  have := (firstK_spec (n := n) (q := fun j => decide (t ≤ xs j))).2.1 j h
  simp at this; omega
theorem fstK_at {n : Nat} {xs : Nat → Int} {t : Int} (h : fstK n xs t < n) : t ≤ xs (fstK n xs t) := by
  unfold fstK at *
  have := (firstK_spec (n := n) (q := fun j => decide (t ≤ xs j))).2.2 h
  simpa using this
section
variable {f : Nat → Int} {y : Int} (hm : ∀ i j : Nat, i ≤ j → f i ≤ f j)
include hm
omit hm in
theorem bys_0 (h : fstK 6 (fun j => f (6 * j)) y = 0) : leaK f y = 0 := by
  have h1 := fstK_at (n := 6) (xs := fun j => f (6 * j)) (t := y) (by omega)
  rw [h] at h1
  exact firstK_eq (by omega) (fun j hj => by omega) (fun _ => by simpa using h1)
theorem bys_no {m : Nat} (h : fstK 6 (fun j => f (6 * j)) y = m) (h0 : m ≠ 0) (h2 : fstK 6 (fun j => f (6 * (m - 1) + 1 + j)) y = 6) : leaK f y = 37 := by
  have hle := fstK_le 6 (fun j => f (6 * j)) y
  have h6 : m = 6 := by
    rcases Nat.lt_or_ge m 6 with h3 | h3
    · have h4 := fstK_at (n := 6) (xs := fun j => f (6 * j)) (t := y) (by omega)
      rw [h] at h4
      have h5 := fstK_ahead (n := 6) (xs := fun j => f (6 * (m - 1) + 1 + j)) (t := y) (j := 5) (by omega)
      try simp only at h4 h5
      rw [show 6 * (m - 1) + 1 + 5 = 6 * m by omega] at h5
      omega
    · omega
  subst h6
  have h5 := fstK_ahead (n := 6) (xs := fun j => f (6 * (6 - 1) + 1 + j)) (t := y) (j := 5) (by omega)
  try simp only [Nat.reduceAdd, Nat.reduceMul, Nat.reduceSub] at h5
  refine firstK_eq (Nat.le_refl _) (fun j hj => ?_) (fun h => by omega)
  have := hm j 36 (by omega)
  simp; omega
theorem bys_yes {m r : Nat} (h : fstK 6 (fun j => f (6 * j)) y = m) (h0 : m ≠ 0) (h2 : fstK 6 (fun j => f (6 * (m - 1) + 1 + j)) y = r) (h3 : r < 6) : leaK f y = 6 * (m - 1) + 1 + r ∧ 6 * (m - 1) + 1 + r < 37 := by
  have hle := fstK_le 6 (fun j => f (6 * j)) y
  have hlo := fstK_ahead (n := 6) (xs := fun j => f (6 * j)) (t := y) (j := m - 1) (by omega)
  have hhi := fstK_at (n := 6) (xs := fun j => f (6 * (m - 1) + 1 + j)) (t := y) (by omega)
  rw [h2] at hhi
  try simp only at hlo hhi
  refine ⟨firstK_eq (by omega) (fun j hj => ?_) (fun _ => by simpa using hhi), by omega⟩
  rcases Nat.lt_or_ge j (6 * (m - 1) + 1) with h4 | h4
  · have := hm j (6 * (m - 1)) (by omega)
    simp; omega
  · have h5 := fstK_ahead (n := 6) (xs := fun j => f (6 * (m - 1) + 1 + j)) (t := y) (j := j - (6 * (m - 1) + 1)) (by omega)
    try simp only at h5
    rw [show 6 * (m - 1) + 1 + (j - (6 * (m - 1) + 1)) = j by omega] at h5
    simp; omega
end
/-- How many strips there were, and the code. -/
def bysS (k : Nat) : Int := if k = 0 then 1 else 2
def bysC (n : Nat) (xs ys : Nat → Int) (d y : Int) : Int := if validC n xs ys = true then (if (inB d 0 400 && inB y 0 400) = true then leaC (shdF n xs ys d) y else 2) else 1
theorem bys_c1 {n : Nat} {xs ys : Nat → Int} {d y : Int} (h : validC n xs ys = false) : bysC n xs ys d y = 1 := by simp [bysC, h]
theorem bys_c2 {n : Nat} {xs ys : Nat → Int} {d y : Int} (h : validC n xs ys = true) (h2 : inB d 0 400 = false) : bysC n xs ys d y = 2 := by simp [bysC, h, h2]
theorem bys_c2' {n : Nat} {xs ys : Nat → Int} {d y : Int} (h : validC n xs ys = true) (h2 : inB y 0 400 = false) : bysC n xs ys d y = 2 := by simp [bysC, h, h2]
theorem bys_c0 {n : Nat} {xs ys : Nat → Int} {d y : Int} (h : validC n xs ys = true) (h2 : inB d 0 400 = true) (h3 : inB y 0 400 = true) : bysC n xs ys d y = leaC (shdF n xs ys d) y := by simp [bysC, h, h2, h3]

/-! ### THE PROGRAM'S COUNT OF THE BANDS AHEAD -/
set_option maxRecDepth 100000 in
set_option maxHeartbeats 4000000 in
theorem bys1_any (A q : Nat) (f : Nat → Int) (y a b c : Int) (h : StOk a b c) (w : World) (hA : HasArr w A 104 .i64 37 f) (hq : w.cell? ⟨q, 0, none⟩ = some (.int .i64 y)) :
    Calls Tryd.prog 99 #[stV a b c, .pointer (some ⟨A, 0, none⟩), .pointer (some ⟨q, 0, none⟩)] w fun e w' => e = .returned (.int .i64 (fstK c.toNat (fun j : Nat => f ((fun i : Nat => a + b * (i : Int)) j).toNat) y : Nat)) ∧ Below w.heap.size w w' := by
  have hl := fun W => stLights_any a b c h W
  have hc0 := h.c0; have hc1 := h.c1
  have hbd : ∀ j : Nat, j < c.toNat → 0 ≤ (fun j : Nat => a + b * (j : Int)) j ∧ (fun j : Nat => a + b * (j : Int)) j ≤ 36 := fun j hj => h.light (k := j) (by omega) (by omega)
  generalize (fun j : Nat => a + b * (j : Int)) = F at *
  have hba := fun gg cp W hW => bandsAtC_any f gg c.toNat cp F (by omega) (by omega) hbd W hW
  have hah := fun gg cp hcp W hW => bandsAhead_any gg c.toNat cp (fun j : Nat => f (F j).toNat) y (by omega) hcp W hW
  generalize (fun j : Nat => f (F j).toNat) = G at *
  generalize fstK c.toNat G y = K at *
  have Hl := Lib.hid hl; clear hl
  have Hba := Lib.hid hba; clear hba
  have Hah := Lib.hid hah; clear hah
  have k0 : Below w.heap.size w (w.alloc (.cells #[.int .i8 a, .int .i8 b, .int .i8 c] 28)) := (Below.refl _ _).alloc (Nat.le_refl _) _
  have S0 := StAt.new w 28 a b c
  have A0 := hA.alloc (.cells #[.int .i8 a, .int .i8 b, .int .i8 c] 28)
  have q0 := below_cellOf ((Below.refl w.heap.size w).alloc (Nat.le_refl _) (.cells #[.int .i8 a, .int .i8 b, .int .i8 c] 28)) hq (Nat.le_refl _)
  clear hA hq h
  go_enter Tryd.func99, Tryd.ntmps99
  go_wp2_with fail
  generalize w.alloc (.cells #[.int .i8 a, .int .i8 b, .int .i8 c] 28) = W at *
  obtain ⟨s0, s1, s2⟩ := S0
  have A0d : HasArr W.drew A 104 .i64 37 f := A0
  have q0d : W.drew.cell? ⟨q, 0, none⟩ = some (.int .i64 y) := q0
  refine wp_region_any (by kernel_rfl) ?_
  change wpAny _ _ _ _ _ _ _ (World.drew _)
  refine wpAny_ready (rs := [0, 1, 4]) (by kernel_rfl) (by simp) ?_
  refine AllReady.cons rfl (fun K hK => ?_) (AllReady.cons rfl (fun K hK => ?_) (AllReady.cons rfl (fun K hK => ?_) AllReady.nil))
  · refine step_load_arrB A0d rfl _ _ rfl rfl Tryd.underlying104 sizeShades ?_
    refine hK _ _ ?_; clear hK K
    refine wpAny_ready (rs := [1, 4]) (by kernel_rfl) (by simp) ?_
    refine AllReady.cons rfl (fun K hK => ?_) (AllReady.cons rfl (fun K hK => ?_) AllReady.nil)
    · go_simp
      refine hK _ _ ?_; clear hK K
      refine wpAny_ready (rs := [2, 4]) (by kernel_rfl) (by simp) ?_
      refine AllReady.cons rfl (fun K hK => ?_) (AllReady.cons rfl (fun K hK => ?_) AllReady.nil)
      · go_simp
        go_wp2_with (go_at_call 50; refine (Hl.out _).mono ?_; rintro x w3 ⟨g3, cp3, rfl, hg3, hrow3, hb3⟩; have A3 := A0d.below hb3 A0d.lt; have q3 := below_cellOf hb3 q0d (Nat.le_refl _); have k3 := (k0.drew).trans (hb3.mono k0.size))
        refine wpAny_ready (rs := [3, 4]) (by kernel_rfl) (by simp) ?_
        refine AllReady.cons rfl (fun K hK => ?_) (AllReady.cons rfl (fun K hK => ?_) AllReady.nil)
        · go_simp
          go_wp2_with (go_at_call 89; refine (Hba.out _ _ _ hrow3).mono ?_; rintro x w4 ⟨g4, cp4, rfl, hg4, hcp4, hrow4, hb4⟩; have q4 := below_cellOf hb4 q3 (Nat.le_refl _); have k4 := k3.trans (hb4.mono k3.size))
          refine wpAny_ready (rs := [4]) (by kernel_rfl) (by simp) ?_
          refine AllReady.cons rfl (fun K hK => ?_) AllReady.nil
          go_simp
          refine hK _ _ ?_; clear hK K
          refine wpAny_ready (rs := [5]) (by kernel_rfl) (by simp) ?_
          refine AllReady.cons rfl (fun K hK => ?_) AllReady.nil
          go_simp
          go_wp2_with (go_at_call 95; refine (Hah.out _ _ hcp4 _ hrow4).mono ?_; rintro x w5 ⟨⟨AA, cc, rfl⟩, rfl⟩)
          refine wpAny_ready (rs := [6]) (by kernel_rfl) (by simp) ?_
          refine AllReady.cons rfl (fun K hK => ?_) AllReady.nil
          go_simp
          refine hK _ _ ?_; clear hK K
          refine wpAny_ready (rs := [7]) (by kernel_rfl) (by simp) ?_
          refine AllReady.cons rfl (fun K hK => ?_) AllReady.nil
          go_simp
          refine hK _ _ ?_; clear hK K
          refine wpAny_done (by kernel_rfl) ?_ _
          go_wp2
          go_ret
          exact ⟨rfl, k4⟩
        · go_simp
          refine hK _ _ ?_; clear hK K
          refine wpAny_ready (rs := [3]) (by kernel_rfl) (by simp) ?_
          refine AllReady.cons rfl (fun K hK => ?_) AllReady.nil
          go_simp
          go_wp2_with (go_at_call 89; refine (Hba.out _ _ _ hrow3).mono ?_; rintro x w4 ⟨g4, cp4, rfl, hg4, hcp4, hrow4, hb4⟩; have q4 := below_cellOf hb4 q3 (Nat.le_refl _); have k4 := k3.trans (hb4.mono k3.size))
          refine wpAny_ready (rs := [5]) (by kernel_rfl) (by simp) ?_
          refine AllReady.cons rfl (fun K hK => ?_) AllReady.nil
          go_simp
          go_wp2_with (go_at_call 95; refine (Hah.out _ _ hcp4 _ hrow4).mono ?_; rintro x w5 ⟨⟨AA, cc, rfl⟩, rfl⟩)
          refine wpAny_ready (rs := [6]) (by kernel_rfl) (by simp) ?_
          refine AllReady.cons rfl (fun K hK => ?_) AllReady.nil
          go_simp
          refine hK _ _ ?_; clear hK K
          refine wpAny_ready (rs := [7]) (by kernel_rfl) (by simp) ?_
          refine AllReady.cons rfl (fun K hK => ?_) AllReady.nil
          go_simp
          refine hK _ _ ?_; clear hK K
          refine wpAny_done (by kernel_rfl) ?_ _
          go_wp2
          go_ret
          exact ⟨rfl, k4⟩
      · go_simp
        refine hK _ _ ?_; clear hK K
        refine wpAny_ready (rs := [2]) (by kernel_rfl) (by simp) ?_
        refine AllReady.cons rfl (fun K hK => ?_) AllReady.nil
        go_simp
        go_wp2_with (go_at_call 50; refine (Hl.out _).mono ?_; rintro x w3 ⟨g3, cp3, rfl, hg3, hrow3, hb3⟩; have A3 := A0d.below hb3 A0d.lt; have q3 := below_cellOf hb3 q0d (Nat.le_refl _); have k3 := (k0.drew).trans (hb3.mono k0.size))
        refine wpAny_ready (rs := [3]) (by kernel_rfl) (by simp) ?_
        refine AllReady.cons rfl (fun K hK => ?_) AllReady.nil
        go_simp
        go_wp2_with (go_at_call 89; refine (Hba.out _ _ _ hrow3).mono ?_; rintro x w4 ⟨g4, cp4, rfl, hg4, hcp4, hrow4, hb4⟩; have q4 := below_cellOf hb4 q3 (Nat.le_refl _); have k4 := k3.trans (hb4.mono k3.size))
        refine wpAny_ready (rs := [5]) (by kernel_rfl) (by simp) ?_
        refine AllReady.cons rfl (fun K hK => ?_) AllReady.nil
        go_simp
        go_wp2_with (go_at_call 95; refine (Hah.out _ _ hcp4 _ hrow4).mono ?_; rintro x w5 ⟨⟨AA, cc, rfl⟩, rfl⟩)
        refine wpAny_ready (rs := [6]) (by kernel_rfl) (by simp) ?_
        refine AllReady.cons rfl (fun K hK => ?_) AllReady.nil
        go_simp
        refine hK _ _ ?_; clear hK K
        refine wpAny_ready (rs := [7]) (by kernel_rfl) (by simp) ?_
        refine AllReady.cons rfl (fun K hK => ?_) AllReady.nil
        go_simp
        refine hK _ _ ?_; clear hK K
        refine wpAny_done (by kernel_rfl) ?_ _
        go_wp2
        go_ret
        exact ⟨rfl, k4⟩
    · go_simp
      refine hK _ _ ?_; clear hK K
      refine wpAny_ready (rs := [1]) (by kernel_rfl) (by simp) ?_
      refine AllReady.cons rfl (fun K hK => ?_) AllReady.nil
      go_simp
      refine hK _ _ ?_; clear hK K
      refine wpAny_ready (rs := [2]) (by kernel_rfl) (by simp) ?_
      refine AllReady.cons rfl (fun K hK => ?_) AllReady.nil
      go_simp
      go_wp2_with (go_at_call 50; refine (Hl.out _).mono ?_; rintro x w3 ⟨g3, cp3, rfl, hg3, hrow3, hb3⟩; have A3 := A0d.below hb3 A0d.lt; have q3 := below_cellOf hb3 q0d (Nat.le_refl _); have k3 := (k0.drew).trans (hb3.mono k0.size))
      refine wpAny_ready (rs := [3]) (by kernel_rfl) (by simp) ?_
      refine AllReady.cons rfl (fun K hK => ?_) AllReady.nil
      go_simp
      go_wp2_with (go_at_call 89; refine (Hba.out _ _ _ hrow3).mono ?_; rintro x w4 ⟨g4, cp4, rfl, hg4, hcp4, hrow4, hb4⟩; have q4 := below_cellOf hb4 q3 (Nat.le_refl _); have k4 := k3.trans (hb4.mono k3.size))
      refine wpAny_ready (rs := [5]) (by kernel_rfl) (by simp) ?_
      refine AllReady.cons rfl (fun K hK => ?_) AllReady.nil
      go_simp
      go_wp2_with (go_at_call 95; refine (Hah.out _ _ hcp4 _ hrow4).mono ?_; rintro x w5 ⟨⟨AA, cc, rfl⟩, rfl⟩)
      refine wpAny_ready (rs := [6]) (by kernel_rfl) (by simp) ?_
      refine AllReady.cons rfl (fun K hK => ?_) AllReady.nil
      go_simp
      refine hK _ _ ?_; clear hK K
      refine wpAny_ready (rs := [7]) (by kernel_rfl) (by simp) ?_
      refine AllReady.cons rfl (fun K hK => ?_) AllReady.nil
      go_simp
      refine hK _ _ ?_; clear hK K
      refine wpAny_done (by kernel_rfl) ?_ _
      go_wp2
      go_ret
      exact ⟨rfl, k4⟩
  · go_simp
    refine hK _ _ ?_; clear hK K
    refine wpAny_ready (rs := [0, 2, 4]) (by kernel_rfl) (by simp) ?_
    refine AllReady.cons rfl (fun K hK => ?_) (AllReady.cons rfl (fun K hK => ?_) (AllReady.cons rfl (fun K hK => ?_) AllReady.nil))
    · refine step_load_arrB A0d rfl _ _ rfl rfl Tryd.underlying104 sizeShades ?_
      refine hK _ _ ?_; clear hK K
      refine wpAny_ready (rs := [2, 4]) (by kernel_rfl) (by simp) ?_
      refine AllReady.cons rfl (fun K hK => ?_) (AllReady.cons rfl (fun K hK => ?_) AllReady.nil)
      · go_simp
        go_wp2_with (go_at_call 50; refine (Hl.out _).mono ?_; rintro x w3 ⟨g3, cp3, rfl, hg3, hrow3, hb3⟩; have A3 := A0d.below hb3 A0d.lt; have q3 := below_cellOf hb3 q0d (Nat.le_refl _); have k3 := (k0.drew).trans (hb3.mono k0.size))
        refine wpAny_ready (rs := [3, 4]) (by kernel_rfl) (by simp) ?_
        refine AllReady.cons rfl (fun K hK => ?_) (AllReady.cons rfl (fun K hK => ?_) AllReady.nil)
        · go_simp
          go_wp2_with (go_at_call 89; refine (Hba.out _ _ _ hrow3).mono ?_; rintro x w4 ⟨g4, cp4, rfl, hg4, hcp4, hrow4, hb4⟩; have q4 := below_cellOf hb4 q3 (Nat.le_refl _); have k4 := k3.trans (hb4.mono k3.size))
          refine wpAny_ready (rs := [4]) (by kernel_rfl) (by simp) ?_
          refine AllReady.cons rfl (fun K hK => ?_) AllReady.nil
          go_simp
          refine hK _ _ ?_; clear hK K
          refine wpAny_ready (rs := [5]) (by kernel_rfl) (by simp) ?_
          refine AllReady.cons rfl (fun K hK => ?_) AllReady.nil
          go_simp
          go_wp2_with (go_at_call 95; refine (Hah.out _ _ hcp4 _ hrow4).mono ?_; rintro x w5 ⟨⟨AA, cc, rfl⟩, rfl⟩)
          refine wpAny_ready (rs := [6]) (by kernel_rfl) (by simp) ?_
          refine AllReady.cons rfl (fun K hK => ?_) AllReady.nil
          go_simp
          refine hK _ _ ?_; clear hK K
          refine wpAny_ready (rs := [7]) (by kernel_rfl) (by simp) ?_
          refine AllReady.cons rfl (fun K hK => ?_) AllReady.nil
          go_simp
          refine hK _ _ ?_; clear hK K
          refine wpAny_done (by kernel_rfl) ?_ _
          go_wp2
          go_ret
          exact ⟨rfl, k4⟩
        · go_simp
          refine hK _ _ ?_; clear hK K
          refine wpAny_ready (rs := [3]) (by kernel_rfl) (by simp) ?_
          refine AllReady.cons rfl (fun K hK => ?_) AllReady.nil
          go_simp
          go_wp2_with (go_at_call 89; refine (Hba.out _ _ _ hrow3).mono ?_; rintro x w4 ⟨g4, cp4, rfl, hg4, hcp4, hrow4, hb4⟩; have q4 := below_cellOf hb4 q3 (Nat.le_refl _); have k4 := k3.trans (hb4.mono k3.size))
          refine wpAny_ready (rs := [5]) (by kernel_rfl) (by simp) ?_
          refine AllReady.cons rfl (fun K hK => ?_) AllReady.nil
          go_simp
          go_wp2_with (go_at_call 95; refine (Hah.out _ _ hcp4 _ hrow4).mono ?_; rintro x w5 ⟨⟨AA, cc, rfl⟩, rfl⟩)
          refine wpAny_ready (rs := [6]) (by kernel_rfl) (by simp) ?_
          refine AllReady.cons rfl (fun K hK => ?_) AllReady.nil
          go_simp
          refine hK _ _ ?_; clear hK K
          refine wpAny_ready (rs := [7]) (by kernel_rfl) (by simp) ?_
          refine AllReady.cons rfl (fun K hK => ?_) AllReady.nil
          go_simp
          refine hK _ _ ?_; clear hK K
          refine wpAny_done (by kernel_rfl) ?_ _
          go_wp2
          go_ret
          exact ⟨rfl, k4⟩
      · go_simp
        refine hK _ _ ?_; clear hK K
        refine wpAny_ready (rs := [2]) (by kernel_rfl) (by simp) ?_
        refine AllReady.cons rfl (fun K hK => ?_) AllReady.nil
        go_simp
        go_wp2_with (go_at_call 50; refine (Hl.out _).mono ?_; rintro x w3 ⟨g3, cp3, rfl, hg3, hrow3, hb3⟩; have A3 := A0d.below hb3 A0d.lt; have q3 := below_cellOf hb3 q0d (Nat.le_refl _); have k3 := (k0.drew).trans (hb3.mono k0.size))
        refine wpAny_ready (rs := [3]) (by kernel_rfl) (by simp) ?_
        refine AllReady.cons rfl (fun K hK => ?_) AllReady.nil
        go_simp
        go_wp2_with (go_at_call 89; refine (Hba.out _ _ _ hrow3).mono ?_; rintro x w4 ⟨g4, cp4, rfl, hg4, hcp4, hrow4, hb4⟩; have q4 := below_cellOf hb4 q3 (Nat.le_refl _); have k4 := k3.trans (hb4.mono k3.size))
        refine wpAny_ready (rs := [5]) (by kernel_rfl) (by simp) ?_
        refine AllReady.cons rfl (fun K hK => ?_) AllReady.nil
        go_simp
        go_wp2_with (go_at_call 95; refine (Hah.out _ _ hcp4 _ hrow4).mono ?_; rintro x w5 ⟨⟨AA, cc, rfl⟩, rfl⟩)
        refine wpAny_ready (rs := [6]) (by kernel_rfl) (by simp) ?_
        refine AllReady.cons rfl (fun K hK => ?_) AllReady.nil
        go_simp
        refine hK _ _ ?_; clear hK K
        refine wpAny_ready (rs := [7]) (by kernel_rfl) (by simp) ?_
        refine AllReady.cons rfl (fun K hK => ?_) AllReady.nil
        go_simp
        refine hK _ _ ?_; clear hK K
        refine wpAny_done (by kernel_rfl) ?_ _
        go_wp2
        go_ret
        exact ⟨rfl, k4⟩
    · go_simp
      go_wp2_with (go_at_call 50; refine (Hl.out _).mono ?_; rintro x w3 ⟨g3, cp3, rfl, hg3, hrow3, hb3⟩; have A3 := A0d.below hb3 A0d.lt; have q3 := below_cellOf hb3 q0d (Nat.le_refl _); have k3 := (k0.drew).trans (hb3.mono k0.size))
      refine wpAny_ready (rs := [0, 4]) (by kernel_rfl) (by simp) ?_
      refine AllReady.cons rfl (fun K hK => ?_) (AllReady.cons rfl (fun K hK => ?_) AllReady.nil)
      · refine step_load_arrB A3 rfl _ _ rfl rfl Tryd.underlying104 sizeShades ?_
        refine hK _ _ ?_; clear hK K
        refine wpAny_ready (rs := [3, 4]) (by kernel_rfl) (by simp) ?_
        refine AllReady.cons rfl (fun K hK => ?_) (AllReady.cons rfl (fun K hK => ?_) AllReady.nil)
        · go_simp
          go_wp2_with (go_at_call 89; refine (Hba.out _ _ _ hrow3).mono ?_; rintro x w4 ⟨g4, cp4, rfl, hg4, hcp4, hrow4, hb4⟩; have q4 := below_cellOf hb4 q3 (Nat.le_refl _); have k4 := k3.trans (hb4.mono k3.size))
          refine wpAny_ready (rs := [4]) (by kernel_rfl) (by simp) ?_
          refine AllReady.cons rfl (fun K hK => ?_) AllReady.nil
          go_simp
          refine hK _ _ ?_; clear hK K
          refine wpAny_ready (rs := [5]) (by kernel_rfl) (by simp) ?_
          refine AllReady.cons rfl (fun K hK => ?_) AllReady.nil
          go_simp
          go_wp2_with (go_at_call 95; refine (Hah.out _ _ hcp4 _ hrow4).mono ?_; rintro x w5 ⟨⟨AA, cc, rfl⟩, rfl⟩)
          refine wpAny_ready (rs := [6]) (by kernel_rfl) (by simp) ?_
          refine AllReady.cons rfl (fun K hK => ?_) AllReady.nil
          go_simp
          refine hK _ _ ?_; clear hK K
          refine wpAny_ready (rs := [7]) (by kernel_rfl) (by simp) ?_
          refine AllReady.cons rfl (fun K hK => ?_) AllReady.nil
          go_simp
          refine hK _ _ ?_; clear hK K
          refine wpAny_done (by kernel_rfl) ?_ _
          go_wp2
          go_ret
          exact ⟨rfl, k4⟩
        · go_simp
          refine hK _ _ ?_; clear hK K
          refine wpAny_ready (rs := [3]) (by kernel_rfl) (by simp) ?_
          refine AllReady.cons rfl (fun K hK => ?_) AllReady.nil
          go_simp
          go_wp2_with (go_at_call 89; refine (Hba.out _ _ _ hrow3).mono ?_; rintro x w4 ⟨g4, cp4, rfl, hg4, hcp4, hrow4, hb4⟩; have q4 := below_cellOf hb4 q3 (Nat.le_refl _); have k4 := k3.trans (hb4.mono k3.size))
          refine wpAny_ready (rs := [5]) (by kernel_rfl) (by simp) ?_
          refine AllReady.cons rfl (fun K hK => ?_) AllReady.nil
          go_simp
          go_wp2_with (go_at_call 95; refine (Hah.out _ _ hcp4 _ hrow4).mono ?_; rintro x w5 ⟨⟨AA, cc, rfl⟩, rfl⟩)
          refine wpAny_ready (rs := [6]) (by kernel_rfl) (by simp) ?_
          refine AllReady.cons rfl (fun K hK => ?_) AllReady.nil
          go_simp
          refine hK _ _ ?_; clear hK K
          refine wpAny_ready (rs := [7]) (by kernel_rfl) (by simp) ?_
          refine AllReady.cons rfl (fun K hK => ?_) AllReady.nil
          go_simp
          refine hK _ _ ?_; clear hK K
          refine wpAny_done (by kernel_rfl) ?_ _
          go_wp2
          go_ret
          exact ⟨rfl, k4⟩
      · go_simp
        refine hK _ _ ?_; clear hK K
        refine wpAny_ready (rs := [0]) (by kernel_rfl) (by simp) ?_
        refine AllReady.cons rfl (fun K hK => ?_) AllReady.nil
        refine step_load_arrB A3 rfl _ _ rfl rfl Tryd.underlying104 sizeShades ?_
        refine hK _ _ ?_; clear hK K
        refine wpAny_ready (rs := [3]) (by kernel_rfl) (by simp) ?_
        refine AllReady.cons rfl (fun K hK => ?_) AllReady.nil
        go_simp
        go_wp2_with (go_at_call 89; refine (Hba.out _ _ _ hrow3).mono ?_; rintro x w4 ⟨g4, cp4, rfl, hg4, hcp4, hrow4, hb4⟩; have q4 := below_cellOf hb4 q3 (Nat.le_refl _); have k4 := k3.trans (hb4.mono k3.size))
        refine wpAny_ready (rs := [5]) (by kernel_rfl) (by simp) ?_
        refine AllReady.cons rfl (fun K hK => ?_) AllReady.nil
        go_simp
        go_wp2_with (go_at_call 95; refine (Hah.out _ _ hcp4 _ hrow4).mono ?_; rintro x w5 ⟨⟨AA, cc, rfl⟩, rfl⟩)
        refine wpAny_ready (rs := [6]) (by kernel_rfl) (by simp) ?_
        refine AllReady.cons rfl (fun K hK => ?_) AllReady.nil
        go_simp
        refine hK _ _ ?_; clear hK K
        refine wpAny_ready (rs := [7]) (by kernel_rfl) (by simp) ?_
        refine AllReady.cons rfl (fun K hK => ?_) AllReady.nil
        go_simp
        refine hK _ _ ?_; clear hK K
        refine wpAny_done (by kernel_rfl) ?_ _
        go_wp2
        go_ret
        exact ⟨rfl, k4⟩
    · go_simp
      refine hK _ _ ?_; clear hK K
      refine wpAny_ready (rs := [0, 2]) (by kernel_rfl) (by simp) ?_
      refine AllReady.cons rfl (fun K hK => ?_) (AllReady.cons rfl (fun K hK => ?_) AllReady.nil)
      · refine step_load_arrB A0d rfl _ _ rfl rfl Tryd.underlying104 sizeShades ?_
        refine hK _ _ ?_; clear hK K
        refine wpAny_ready (rs := [2]) (by kernel_rfl) (by simp) ?_
        refine AllReady.cons rfl (fun K hK => ?_) AllReady.nil
        go_simp
        go_wp2_with (go_at_call 50; refine (Hl.out _).mono ?_; rintro x w3 ⟨g3, cp3, rfl, hg3, hrow3, hb3⟩; have A3 := A0d.below hb3 A0d.lt; have q3 := below_cellOf hb3 q0d (Nat.le_refl _); have k3 := (k0.drew).trans (hb3.mono k0.size))
        refine wpAny_ready (rs := [3]) (by kernel_rfl) (by simp) ?_
        refine AllReady.cons rfl (fun K hK => ?_) AllReady.nil
        go_simp
        go_wp2_with (go_at_call 89; refine (Hba.out _ _ _ hrow3).mono ?_; rintro x w4 ⟨g4, cp4, rfl, hg4, hcp4, hrow4, hb4⟩; have q4 := below_cellOf hb4 q3 (Nat.le_refl _); have k4 := k3.trans (hb4.mono k3.size))
        refine wpAny_ready (rs := [5]) (by kernel_rfl) (by simp) ?_
        refine AllReady.cons rfl (fun K hK => ?_) AllReady.nil
        go_simp
        go_wp2_with (go_at_call 95; refine (Hah.out _ _ hcp4 _ hrow4).mono ?_; rintro x w5 ⟨⟨AA, cc, rfl⟩, rfl⟩)
        refine wpAny_ready (rs := [6]) (by kernel_rfl) (by simp) ?_
        refine AllReady.cons rfl (fun K hK => ?_) AllReady.nil
        go_simp
        refine hK _ _ ?_; clear hK K
        refine wpAny_ready (rs := [7]) (by kernel_rfl) (by simp) ?_
        refine AllReady.cons rfl (fun K hK => ?_) AllReady.nil
        go_simp
        refine hK _ _ ?_; clear hK K
        refine wpAny_done (by kernel_rfl) ?_ _
        go_wp2
        go_ret
        exact ⟨rfl, k4⟩
      · go_simp
        go_wp2_with (go_at_call 50; refine (Hl.out _).mono ?_; rintro x w3 ⟨g3, cp3, rfl, hg3, hrow3, hb3⟩; have A3 := A0d.below hb3 A0d.lt; have q3 := below_cellOf hb3 q0d (Nat.le_refl _); have k3 := (k0.drew).trans (hb3.mono k0.size))
        refine wpAny_ready (rs := [0]) (by kernel_rfl) (by simp) ?_
        refine AllReady.cons rfl (fun K hK => ?_) AllReady.nil
        refine step_load_arrB A3 rfl _ _ rfl rfl Tryd.underlying104 sizeShades ?_
        refine hK _ _ ?_; clear hK K
        refine wpAny_ready (rs := [3]) (by kernel_rfl) (by simp) ?_
        refine AllReady.cons rfl (fun K hK => ?_) AllReady.nil
        go_simp
        go_wp2_with (go_at_call 89; refine (Hba.out _ _ _ hrow3).mono ?_; rintro x w4 ⟨g4, cp4, rfl, hg4, hcp4, hrow4, hb4⟩; have q4 := below_cellOf hb4 q3 (Nat.le_refl _); have k4 := k3.trans (hb4.mono k3.size))
        refine wpAny_ready (rs := [5]) (by kernel_rfl) (by simp) ?_
        refine AllReady.cons rfl (fun K hK => ?_) AllReady.nil
        go_simp
        go_wp2_with (go_at_call 95; refine (Hah.out _ _ hcp4 _ hrow4).mono ?_; rintro x w5 ⟨⟨AA, cc, rfl⟩, rfl⟩)
        refine wpAny_ready (rs := [6]) (by kernel_rfl) (by simp) ?_
        refine AllReady.cons rfl (fun K hK => ?_) AllReady.nil
        go_simp
        refine hK _ _ ?_; clear hK K
        refine wpAny_ready (rs := [7]) (by kernel_rfl) (by simp) ?_
        refine AllReady.cons rfl (fun K hK => ?_) AllReady.nil
        go_simp
        refine hK _ _ ?_; clear hK K
        refine wpAny_done (by kernel_rfl) ?_ _
        go_wp2
        go_ret
        exact ⟨rfl, k4⟩
  · go_simp
    refine hK _ _ ?_; clear hK K
    refine wpAny_ready (rs := [0, 1]) (by kernel_rfl) (by simp) ?_
    refine AllReady.cons rfl (fun K hK => ?_) (AllReady.cons rfl (fun K hK => ?_) AllReady.nil)
    · refine step_load_arrB A0d rfl _ _ rfl rfl Tryd.underlying104 sizeShades ?_
      refine hK _ _ ?_; clear hK K
      refine wpAny_ready (rs := [1]) (by kernel_rfl) (by simp) ?_
      refine AllReady.cons rfl (fun K hK => ?_) AllReady.nil
      go_simp
      refine hK _ _ ?_; clear hK K
      refine wpAny_ready (rs := [2]) (by kernel_rfl) (by simp) ?_
      refine AllReady.cons rfl (fun K hK => ?_) AllReady.nil
      go_simp
      go_wp2_with (go_at_call 50; refine (Hl.out _).mono ?_; rintro x w3 ⟨g3, cp3, rfl, hg3, hrow3, hb3⟩; have A3 := A0d.below hb3 A0d.lt; have q3 := below_cellOf hb3 q0d (Nat.le_refl _); have k3 := (k0.drew).trans (hb3.mono k0.size))
      refine wpAny_ready (rs := [3]) (by kernel_rfl) (by simp) ?_
      refine AllReady.cons rfl (fun K hK => ?_) AllReady.nil
      go_simp
      go_wp2_with (go_at_call 89; refine (Hba.out _ _ _ hrow3).mono ?_; rintro x w4 ⟨g4, cp4, rfl, hg4, hcp4, hrow4, hb4⟩; have q4 := below_cellOf hb4 q3 (Nat.le_refl _); have k4 := k3.trans (hb4.mono k3.size))
      refine wpAny_ready (rs := [5]) (by kernel_rfl) (by simp) ?_
      refine AllReady.cons rfl (fun K hK => ?_) AllReady.nil
      go_simp
      go_wp2_with (go_at_call 95; refine (Hah.out _ _ hcp4 _ hrow4).mono ?_; rintro x w5 ⟨⟨AA, cc, rfl⟩, rfl⟩)
      refine wpAny_ready (rs := [6]) (by kernel_rfl) (by simp) ?_
      refine AllReady.cons rfl (fun K hK => ?_) AllReady.nil
      go_simp
      refine hK _ _ ?_; clear hK K
      refine wpAny_ready (rs := [7]) (by kernel_rfl) (by simp) ?_
      refine AllReady.cons rfl (fun K hK => ?_) AllReady.nil
      go_simp
      refine hK _ _ ?_; clear hK K
      refine wpAny_done (by kernel_rfl) ?_ _
      go_wp2
      go_ret
      exact ⟨rfl, k4⟩
    · go_simp
      refine hK _ _ ?_; clear hK K
      refine wpAny_ready (rs := [0, 2]) (by kernel_rfl) (by simp) ?_
      refine AllReady.cons rfl (fun K hK => ?_) (AllReady.cons rfl (fun K hK => ?_) AllReady.nil)
      · refine step_load_arrB A0d rfl _ _ rfl rfl Tryd.underlying104 sizeShades ?_
        refine hK _ _ ?_; clear hK K
        refine wpAny_ready (rs := [2]) (by kernel_rfl) (by simp) ?_
        refine AllReady.cons rfl (fun K hK => ?_) AllReady.nil
        go_simp
        go_wp2_with (go_at_call 50; refine (Hl.out _).mono ?_; rintro x w3 ⟨g3, cp3, rfl, hg3, hrow3, hb3⟩; have A3 := A0d.below hb3 A0d.lt; have q3 := below_cellOf hb3 q0d (Nat.le_refl _); have k3 := (k0.drew).trans (hb3.mono k0.size))
        refine wpAny_ready (rs := [3]) (by kernel_rfl) (by simp) ?_
        refine AllReady.cons rfl (fun K hK => ?_) AllReady.nil
        go_simp
        go_wp2_with (go_at_call 89; refine (Hba.out _ _ _ hrow3).mono ?_; rintro x w4 ⟨g4, cp4, rfl, hg4, hcp4, hrow4, hb4⟩; have q4 := below_cellOf hb4 q3 (Nat.le_refl _); have k4 := k3.trans (hb4.mono k3.size))
        refine wpAny_ready (rs := [5]) (by kernel_rfl) (by simp) ?_
        refine AllReady.cons rfl (fun K hK => ?_) AllReady.nil
        go_simp
        go_wp2_with (go_at_call 95; refine (Hah.out _ _ hcp4 _ hrow4).mono ?_; rintro x w5 ⟨⟨AA, cc, rfl⟩, rfl⟩)
        refine wpAny_ready (rs := [6]) (by kernel_rfl) (by simp) ?_
        refine AllReady.cons rfl (fun K hK => ?_) AllReady.nil
        go_simp
        refine hK _ _ ?_; clear hK K
        refine wpAny_ready (rs := [7]) (by kernel_rfl) (by simp) ?_
        refine AllReady.cons rfl (fun K hK => ?_) AllReady.nil
        go_simp
        refine hK _ _ ?_; clear hK K
        refine wpAny_done (by kernel_rfl) ?_ _
        go_wp2
        go_ret
        exact ⟨rfl, k4⟩
      · go_simp
        go_wp2_with (go_at_call 50; refine (Hl.out _).mono ?_; rintro x w3 ⟨g3, cp3, rfl, hg3, hrow3, hb3⟩; have A3 := A0d.below hb3 A0d.lt; have q3 := below_cellOf hb3 q0d (Nat.le_refl _); have k3 := (k0.drew).trans (hb3.mono k0.size))
        refine wpAny_ready (rs := [0]) (by kernel_rfl) (by simp) ?_
        refine AllReady.cons rfl (fun K hK => ?_) AllReady.nil
        refine step_load_arrB A3 rfl _ _ rfl rfl Tryd.underlying104 sizeShades ?_
        refine hK _ _ ?_; clear hK K
        refine wpAny_ready (rs := [3]) (by kernel_rfl) (by simp) ?_
        refine AllReady.cons rfl (fun K hK => ?_) AllReady.nil
        go_simp
        go_wp2_with (go_at_call 89; refine (Hba.out _ _ _ hrow3).mono ?_; rintro x w4 ⟨g4, cp4, rfl, hg4, hcp4, hrow4, hb4⟩; have q4 := below_cellOf hb4 q3 (Nat.le_refl _); have k4 := k3.trans (hb4.mono k3.size))
        refine wpAny_ready (rs := [5]) (by kernel_rfl) (by simp) ?_
        refine AllReady.cons rfl (fun K hK => ?_) AllReady.nil
        go_simp
        go_wp2_with (go_at_call 95; refine (Hah.out _ _ hcp4 _ hrow4).mono ?_; rintro x w5 ⟨⟨AA, cc, rfl⟩, rfl⟩)
        refine wpAny_ready (rs := [6]) (by kernel_rfl) (by simp) ?_
        refine AllReady.cons rfl (fun K hK => ?_) AllReady.nil
        go_simp
        refine hK _ _ ?_; clear hK K
        refine wpAny_ready (rs := [7]) (by kernel_rfl) (by simp) ?_
        refine AllReady.cons rfl (fun K hK => ?_) AllReady.nil
        go_simp
        refine hK _ _ ?_; clear hK K
        refine wpAny_done (by kernel_rfl) ?_ _
        go_wp2
        go_ret
        exact ⟨rfl, k4⟩
end Go.Proofs.YtkhahffdacopdaaDoor


/-
  Light found by strips, with its code: by the program and by the reference, for every list of at most 1048576 points. Condition of the program's: its variables hold their own errors.
-/
import Derived.Test.YtnlcjbobfhmnmabGreatDoorStripL
import Derived.Test.YtnlcjbobfhmnmabGreatDoorShade
import Derived.Test.YtnlcjbobfhmnmabGreatDoorNearB
import Derived.Test.YtnlcjbobfhmnmabGreatDoorFiner
import Derived.Deep.RegionWith
namespace Go.Proofs.YtnlcjbobfhmnmabGreatDoor
open Go.RowKit

theorem irow_ownC {w : World} {L n : Nat} {xs : Nat → Int} {v : Value} (h : w.ownsRow L 2 1 v n (tabV xs n)) (hn : 0 < n) : ∃ g cap, v = .slice (some ⟨g, 0, none⟩) n cap ∧ L ≤ g ∧ n ≤ cap ∧ IRow w g n xs := by
  have h2 := h
  obtain ⟨hl, h⟩ := h
  rcases h with ⟨_, h0⟩ | ⟨b, cap, cur, rfl, hb, hh, hn', hm, hs, ht⟩
  · omega
  · obtain ⟨g, cp, e, hg, hr⟩ := irow_own h2 hn
    injection e with e1 e2 e3
    injection e1 with e1
    injection e1 with e1 e4 e5
    subst e1
    exact ⟨b, cap, rfl, hg, hn', hr⟩
/-- A new list of numbers, whose capacity holds them. -/
def MadeNC (n : Nat) (xs : Nat → Int) (w : World) (e : Ending) (w' : World) : Prop :=
  ∃ g cap, e = .returned (.slice (some ⟨g, 0, none⟩) n cap) ∧ w.heap.size ≤ g ∧ n ≤ cap ∧ IRow w' g n xs ∧ Below w.heap.size w w'

set_option maxRecDepth 100000 in
set_option maxHeartbeats 4000000 in
theorem bandsAtC_any (f : Nat → Int) (g n cap : Nat) (xs : Nat → Int) (hn0 : 0 < n) (hn : n ≤ 100) (hx : ∀ j, j < n → 0 ≤ xs j ∧ xs j ≤ 36) (w : World) (hr : IRow w g n xs) :
    Calls Tryz.prog 73 #[.agg (arrV .i64 37 f), .slice (some ⟨g, 0, none⟩) n cap] w (MadeNC n (fun j => f (xs j).toNat) w) := by
  have hlt := hr.lt
  have a0 := HasArr.new w 98 .i64 37 f
  have k0 := (Below.refl w.heap.size w).alloc (Nat.le_refl _) (.cells (arrV .i64 37 f) 98)
  have o1 := World.ownsRow_lit (size := 1) (e := 2) (base := w.heap.size + 1) (w.alloc (.cells (arrV .i64 37 f) 98)) #[] 0 (by simp) (Nat.zero_le _) rfl
  simp only [World.size_alloc] at o1
  have a1 := a0.alloc (.cells #[] 2)
  have k1 := k0.alloc k0.size (.cells #[] 2)
  have hat := fun k hk W => shAt_any f k hk W
  have hG : ∀ j, (fun j => f (xs j).toNat) j = f (xs j).toNat := fun _ => rfl
  generalize (fun j => f (xs j).toNat) = G at *
  have Hat := Lib.hid hat; clear hat
  have HG := Lib.hid hG; clear hG
  have Hx := Lib.hid hx; clear hx
  go_enter Tryz.func73, Tryz.ntmps73
  go_wp2_with fail
  go_loopw [5, 11] (fun lv iv wr => ∃ k : Nat, iv = .int .i64 k ∧ k ≤ n ∧ wr.ownsRow (w.heap.size + 1) 2 1 lv k (tabV G k) ∧ HasArr wr w.heap.size 98 .i64 37 f ∧ Below w.heap.size w wr) (fun _ iv _ => n - (intOf iv).toNat)
  case atStart => exact ⟨0, rfl, by omega, o1, a1, k1⟩
  case round =>
    clear o1 a0 a1 k0 k1
    obtain ⟨k, rfl, hk, hown, hA, k2⟩ := hrel
    by_cases hkn : k < n
    rotate_left
    · obtain rfl : k = n := by omega
      obtain ⟨g', cap', rfl, hg', hcp, hrow'⟩ := irow_ownC hown (by omega)
      go_wp2_with fail
      go_ret
      exact ⟨g', cap', rfl, by omega, hcp, hrow', k2⟩
    have kn : (k : Int) < (n : Int) := by omega
    have c1 := (hr.below k2 hlt).cell hkn
    have hxk := Hx.out k hkn
    have hgk := HG.out k
    obtain ⟨m, hm⟩ : ∃ m : Nat, xs k = (m : Int) := ⟨(xs k).toNat, by omega⟩
    rw [hm] at c1 hxk hgk
    clear hm
    have hm37 : m < 37 := by omega
    have htn : ((m : Int)).toNat = m := by omega
    rw [htn] at hgk
    clear htn
    have hv := Hat.out m hm37
    generalize f m = V at hv hgk
    have HV := Lib.hid hgk; clear hgk
    have Hv := Lib.hid hv; clear hv
    have z2 := k2.size
    have hAl := hA.lt
    have hfar := fun jj hjj => hown.lt jj hjj
    go_wp2_with (refine wpList_load_arr hA _ _ rfl rfl rfl Tryz.underlying98 sizeShades ?_)
    refine (Hv.out _).mono ?_; rintro x w3 ⟨rfl, hb3⟩
    have k3 := k2.trans (hb3.mono k2.size)
    have own3 := own_belowT hown hb3
    have A3 := hA.below hb3 hA.lt
    have z3 := hb3.size
    clear hb3 k2 hown hA c1
    go_wp2_with (at_builtin; refine wpList_append1 rfl _ _ rfl rfl own3 rfl (by omega) (by omega) HV.out ?_)
    intro v' w5 hown5 hg2 hat
    have A5 := A3.farS hg2 (fun e => by have := (hfar _ e.symm).1; omega)
    have k5 : Below w.heap.size w w5 := k3.grown hg2 k3.size (fun jj hjj => by have := (hfar jj hjj).1; omega)
    clear hg2 k3 own3 A3 hat
    go_wp2_with fail
    go_roundw
    case rel => exact ⟨k + 1, by go_num, by omega, hown5, A5, k5⟩
    case measure => simp [intOf]; omega

theorem step_load_arrB {P : Program} {ops : Array Oper} {o : Oper} {a : Act} {w : World} {K : Act → World → Prop} {Q : Exit → Act → World → Prop} {E : Prop} {b : Nat} {T : TypeId} {κ : IntKind} {n : Nat} {f : Nat → Int} {m : Nat} {e : TypeId}
    (h : HasArr w b T κ n f) (hg : o.guard = none) (ty : TypeId) (x : Operand) (ho : o.op = .load ty x) (hx : a.eval x = .pointer (some ⟨b, 0, none⟩)) (hu : P.underlying ty = some (.array m e)) (hi : (P.info? ty).map (·.size) = some n)
    (hK : K (a.put o.dst (.agg (arrV κ n f))) w) : if Region.wanted o (yielded ops a.tmps) = true then Oper.wp P o a w K Q else E := by
  have hw : Region.wanted o (yielded ops a.tmps) = true := by simp [Region.wanted, hg]
  rw [if_pos hw]
  exact wp_load_row ty x ho b hx T _ (0, 0) _ h hu rfl (by rw [arrV_size]; exact hi) hK

/-- A block of two numbers that may be written. -/
structure TwoAt (w : World) (g : Nat) (x y : Int) : Prop where
  c0 : w.cell? ⟨g, 0, none⟩ = some (.int .i64 x)
  c1 : w.cell? ⟨g, 1, none⟩ = some (.int .i64 y)
  fz : ∀ o, w.frozen? ⟨g, o, none⟩ = false
theorem TwoAt.lt {w : World} {g : Nat} {x y : Int} (h : TwoAt w g x y) : g < w.heap.size := World.block_lt_of_cell? w _ h.c0
theorem TwoAt.below {w w' : World} {g : Nat} {x y : Int} {B : Nat} (h : TwoAt w g x y) (hb : Below B w w') (hB : g < B) : TwoAt w' g x y :=
  ⟨(hb.cell (p := ⟨g, 0, none⟩) hB).trans h.c0, (hb.cell (p := ⟨g, 1, none⟩) hB).trans h.c1, fun o => (hb.frozen (p := ⟨g, o, none⟩) hB).trans (h.fz o)⟩
theorem TwoAt.new (w : World) (t : TypeId) (x y : Int) : TwoAt (w.alloc (.cells #[.int .i64 x, .int .i64 y] t)) w.heap.size x y := ⟨by simp, by simp, fun o => by simp⟩

/-! ### PLAIN -/
theorem fstK_congr {n : Nat} {xs ys : Nat → Int} {t : Int} (h : ∀ j, j < n → xs j = ys j) : fstK n xs t = fstK n ys t := by
  unfold fstK
  have hs := firstK_spec (n := n) (q := fun j => decide (t ≤ ys j))
  refine firstK_eq hs.1 (fun j hj => ?_) (fun hlt => ?_)
  · have h1 := hs.2.1 j hj
    rw [h j (by have := hs.1; omega)]; exact h1
  · have h1 := hs.2.2 hlt
    show decide (t ≤ xs (firstK (fun j => decide (t ≤ ys j)) n)) = true
    rw [h _ hlt]; exact h1
theorem fstK_ahead {n : Nat} {xs : Nat → Int} {t : Int} {j : Nat} (h : j < fstK n xs t) : xs j < t := by
  have := (firstK_spec (n := n) (q := fun j => decide (t ≤ xs j))).2.1 j h
  simp at this; omega
theorem fstK_at {n : Nat} {xs : Nat → Int} {t : Int} (h : fstK n xs t < n) : t ≤ xs (fstK n xs t) := by
  unfold fstK at *
  have := (firstK_spec (n := n) (q := fun j => decide (t ≤ xs j))).2.2 h
  simpa using this
section
variable {f : Nat → Int} {y : Int} (hm : ∀ i j : Nat, i ≤ j → f i ≤ f j)
include hm
omit hm in
theorem bys_0 (h : fstK 6 (fun j => f (6 * j)) y = 0) : leaK f y = 0 := by
  have h1 := fstK_at (n := 6) (xs := fun j => f (6 * j)) (t := y) (by omega)
  rw [h] at h1
  exact firstK_eq (by omega) (fun j hj => by omega) (fun _ => by simpa using h1)
theorem bys_no {m : Nat} (h : fstK 6 (fun j => f (6 * j)) y = m) (h0 : m ≠ 0) (h2 : fstK 6 (fun j => f (6 * (m - 1) + 1 + j)) y = 6) : leaK f y = 37 := by
  have hle := fstK_le 6 (fun j => f (6 * j)) y
  have h6 : m = 6 := by
    rcases Nat.lt_or_ge m 6 with h3 | h3
    · have h4 := fstK_at (n := 6) (xs := fun j => f (6 * j)) (t := y) (by omega)
      rw [h] at h4
      have h5 := fstK_ahead (n := 6) (xs := fun j => f (6 * (m - 1) + 1 + j)) (t := y) (j := 5) (by omega)
      try simp only at h4 h5
      rw [show 6 * (m - 1) + 1 + 5 = 6 * m by omega] at h5
      omega
    · omega
  subst h6
  have h5 := fstK_ahead (n := 6) (xs := fun j => f (6 * (6 - 1) + 1 + j)) (t := y) (j := 5) (by omega)
  try simp only [Nat.reduceAdd, Nat.reduceMul, Nat.reduceSub] at h5
  refine firstK_eq (Nat.le_refl _) (fun j hj => ?_) (fun h => by omega)
  have := hm j 36 (by omega)
  simp; omega
theorem bys_yes {m r : Nat} (h : fstK 6 (fun j => f (6 * j)) y = m) (h0 : m ≠ 0) (h2 : fstK 6 (fun j => f (6 * (m - 1) + 1 + j)) y = r) (h3 : r < 6) : leaK f y = 6 * (m - 1) + 1 + r ∧ 6 * (m - 1) + 1 + r < 37 := by
  have hle := fstK_le 6 (fun j => f (6 * j)) y
  have hlo := fstK_ahead (n := 6) (xs := fun j => f (6 * j)) (t := y) (j := m - 1) (by omega)
  have hhi := fstK_at (n := 6) (xs := fun j => f (6 * (m - 1) + 1 + j)) (t := y) (by omega)
  rw [h2] at hhi
  try simp only at hlo hhi
  refine ⟨firstK_eq (by omega) (fun j hj => ?_) (fun _ => by simpa using hhi), by omega⟩
  rcases Nat.lt_or_ge j (6 * (m - 1) + 1) with h4 | h4
  · have := hm j (6 * (m - 1)) (by omega)
    simp; omega
  · have h5 := fstK_ahead (n := 6) (xs := fun j => f (6 * (m - 1) + 1 + j)) (t := y) (j := j - (6 * (m - 1) + 1)) (by omega)
    try simp only at h5
    rw [show 6 * (m - 1) + 1 + (j - (6 * (m - 1) + 1)) = j by omega] at h5
    simp; omega
end
/-- How many strips there were, and the code. -/
def bysS (k : Nat) : Int := if k = 0 then 1 else 2
def bysC (n : Nat) (xs ys : Nat → Int) (d y : Int) : Int := if validC n xs ys = true then (if (inB d 0 400 && inB y 0 400) = true then leaC (shdF n xs ys d) y else 2) else 1
theorem bys_c1 {n : Nat} {xs ys : Nat → Int} {d y : Int} (h : validC n xs ys = false) : bysC n xs ys d y = 1 := by simp [bysC, h]
theorem bys_c2 {n : Nat} {xs ys : Nat → Int} {d y : Int} (h : validC n xs ys = true) (h2 : inB d 0 400 = false) : bysC n xs ys d y = 2 := by simp [bysC, h, h2]
theorem bys_c2' {n : Nat} {xs ys : Nat → Int} {d y : Int} (h : validC n xs ys = true) (h2 : inB y 0 400 = false) : bysC n xs ys d y = 2 := by simp [bysC, h, h2]
theorem bys_c0 {n : Nat} {xs ys : Nat → Int} {d y : Int} (h : validC n xs ys = true) (h2 : inB d 0 400 = true) (h3 : inB y 0 400 = true) : bysC n xs ys d y = leaC (shdF n xs ys d) y := by simp [bysC, h, h2, h3]

/-! ### THE PROGRAM'S COUNT OF THE BANDS AHEAD -/
set_option maxRecDepth 100000 in
set_option maxHeartbeats 4000000 in
theorem bys1_any (A q : Nat) (f : Nat → Int) (y a b c : Int) (h : StOk a b c) (w : World) (hA : HasArr w A 98 .i64 37 f) (hq : w.cell? ⟨q, 0, none⟩ = some (.int .i64 y)) :
    Calls Tryz.prog 81 #[stV a b c, .pointer (some ⟨A, 0, none⟩), .pointer (some ⟨q, 0, none⟩)] w fun e w' => e = .returned (.int .i64 (fstK c.toNat (fun j : Nat => f ((fun i : Nat => a + b * (i : Int)) j).toNat) y : Nat)) ∧ Below w.heap.size w w' := by
  have hl := fun W => stLights_any a b c h W
  have hc0 := h.c0; have hc1 := h.c1
  have hbd : ∀ j : Nat, j < c.toNat → 0 ≤ (fun j : Nat => a + b * (j : Int)) j ∧ (fun j : Nat => a + b * (j : Int)) j ≤ 36 := fun j hj => h.light (k := j) (by omega) (by omega)
  generalize (fun j : Nat => a + b * (j : Int)) = F at *
  have hba := fun gg cp W hW => bandsAtC_any f gg c.toNat cp F (by omega) (by omega) hbd W hW
  have hah := fun gg cp hcp W hW => bandsAhead_any gg c.toNat cp (fun j : Nat => f (F j).toNat) y (by omega) hcp W hW
  generalize (fun j : Nat => f (F j).toNat) = G at *
  generalize fstK c.toNat G y = K at *
  have Hl := Lib.hid hl; clear hl
  have Hba := Lib.hid hba; clear hba
  have Hah := Lib.hid hah; clear hah
  have k0 : Below w.heap.size w (w.alloc (.cells #[.int .i8 a, .int .i8 b, .int .i8 c] 26)) := (Below.refl _ _).alloc (Nat.le_refl _) _
  have S0 := StAt.new w 26 a b c
  have A0 := hA.alloc (.cells #[.int .i8 a, .int .i8 b, .int .i8 c] 26)
  have q0 := below_cellOf ((Below.refl w.heap.size w).alloc (Nat.le_refl _) (.cells #[.int .i8 a, .int .i8 b, .int .i8 c] 26)) hq (Nat.le_refl _)
  clear hA hq h
  go_enter Tryz.func81, Tryz.ntmps81
  go_wp2_with fail
  generalize w.alloc (.cells #[.int .i8 a, .int .i8 b, .int .i8 c] 26) = W at *
  obtain ⟨s0, s1, s2⟩ := S0
  have A0d : HasArr W.drew A 98 .i64 37 f := A0
  have q0d : W.drew.cell? ⟨q, 0, none⟩ = some (.int .i64 y) := q0
  refine wp_region_any (by kernel_rfl) ?_
  change wpAny _ _ _ _ _ _ _ (World.drew _)
  refine wpAny_ready (rs := [0, 1, 4]) (by kernel_rfl) (by simp) ?_
  refine AllReady.cons rfl (fun K hK => ?_) (AllReady.cons rfl (fun K hK => ?_) (AllReady.cons rfl (fun K hK => ?_) AllReady.nil))
  · refine step_load_arrB A0d rfl _ _ rfl rfl Tryz.underlying98 sizeShades ?_
    refine hK _ _ ?_; clear hK K
    refine wpAny_ready (rs := [1, 4]) (by kernel_rfl) (by simp) ?_
    refine AllReady.cons rfl (fun K hK => ?_) (AllReady.cons rfl (fun K hK => ?_) AllReady.nil)
    · go_simp
      refine hK _ _ ?_; clear hK K
      refine wpAny_ready (rs := [2, 4]) (by kernel_rfl) (by simp) ?_
      refine AllReady.cons rfl (fun K hK => ?_) (AllReady.cons rfl (fun K hK => ?_) AllReady.nil)
      · go_simp
        go_wp2_with (go_at_call 36; refine (Hl.out _).mono ?_; rintro x w3 ⟨g3, cp3, rfl, hg3, hrow3, hb3⟩; have A3 := A0d.below hb3 A0d.lt; have q3 := below_cellOf hb3 q0d (Nat.le_refl _); have k3 := (k0.drew).trans (hb3.mono k0.size))
        refine wpAny_ready (rs := [3, 4]) (by kernel_rfl) (by simp) ?_
        refine AllReady.cons rfl (fun K hK => ?_) (AllReady.cons rfl (fun K hK => ?_) AllReady.nil)
        · go_simp
          go_wp2_with (go_at_call 73; refine (Hba.out _ _ _ hrow3).mono ?_; rintro x w4 ⟨g4, cp4, rfl, hg4, hcp4, hrow4, hb4⟩; have q4 := below_cellOf hb4 q3 (Nat.le_refl _); have k4 := k3.trans (hb4.mono k3.size))
          refine wpAny_ready (rs := [4]) (by kernel_rfl) (by simp) ?_
          refine AllReady.cons rfl (fun K hK => ?_) AllReady.nil
          go_simp
          refine hK _ _ ?_; clear hK K
          refine wpAny_ready (rs := [5]) (by kernel_rfl) (by simp) ?_
          refine AllReady.cons rfl (fun K hK => ?_) AllReady.nil
          go_simp
          go_wp2_with (go_at_call 80; refine (Hah.out _ _ hcp4 _ hrow4).mono ?_; rintro x w5 ⟨⟨AA, cc, rfl⟩, rfl⟩)
          refine wpAny_ready (rs := [6]) (by kernel_rfl) (by simp) ?_
          refine AllReady.cons rfl (fun K hK => ?_) AllReady.nil
          go_simp
          refine hK _ _ ?_; clear hK K
          refine wpAny_ready (rs := [7]) (by kernel_rfl) (by simp) ?_
          refine AllReady.cons rfl (fun K hK => ?_) AllReady.nil
          go_simp
          refine hK _ _ ?_; clear hK K
          refine wpAny_done (by kernel_rfl) ?_ _
          go_wp2
          go_ret
          exact ⟨rfl, k4⟩
        · go_simp
          refine hK _ _ ?_; clear hK K
          refine wpAny_ready (rs := [3]) (by kernel_rfl) (by simp) ?_
          refine AllReady.cons rfl (fun K hK => ?_) AllReady.nil
          go_simp
          go_wp2_with (go_at_call 73; refine (Hba.out _ _ _ hrow3).mono ?_; rintro x w4 ⟨g4, cp4, rfl, hg4, hcp4, hrow4, hb4⟩; have q4 := below_cellOf hb4 q3 (Nat.le_refl _); have k4 := k3.trans (hb4.mono k3.size))
          refine wpAny_ready (rs := [5]) (by kernel_rfl) (by simp) ?_
          refine AllReady.cons rfl (fun K hK => ?_) AllReady.nil
          go_simp
          go_wp2_with (go_at_call 80; refine (Hah.out _ _ hcp4 _ hrow4).mono ?_; rintro x w5 ⟨⟨AA, cc, rfl⟩, rfl⟩)
          refine wpAny_ready (rs := [6]) (by kernel_rfl) (by simp) ?_
          refine AllReady.cons rfl (fun K hK => ?_) AllReady.nil
          go_simp
          refine hK _ _ ?_; clear hK K
          refine wpAny_ready (rs := [7]) (by kernel_rfl) (by simp) ?_
          refine AllReady.cons rfl (fun K hK => ?_) AllReady.nil
          go_simp
          refine hK _ _ ?_; clear hK K
          refine wpAny_done (by kernel_rfl) ?_ _
          go_wp2
          go_ret
          exact ⟨rfl, k4⟩
      · go_simp
        refine hK _ _ ?_; clear hK K
        refine wpAny_ready (rs := [2]) (by kernel_rfl) (by simp) ?_
        refine AllReady.cons rfl (fun K hK => ?_) AllReady.nil
        go_simp
        go_wp2_with (go_at_call 36; refine (Hl.out _).mono ?_; rintro x w3 ⟨g3, cp3, rfl, hg3, hrow3, hb3⟩; have A3 := A0d.below hb3 A0d.lt; have q3 := below_cellOf hb3 q0d (Nat.le_refl _); have k3 := (k0.drew).trans (hb3.mono k0.size))
        refine wpAny_ready (rs := [3]) (by kernel_rfl) (by simp) ?_
        refine AllReady.cons rfl (fun K hK => ?_) AllReady.nil
        go_simp
        go_wp2_with (go_at_call 73; refine (Hba.out _ _ _ hrow3).mono ?_; rintro x w4 ⟨g4, cp4, rfl, hg4, hcp4, hrow4, hb4⟩; have q4 := below_cellOf hb4 q3 (Nat.le_refl _); have k4 := k3.trans (hb4.mono k3.size))
        refine wpAny_ready (rs := [5]) (by kernel_rfl) (by simp) ?_
        refine AllReady.cons rfl (fun K hK => ?_) AllReady.nil
        go_simp
        go_wp2_with (go_at_call 80; refine (Hah.out _ _ hcp4 _ hrow4).mono ?_; rintro x w5 ⟨⟨AA, cc, rfl⟩, rfl⟩)
        refine wpAny_ready (rs := [6]) (by kernel_rfl) (by simp) ?_
        refine AllReady.cons rfl (fun K hK => ?_) AllReady.nil
        go_simp
        refine hK _ _ ?_; clear hK K
        refine wpAny_ready (rs := [7]) (by kernel_rfl) (by simp) ?_
        refine AllReady.cons rfl (fun K hK => ?_) AllReady.nil
        go_simp
        refine hK _ _ ?_; clear hK K
        refine wpAny_done (by kernel_rfl) ?_ _
        go_wp2
        go_ret
        exact ⟨rfl, k4⟩
    · go_simp
      refine hK _ _ ?_; clear hK K
      refine wpAny_ready (rs := [1]) (by kernel_rfl) (by simp) ?_
      refine AllReady.cons rfl (fun K hK => ?_) AllReady.nil
      go_simp
      refine hK _ _ ?_; clear hK K
      refine wpAny_ready (rs := [2]) (by kernel_rfl) (by simp) ?_
      refine AllReady.cons rfl (fun K hK => ?_) AllReady.nil
      go_simp
      go_wp2_with (go_at_call 36; refine (Hl.out _).mono ?_; rintro x w3 ⟨g3, cp3, rfl, hg3, hrow3, hb3⟩; have A3 := A0d.below hb3 A0d.lt; have q3 := below_cellOf hb3 q0d (Nat.le_refl _); have k3 := (k0.drew).trans (hb3.mono k0.size))
      refine wpAny_ready (rs := [3]) (by kernel_rfl) (by simp) ?_
      refine AllReady.cons rfl (fun K hK => ?_) AllReady.nil
      go_simp
      go_wp2_with (go_at_call 73; refine (Hba.out _ _ _ hrow3).mono ?_; rintro x w4 ⟨g4, cp4, rfl, hg4, hcp4, hrow4, hb4⟩; have q4 := below_cellOf hb4 q3 (Nat.le_refl _); have k4 := k3.trans (hb4.mono k3.size))
      refine wpAny_ready (rs := [5]) (by kernel_rfl) (by simp) ?_
      refine AllReady.cons rfl (fun K hK => ?_) AllReady.nil
      go_simp
      go_wp2_with (go_at_call 80; refine (Hah.out _ _ hcp4 _ hrow4).mono ?_; rintro x w5 ⟨⟨AA, cc, rfl⟩, rfl⟩)
      refine wpAny_ready (rs := [6]) (by kernel_rfl) (by simp) ?_
      refine AllReady.cons rfl (fun K hK => ?_) AllReady.nil
      go_simp
      refine hK _ _ ?_; clear hK K
      refine wpAny_ready (rs := [7]) (by kernel_rfl) (by simp) ?_
      refine AllReady.cons rfl (fun K hK => ?_) AllReady.nil
      go_simp
      refine hK _ _ ?_; clear hK K
      refine wpAny_done (by kernel_rfl) ?_ _
      go_wp2
      go_ret
      exact ⟨rfl, k4⟩
  · go_simp
    refine hK _ _ ?_; clear hK K
    refine wpAny_ready (rs := [0, 2, 4]) (by kernel_rfl) (by simp) ?_
    refine AllReady.cons rfl (fun K hK => ?_) (AllReady.cons rfl (fun K hK => ?_) (AllReady.cons rfl (fun K hK => ?_) AllReady.nil))
    · refine step_load_arrB A0d rfl _ _ rfl rfl Tryz.underlying98 sizeShades ?_
      refine hK _ _ ?_; clear hK K
      refine wpAny_ready (rs := [2, 4]) (by kernel_rfl) (by simp) ?_
      refine AllReady.cons rfl (fun K hK => ?_) (AllReady.cons rfl (fun K hK => ?_) AllReady.nil)
      · go_simp
        go_wp2_with (go_at_call 36; refine (Hl.out _).mono ?_; rintro x w3 ⟨g3, cp3, rfl, hg3, hrow3, hb3⟩; have A3 := A0d.below hb3 A0d.lt; have q3 := below_cellOf hb3 q0d (Nat.le_refl _); have k3 := (k0.drew).trans (hb3.mono k0.size))
        refine wpAny_ready (rs := [3, 4]) (by kernel_rfl) (by simp) ?_
        refine AllReady.cons rfl (fun K hK => ?_) (AllReady.cons rfl (fun K hK => ?_) AllReady.nil)
        · go_simp
          go_wp2_with (go_at_call 73; refine (Hba.out _ _ _ hrow3).mono ?_; rintro x w4 ⟨g4, cp4, rfl, hg4, hcp4, hrow4, hb4⟩; have q4 := below_cellOf hb4 q3 (Nat.le_refl _); have k4 := k3.trans (hb4.mono k3.size))
          refine wpAny_ready (rs := [4]) (by kernel_rfl) (by simp) ?_
          refine AllReady.cons rfl (fun K hK => ?_) AllReady.nil
          go_simp
          refine hK _ _ ?_; clear hK K
          refine wpAny_ready (rs := [5]) (by kernel_rfl) (by simp) ?_
          refine AllReady.cons rfl (fun K hK => ?_) AllReady.nil
          go_simp
          go_wp2_with (go_at_call 80; refine (Hah.out _ _ hcp4 _ hrow4).mono ?_; rintro x w5 ⟨⟨AA, cc, rfl⟩, rfl⟩)
          refine wpAny_ready (rs := [6]) (by kernel_rfl) (by simp) ?_
          refine AllReady.cons rfl (fun K hK => ?_) AllReady.nil
          go_simp
          refine hK _ _ ?_; clear hK K
          refine wpAny_ready (rs := [7]) (by kernel_rfl) (by simp) ?_
          refine AllReady.cons rfl (fun K hK => ?_) AllReady.nil
          go_simp
          refine hK _ _ ?_; clear hK K
          refine wpAny_done (by kernel_rfl) ?_ _
          go_wp2
          go_ret
          exact ⟨rfl, k4⟩
        · go_simp
          refine hK _ _ ?_; clear hK K
          refine wpAny_ready (rs := [3]) (by kernel_rfl) (by simp) ?_
          refine AllReady.cons rfl (fun K hK => ?_) AllReady.nil
          go_simp
          go_wp2_with (go_at_call 73; refine (Hba.out _ _ _ hrow3).mono ?_; rintro x w4 ⟨g4, cp4, rfl, hg4, hcp4, hrow4, hb4⟩; have q4 := below_cellOf hb4 q3 (Nat.le_refl _); have k4 := k3.trans (hb4.mono k3.size))
          refine wpAny_ready (rs := [5]) (by kernel_rfl) (by simp) ?_
          refine AllReady.cons rfl (fun K hK => ?_) AllReady.nil
          go_simp
          go_wp2_with (go_at_call 80; refine (Hah.out _ _ hcp4 _ hrow4).mono ?_; rintro x w5 ⟨⟨AA, cc, rfl⟩, rfl⟩)
          refine wpAny_ready (rs := [6]) (by kernel_rfl) (by simp) ?_
          refine AllReady.cons rfl (fun K hK => ?_) AllReady.nil
          go_simp
          refine hK _ _ ?_; clear hK K
          refine wpAny_ready (rs := [7]) (by kernel_rfl) (by simp) ?_
          refine AllReady.cons rfl (fun K hK => ?_) AllReady.nil
          go_simp
          refine hK _ _ ?_; clear hK K
          refine wpAny_done (by kernel_rfl) ?_ _
          go_wp2
          go_ret
          exact ⟨rfl, k4⟩
      · go_simp
        refine hK _ _ ?_; clear hK K
        refine wpAny_ready (rs := [2]) (by kernel_rfl) (by simp) ?_
        refine AllReady.cons rfl (fun K hK => ?_) AllReady.nil
        go_simp
        go_wp2_with (go_at_call 36; refine (Hl.out _).mono ?_; rintro x w3 ⟨g3, cp3, rfl, hg3, hrow3, hb3⟩; have A3 := A0d.below hb3 A0d.lt; have q3 := below_cellOf hb3 q0d (Nat.le_refl _); have k3 := (k0.drew).trans (hb3.mono k0.size))
        refine wpAny_ready (rs := [3]) (by kernel_rfl) (by simp) ?_
        refine AllReady.cons rfl (fun K hK => ?_) AllReady.nil
        go_simp
        go_wp2_with (go_at_call 73; refine (Hba.out _ _ _ hrow3).mono ?_; rintro x w4 ⟨g4, cp4, rfl, hg4, hcp4, hrow4, hb4⟩; have q4 := below_cellOf hb4 q3 (Nat.le_refl _); have k4 := k3.trans (hb4.mono k3.size))
        refine wpAny_ready (rs := [5]) (by kernel_rfl) (by simp) ?_
        refine AllReady.cons rfl (fun K hK => ?_) AllReady.nil
        go_simp
        go_wp2_with (go_at_call 80; refine (Hah.out _ _ hcp4 _ hrow4).mono ?_; rintro x w5 ⟨⟨AA, cc, rfl⟩, rfl⟩)
        refine wpAny_ready (rs := [6]) (by kernel_rfl) (by simp) ?_
        refine AllReady.cons rfl (fun K hK => ?_) AllReady.nil
        go_simp
        refine hK _ _ ?_; clear hK K
        refine wpAny_ready (rs := [7]) (by kernel_rfl) (by simp) ?_
        refine AllReady.cons rfl (fun K hK => ?_) AllReady.nil
        go_simp
        refine hK _ _ ?_; clear hK K
        refine wpAny_done (by kernel_rfl) ?_ _
        go_wp2
        go_ret
        exact ⟨rfl, k4⟩
    · go_simp
      go_wp2_with (go_at_call 36; refine (Hl.out _).mono ?_; rintro x w3 ⟨g3, cp3, rfl, hg3, hrow3, hb3⟩; have A3 := A0d.below hb3 A0d.lt; have q3 := below_cellOf hb3 q0d (Nat.le_refl _); have k3 := (k0.drew).trans (hb3.mono k0.size))
      refine wpAny_ready (rs := [0, 4]) (by kernel_rfl) (by simp) ?_
      refine AllReady.cons rfl (fun K hK => ?_) (AllReady.cons rfl (fun K hK => ?_) AllReady.nil)
      · refine step_load_arrB A3 rfl _ _ rfl rfl Tryz.underlying98 sizeShades ?_
        refine hK _ _ ?_; clear hK K
        refine wpAny_ready (rs := [3, 4]) (by kernel_rfl) (by simp) ?_
        refine AllReady.cons rfl (fun K hK => ?_) (AllReady.cons rfl (fun K hK => ?_) AllReady.nil)
        · go_simp
          go_wp2_with (go_at_call 73; refine (Hba.out _ _ _ hrow3).mono ?_; rintro x w4 ⟨g4, cp4, rfl, hg4, hcp4, hrow4, hb4⟩; have q4 := below_cellOf hb4 q3 (Nat.le_refl _); have k4 := k3.trans (hb4.mono k3.size))
          refine wpAny_ready (rs := [4]) (by kernel_rfl) (by simp) ?_
          refine AllReady.cons rfl (fun K hK => ?_) AllReady.nil
          go_simp
          refine hK _ _ ?_; clear hK K
          refine wpAny_ready (rs := [5]) (by kernel_rfl) (by simp) ?_
          refine AllReady.cons rfl (fun K hK => ?_) AllReady.nil
          go_simp
          go_wp2_with (go_at_call 80; refine (Hah.out _ _ hcp4 _ hrow4).mono ?_; rintro x w5 ⟨⟨AA, cc, rfl⟩, rfl⟩)
          refine wpAny_ready (rs := [6]) (by kernel_rfl) (by simp) ?_
          refine AllReady.cons rfl (fun K hK => ?_) AllReady.nil
          go_simp
          refine hK _ _ ?_; clear hK K
          refine wpAny_ready (rs := [7]) (by kernel_rfl) (by simp) ?_
          refine AllReady.cons rfl (fun K hK => ?_) AllReady.nil
          go_simp
          refine hK _ _ ?_; clear hK K
          refine wpAny_done (by kernel_rfl) ?_ _
          go_wp2
          go_ret
          exact ⟨rfl, k4⟩
        · go_simp
          refine hK _ _ ?_; clear hK K
          refine wpAny_ready (rs := [3]) (by kernel_rfl) (by simp) ?_
          refine AllReady.cons rfl (fun K hK => ?_) AllReady.nil
          go_simp
          go_wp2_with (go_at_call 73; refine (Hba.out _ _ _ hrow3).mono ?_; rintro x w4 ⟨g4, cp4, rfl, hg4, hcp4, hrow4, hb4⟩; have q4 := below_cellOf hb4 q3 (Nat.le_refl _); have k4 := k3.trans (hb4.mono k3.size))
          refine wpAny_ready (rs := [5]) (by kernel_rfl) (by simp) ?_
          refine AllReady.cons rfl (fun K hK => ?_) AllReady.nil
          go_simp
          go_wp2_with (go_at_call 80; refine (Hah.out _ _ hcp4 _ hrow4).mono ?_; rintro x w5 ⟨⟨AA, cc, rfl⟩, rfl⟩)
          refine wpAny_ready (rs := [6]) (by kernel_rfl) (by simp) ?_
          refine AllReady.cons rfl (fun K hK => ?_) AllReady.nil
          go_simp
          refine hK _ _ ?_; clear hK K
          refine wpAny_ready (rs := [7]) (by kernel_rfl) (by simp) ?_
          refine AllReady.cons rfl (fun K hK => ?_) AllReady.nil
          go_simp
          refine hK _ _ ?_; clear hK K
          refine wpAny_done (by kernel_rfl) ?_ _
          go_wp2
          go_ret
          exact ⟨rfl, k4⟩
      · go_simp
        refine hK _ _ ?_; clear hK K
        refine wpAny_ready (rs := [0]) (by kernel_rfl) (by simp) ?_
        refine AllReady.cons rfl (fun K hK => ?_) AllReady.nil
        refine step_load_arrB A3 rfl _ _ rfl rfl Tryz.underlying98 sizeShades ?_
        refine hK _ _ ?_; clear hK K
        refine wpAny_ready (rs := [3]) (by kernel_rfl) (by simp) ?_
        refine AllReady.cons rfl (fun K hK => ?_) AllReady.nil
        go_simp
        go_wp2_with (go_at_call 73; refine (Hba.out _ _ _ hrow3).mono ?_; rintro x w4 ⟨g4, cp4, rfl, hg4, hcp4, hrow4, hb4⟩; have q4 := below_cellOf hb4 q3 (Nat.le_refl _); have k4 := k3.trans (hb4.mono k3.size))
        refine wpAny_ready (rs := [5]) (by kernel_rfl) (by simp) ?_
        refine AllReady.cons rfl (fun K hK => ?_) AllReady.nil
        go_simp
        go_wp2_with (go_at_call 80; refine (Hah.out _ _ hcp4 _ hrow4).mono ?_; rintro x w5 ⟨⟨AA, cc, rfl⟩, rfl⟩)
        refine wpAny_ready (rs := [6]) (by kernel_rfl) (by simp) ?_
        refine AllReady.cons rfl (fun K hK => ?_) AllReady.nil
        go_simp
        refine hK _ _ ?_; clear hK K
        refine wpAny_ready (rs := [7]) (by kernel_rfl) (by simp) ?_
        refine AllReady.cons rfl (fun K hK => ?_) AllReady.nil
        go_simp
        refine hK _ _ ?_; clear hK K
        refine wpAny_done (by kernel_rfl) ?_ _
        go_wp2
        go_ret
        exact ⟨rfl, k4⟩
    · go_simp
      refine hK _ _ ?_; clear hK K
      refine wpAny_ready (rs := [0, 2]) (by kernel_rfl) (by simp) ?_
      refine AllReady.cons rfl (fun K hK => ?_) (AllReady.cons rfl (fun K hK => ?_) AllReady.nil)
      · refine step_load_arrB A0d rfl _ _ rfl rfl Tryz.underlying98 sizeShades ?_
        refine hK _ _ ?_; clear hK K
        refine wpAny_ready (rs := [2]) (by kernel_rfl) (by simp) ?_
        refine AllReady.cons rfl (fun K hK => ?_) AllReady.nil
        go_simp
        go_wp2_with (go_at_call 36; refine (Hl.out _).mono ?_; rintro x w3 ⟨g3, cp3, rfl, hg3, hrow3, hb3⟩; have A3 := A0d.below hb3 A0d.lt; have q3 := below_cellOf hb3 q0d (Nat.le_refl _); have k3 := (k0.drew).trans (hb3.mono k0.size))
        refine wpAny_ready (rs := [3]) (by kernel_rfl) (by simp) ?_
        refine AllReady.cons rfl (fun K hK => ?_) AllReady.nil
        go_simp
        go_wp2_with (go_at_call 73; refine (Hba.out _ _ _ hrow3).mono ?_; rintro x w4 ⟨g4, cp4, rfl, hg4, hcp4, hrow4, hb4⟩; have q4 := below_cellOf hb4 q3 (Nat.le_refl _); have k4 := k3.trans (hb4.mono k3.size))
        refine wpAny_ready (rs := [5]) (by kernel_rfl) (by simp) ?_
        refine AllReady.cons rfl (fun K hK => ?_) AllReady.nil
        go_simp
        go_wp2_with (go_at_call 80; refine (Hah.out _ _ hcp4 _ hrow4).mono ?_; rintro x w5 ⟨⟨AA, cc, rfl⟩, rfl⟩)
        refine wpAny_ready (rs := [6]) (by kernel_rfl) (by simp) ?_
        refine AllReady.cons rfl (fun K hK => ?_) AllReady.nil
        go_simp
        refine hK _ _ ?_; clear hK K
        refine wpAny_ready (rs := [7]) (by kernel_rfl) (by simp) ?_
        refine AllReady.cons rfl (fun K hK => ?_) AllReady.nil
        go_simp
        refine hK _ _ ?_; clear hK K
        refine wpAny_done (by kernel_rfl) ?_ _
        go_wp2
        go_ret
        exact ⟨rfl, k4⟩
      · go_simp
        go_wp2_with (go_at_call 36; refine (Hl.out _).mono ?_; rintro x w3 ⟨g3, cp3, rfl, hg3, hrow3, hb3⟩; have A3 := A0d.below hb3 A0d.lt; have q3 := below_cellOf hb3 q0d (Nat.le_refl _); have k3 := (k0.drew).trans (hb3.mono k0.size))
        refine wpAny_ready (rs := [0]) (by kernel_rfl) (by simp) ?_
        refine AllReady.cons rfl (fun K hK => ?_) AllReady.nil
        refine step_load_arrB A3 rfl _ _ rfl rfl Tryz.underlying98 sizeShades ?_
        refine hK _ _ ?_; clear hK K
        refine wpAny_ready (rs := [3]) (by kernel_rfl) (by simp) ?_
        refine AllReady.cons rfl (fun K hK => ?_) AllReady.nil
        go_simp
        go_wp2_with (go_at_call 73; refine (Hba.out _ _ _ hrow3).mono ?_; rintro x w4 ⟨g4, cp4, rfl, hg4, hcp4, hrow4, hb4⟩; have q4 := below_cellOf hb4 q3 (Nat.le_refl _); have k4 := k3.trans (hb4.mono k3.size))
        refine wpAny_ready (rs := [5]) (by kernel_rfl) (by simp) ?_
        refine AllReady.cons rfl (fun K hK => ?_) AllReady.nil
        go_simp
        go_wp2_with (go_at_call 80; refine (Hah.out _ _ hcp4 _ hrow4).mono ?_; rintro x w5 ⟨⟨AA, cc, rfl⟩, rfl⟩)
        refine wpAny_ready (rs := [6]) (by kernel_rfl) (by simp) ?_
        refine AllReady.cons rfl (fun K hK => ?_) AllReady.nil
        go_simp
        refine hK _ _ ?_; clear hK K
        refine wpAny_ready (rs := [7]) (by kernel_rfl) (by simp) ?_
        refine AllReady.cons rfl (fun K hK => ?_) AllReady.nil
        go_simp
        refine hK _ _ ?_; clear hK K
        refine wpAny_done (by kernel_rfl) ?_ _
        go_wp2
        go_ret
        exact ⟨rfl, k4⟩
  · go_simp
    refine hK _ _ ?_; clear hK K
    refine wpAny_ready (rs := [0, 1]) (by kernel_rfl) (by simp) ?_
    refine AllReady.cons rfl (fun K hK => ?_) (AllReady.cons rfl (fun K hK => ?_) AllReady.nil)
    · refine step_load_arrB A0d rfl _ _ rfl rfl Tryz.underlying98 sizeShades ?_
      refine hK _ _ ?_; clear hK K
      refine wpAny_ready (rs := [1]) (by kernel_rfl) (by simp) ?_
      refine AllReady.cons rfl (fun K hK => ?_) AllReady.nil
      go_simp
      refine hK _ _ ?_; clear hK K
      refine wpAny_ready (rs := [2]) (by kernel_rfl) (by simp) ?_
      refine AllReady.cons rfl (fun K hK => ?_) AllReady.nil
      go_simp
      go_wp2_with (go_at_call 36; refine (Hl.out _).mono ?_; rintro x w3 ⟨g3, cp3, rfl, hg3, hrow3, hb3⟩; have A3 := A0d.below hb3 A0d.lt; have q3 := below_cellOf hb3 q0d (Nat.le_refl _); have k3 := (k0.drew).trans (hb3.mono k0.size))
      refine wpAny_ready (rs := [3]) (by kernel_rfl) (by simp) ?_
      refine AllReady.cons rfl (fun K hK => ?_) AllReady.nil
      go_simp
      go_wp2_with (go_at_call 73; refine (Hba.out _ _ _ hrow3).mono ?_; rintro x w4 ⟨g4, cp4, rfl, hg4, hcp4, hrow4, hb4⟩; have q4 := below_cellOf hb4 q3 (Nat.le_refl _); have k4 := k3.trans (hb4.mono k3.size))
      refine wpAny_ready (rs := [5]) (by kernel_rfl) (by simp) ?_
      refine AllReady.cons rfl (fun K hK => ?_) AllReady.nil
      go_simp
      go_wp2_with (go_at_call 80; refine (Hah.out _ _ hcp4 _ hrow4).mono ?_; rintro x w5 ⟨⟨AA, cc, rfl⟩, rfl⟩)
      refine wpAny_ready (rs := [6]) (by kernel_rfl) (by simp) ?_
      refine AllReady.cons rfl (fun K hK => ?_) AllReady.nil
      go_simp
      refine hK _ _ ?_; clear hK K
      refine wpAny_ready (rs := [7]) (by kernel_rfl) (by simp) ?_
      refine AllReady.cons rfl (fun K hK => ?_) AllReady.nil
      go_simp
      refine hK _ _ ?_; clear hK K
      refine wpAny_done (by kernel_rfl) ?_ _
      go_wp2
      go_ret
      exact ⟨rfl, k4⟩
    · go_simp
      refine hK _ _ ?_; clear hK K
      refine wpAny_ready (rs := [0, 2]) (by kernel_rfl) (by simp) ?_
      refine AllReady.cons rfl (fun K hK => ?_) (AllReady.cons rfl (fun K hK => ?_) AllReady.nil)
      · refine step_load_arrB A0d rfl _ _ rfl rfl Tryz.underlying98 sizeShades ?_
        refine hK _ _ ?_; clear hK K
        refine wpAny_ready (rs := [2]) (by kernel_rfl) (by simp) ?_
        refine AllReady.cons rfl (fun K hK => ?_) AllReady.nil
        go_simp
        go_wp2_with (go_at_call 36; refine (Hl.out _).mono ?_; rintro x w3 ⟨g3, cp3, rfl, hg3, hrow3, hb3⟩; have A3 := A0d.below hb3 A0d.lt; have q3 := below_cellOf hb3 q0d (Nat.le_refl _); have k3 := (k0.drew).trans (hb3.mono k0.size))
        refine wpAny_ready (rs := [3]) (by kernel_rfl) (by simp) ?_
        refine AllReady.cons rfl (fun K hK => ?_) AllReady.nil
        go_simp
        go_wp2_with (go_at_call 73; refine (Hba.out _ _ _ hrow3).mono ?_; rintro x w4 ⟨g4, cp4, rfl, hg4, hcp4, hrow4, hb4⟩; have q4 := below_cellOf hb4 q3 (Nat.le_refl _); have k4 := k3.trans (hb4.mono k3.size))
        refine wpAny_ready (rs := [5]) (by kernel_rfl) (by simp) ?_
        refine AllReady.cons rfl (fun K hK => ?_) AllReady.nil
        go_simp
        go_wp2_with (go_at_call 80; refine (Hah.out _ _ hcp4 _ hrow4).mono ?_; rintro x w5 ⟨⟨AA, cc, rfl⟩, rfl⟩)
        refine wpAny_ready (rs := [6]) (by kernel_rfl) (by simp) ?_
        refine AllReady.cons rfl (fun K hK => ?_) AllReady.nil
        go_simp
        refine hK _ _ ?_; clear hK K
        refine wpAny_ready (rs := [7]) (by kernel_rfl) (by simp) ?_
        refine AllReady.cons rfl (fun K hK => ?_) AllReady.nil
        go_simp
        refine hK _ _ ?_; clear hK K
        refine wpAny_done (by kernel_rfl) ?_ _
        go_wp2
        go_ret
        exact ⟨rfl, k4⟩
      · go_simp
        go_wp2_with (go_at_call 36; refine (Hl.out _).mono ?_; rintro x w3 ⟨g3, cp3, rfl, hg3, hrow3, hb3⟩; have A3 := A0d.below hb3 A0d.lt; have q3 := below_cellOf hb3 q0d (Nat.le_refl _); have k3 := (k0.drew).trans (hb3.mono k0.size))
        refine wpAny_ready (rs := [0]) (by kernel_rfl) (by simp) ?_
        refine AllReady.cons rfl (fun K hK => ?_) AllReady.nil
        refine step_load_arrB A3 rfl _ _ rfl rfl Tryz.underlying98 sizeShades ?_
        refine hK _ _ ?_; clear hK K
        refine wpAny_ready (rs := [3]) (by kernel_rfl) (by simp) ?_
        refine AllReady.cons rfl (fun K hK => ?_) AllReady.nil
        go_simp
        go_wp2_with (go_at_call 73; refine (Hba.out _ _ _ hrow3).mono ?_; rintro x w4 ⟨g4, cp4, rfl, hg4, hcp4, hrow4, hb4⟩; have q4 := below_cellOf hb4 q3 (Nat.le_refl _); have k4 := k3.trans (hb4.mono k3.size))
        refine wpAny_ready (rs := [5]) (by kernel_rfl) (by simp) ?_
        refine AllReady.cons rfl (fun K hK => ?_) AllReady.nil
        go_simp
        go_wp2_with (go_at_call 80; refine (Hah.out _ _ hcp4 _ hrow4).mono ?_; rintro x w5 ⟨⟨AA, cc, rfl⟩, rfl⟩)
        refine wpAny_ready (rs := [6]) (by kernel_rfl) (by simp) ?_
        refine AllReady.cons rfl (fun K hK => ?_) AllReady.nil
        go_simp
        refine hK _ _ ?_; clear hK K
        refine wpAny_ready (rs := [7]) (by kernel_rfl) (by simp) ?_
        refine AllReady.cons rfl (fun K hK => ?_) AllReady.nil
        go_simp
        refine hK _ _ ?_; clear hK K
        refine wpAny_done (by kernel_rfl) ?_ _
        go_wp2
        go_ret
        exact ⟨rfl, k4⟩
end Go.Proofs.YtnlcjbobfhmnmabGreatDoor

namespace Go.Proofs.YtnlcjbobfhmnmabGreatDoor
open Go.RowKit

section
variable (g n cap : Nat) (xs ys : Nat → Int) (d y : Int)
set_option maxRecDepth 100000 in
set_option maxHeartbeats 2000000 in
theorem specLightByStrips_any (hn : n ≤ 1048576) (hs : SmallP n xs ys) (w : World) (hr : PtRow w g n xs ys) :
    Calls Tryz.prog 24 #[.slice (some ⟨g, 0, none⟩) n cap, .int .i64 d, .int .i64 y] w fun e w' => e = .returned (.tuple #[.int .i64 (ifOk (bysC n xs ys d y) (leaK (shdF n xs ys d) y : Nat)), .int .i64 (ifOk (bysC n xs ys d y) (bysS (leaK (shdF n xs ys d) y))), .int .i64 (bysC n xs ys d y)]) ∧ Below w.heap.size w w' := by
  have hlt := hr.lt
  have hk := fun W hW => l02Ok_any g n cap xs ys hn hs W hW
  have hp := fun W => l02Density_any d W
  have hq := fun W => l02Density_any y W
  rcases h : validC n xs ys with _ | _
  · rw [bys_c1 h, ifOk_1, ifOk_1]
    rw [h] at hk
    have Hk := Lib.hid hk; clear hk h
    go_enter Tryz.func24, Tryz.ntmps24
    go_wp2_with fail
    refine (Hk.out _ hr).mono ?_; rintro e w1 ⟨rfl, hb1⟩
    go_wp2_with fail
    go_ret3
    exact ⟨rfl, hb1⟩
  rw [h] at hk
  have Hk := Lib.hid hk; clear hk
  rcases h2 : inB d 0 400 with _ | _
  · rw [bys_c2 h h2, ifOk_2, ifOk_2]
    rw [h2] at hp
    have Hp := Lib.hid hp; clear hp h h2
    go_enter Tryz.func24, Tryz.ntmps24
    go_wp2_with fail
    refine (Hk.out _ hr).mono ?_; rintro e w1 ⟨rfl, hb1⟩
    go_wp2_with fail
    refine (Hp.out _).mono ?_; rintro e w2 ⟨rfl, rfl⟩
    go_wp2_with fail
    go_ret3
    exact ⟨rfl, hb1⟩
  rw [h2] at hp
  have Hp := Lib.hid hp; clear hp
  rcases h3 : inB y 0 400 with _ | _
  · rw [bys_c2' h h3, ifOk_2, ifOk_2]
    rw [h3] at hq
    have Hq := Lib.hid hq; clear hq h h2 h3
    go_enter Tryz.func24, Tryz.ntmps24
    go_wp2_with fail
    refine (Hk.out _ hr).mono ?_; rintro e w1 ⟨rfl, hb1⟩
    go_wp2_with fail
    refine (Hp.out _).mono ?_; rintro e w2 ⟨rfl, rfl⟩
    go_wp2_with fail
    refine (Hq.out _).mono ?_; rintro e w2 ⟨rfl, rfl⟩
    go_wp2_with fail
    go_ret3
    exact ⟨rfl, hb1⟩
  rw [bys_c0 h h2 h3]
  rw [h3] at hq
  have Hq := Lib.hid hq; clear hq
  have hd := inB_true.1 h2
  have hle := fun W hW => l05Least_any g n cap xs ys d y hn (validC_crv h).1 hd.1 hd.2 W hW
  have h37 := leaK_le (shdF n xs ys d) y
  have hno := fun e => And.intro (leaC_6 (f := shdF n xs ys d) (y := y) e) (leaR_no e)
  have hyes := fun e => And.intro (leaC_0 (f := shdF n xs ys d) (y := y) e) (leaR_yes rfl e)
  generalize leaC (shdF n xs ys d) y = C at *
  generalize leaR (shdF n xs ys d) y = R at *
  generalize leaK (shdF n xs ys d) y = K at *
  have Hle := Lib.hid hle; clear hle h h2 h3
  by_cases hK : K = 37
  · obtain ⟨rfl, rfl⟩ := hno hK
    rw [ifOk_6, ifOk_6]
    clear hno hyes
    go_enter Tryz.func24, Tryz.ntmps24
    go_wp2_with fail
    refine (Hk.out _ hr).mono ?_; rintro e w1 ⟨rfl, hb1⟩
    go_wp2_with fail
    refine (Hp.out _).mono ?_; rintro e w2 ⟨rfl, rfl⟩
    go_wp2_with fail
    refine (Hq.out _).mono ?_; rintro e w2 ⟨rfl, rfl⟩
    go_wp2_with fail
    refine (Hle.out _ (hr.below hb1 hlt)).mono ?_; rintro e w3 ⟨rfl, hb3⟩
    go_wp2_with fail
    go_ret3
    exact ⟨rfl, hb1.trans (hb3.mono hb1.size)⟩
  obtain ⟨rfl, rfl⟩ := hyes (by omega)
  rw [ifOk_0, ifOk_0]
  clear hno hyes
  unfold bysS
  by_cases h0 : K = 0
  · subst h0
    rw [if_pos rfl]
    go_enter Tryz.func24, Tryz.ntmps24
    go_wp2_with fail
    refine (Hk.out _ hr).mono ?_; rintro e w1 ⟨rfl, hb1⟩
    go_wp2_with fail
    refine (Hp.out _).mono ?_; rintro e w2 ⟨rfl, rfl⟩
    go_wp2_with fail
    refine (Hq.out _).mono ?_; rintro e w2 ⟨rfl, rfl⟩
    go_wp2_with fail
    refine (Hle.out _ (hr.below hb1 hlt)).mono ?_; rintro e w3 ⟨rfl, hb3⟩
    go_wp2_with fail
    go_ret3
    exact ⟨rfl, hb1.trans (hb3.mono hb1.size)⟩
  · rw [if_neg h0]
    have hd1 : decide ((K : Int) < 0) = false := decide_eq_false (by omega)
    have hd2 : ((K : Int) == 0) = false := by simp; omega
    go_enter Tryz.func24, Tryz.ntmps24
    go_wp2_with fail
    refine (Hk.out _ hr).mono ?_; rintro e w1 ⟨rfl, hb1⟩
    go_wp2_with fail
    refine (Hp.out _).mono ?_; rintro e w2 ⟨rfl, rfl⟩
    go_wp2_with fail
    refine (Hq.out _).mono ?_; rintro e w2 ⟨rfl, rfl⟩
    go_wp2_with fail
    refine (Hle.out _ (hr.below hb1 hlt)).mono ?_; rintro e w3 ⟨rfl, hb3⟩
    go_wp2_with fail
    go_ret3
    exact ⟨rfl, hb1.trans (hb3.mono hb1.size)⟩

/-- The count of the bands ahead, of the coarse strip and of the fine one. -/
theorem bys_coarse {f : Nat → Int} {y : Int} : fstK (6 : Int).toNat (fun j : Nat => f ((fun i : Nat => (0 : Int) + 6 * (i : Int)) j).toNat) y = fstK 6 (fun j => f (6 * j)) y :=
  fstK_congr fun j _ => by
    show f ((0 : Int) + 6 * (j : Int)).toNat = f (6 * j)
    congr 1; omega
theorem bys_fine {f : Nat → Int} {y : Int} {k : Nat} : fstK (6 : Int).toNat (fun j : Nat => f ((fun i : Nat => ((k : Int) + 1) + 1 * (i : Int)) j).toNat) y = fstK 6 (fun j => f (k + 1 + j)) y :=
  fstK_congr fun j _ => by
    show f (((k : Int) + 1) + 1 * (j : Int)).toNat = f (k + 1 + j)
    congr 1; omega

set_option maxRecDepth 100000 in
set_option maxHeartbeats 8000000 in
theorem lightByStrips_any (s : Ers) (hn : n ≤ 1048576) (hs : SmallP n xs ys) (w : World) (hr : PtRow w g n xs ys) (hE : ErrEnv s w) :
    Calls Tryz.prog 52 #[.slice (some ⟨g, 0, none⟩) n cap, .int .i64 d, .int .i64 y] w (CodedX s (.agg #[.int .i64 (ifOk (bysC n xs ys d y) (leaK (shdF n xs ys d) y : Nat)), .int .i64 (ifOk (bysC n xs ys d y) (bysS (leaK (shdF n xs ys d) y)))]) (bysC n xs ys d y) w.heap.size w) := by
  have hlt := hr.lt
  have hk := fun W hW => ValidCurve_any g n cap xs ys hn hs W hW
  have hp := fun W => isDensity_any d W
  have hq := fun W => isDensity_any y W
  have k0 : Below w.heap.size w ((w.alloc (.cells #[.int .i64 y] 2)).alloc (.cells #[.int .i64 0, .int .i64 0] 78)) := ((Below.refl _ _).alloc (Nat.le_refl _) _).alloc (by simp) _
  have q0 : ((w.alloc (.cells #[.int .i64 y] 2)).alloc (.cells #[.int .i64 0, .int .i64 0] 78)).cell? ⟨w.heap.size, 0, none⟩ = some (.int .i64 y) := by
    refine below_cellOf ((Below.refl _ _).alloc (Nat.le_refl _) _) (?_ : (w.alloc (.cells #[.int .i64 y] 2)).cell? ⟨w.heap.size, 0, none⟩ = some (.int .i64 y)) (Nat.le_refl _)
    simp
  have R0 := TwoAt.new (w.alloc (.cells #[.int .i64 y] 2)) 78 0 0
  rw [show (w.alloc (.cells #[.int .i64 y] 2)).heap.size = w.heap.size + 1 by simp] at R0
  have hgi := World.block_lt_of_cell? w _ hE.c_einvalid
  have hgr := World.block_lt_of_cell? w _ hE.c_erange
  have hgn := World.block_lt_of_cell? w _ hE.c_enotfound
  have hg1 : 1 ≠ w.heap.size + 1 := by
    have h : 1 < w.heap.size := hgi
    omega
  have hg2 : w.heap.size + 1 ≠ 1 := fun e => hg1 e.symm
  have hg3 : 2 ≠ w.heap.size + 1 := by
    have h : 2 < w.heap.size := hgr
    omega
  have hg4 : w.heap.size + 1 ≠ 2 := fun e => hg3 e.symm
  have hg5 : 5 ≠ w.heap.size + 1 := by
    have h : 5 < w.heap.size := hgn
    omega
  have hg6 : w.heap.size + 1 ≠ 5 := fun e => hg5 e.symm
  clear hgi hgr hgn
  have HE := Lib.hid hE; clear hE
  have Hr := Lib.hid hr; clear hr
  rcases h : validC n xs ys with _ | _
  · rw [bys_c1 h, ifOk_1, ifOk_1]
    rw [h] at hk
    have Hk := Lib.hid hk; clear hk h hp hq
    go_enter Tryz.func52, Tryz.ntmps52
    go_wp2_with fail
    generalize ((w.alloc (.cells #[.int .i64 y] 2)).alloc (.cells #[.int .i64 0, .int .i64 0] 78)) = W at *
    refine (Hk.out _ (Hr.out.below k0 hlt)).mono ?_; rintro e w1 ⟨rfl, hb1⟩
    have k1 := k0.trans (hb1.mono k0.size)
    obtain ⟨r0, r1, fz⟩ := R0.below hb1 R0.lt
    have z0 := fz 0; have z1 := fz 1
    have hl1 := World.block_lt_of_cell? w1 _ r0
    have ce := (HE.out.below k1 (Nat.le_refl _)).c_einvalid
    clear fz R0 hb1 k0 q0
    go_wp2_with fail
    go_region
    go_wp2_with fail
    exact bodyPost_ret (v := .tuple #[.agg #[.int .i64 0, .int .i64 0], errV s.einvalid]) (by simp [results, Tryz.results52, go_sem, r0, r1]) rfl ⟨_, .einvalid, rfl, by (repeat (first | exact Below.refl _ _ | assumption | apply Below.drew | apply below_drewL | apply below_drewP | (refine Below.alloc ?_ (by first | omega | (simp; done) | (simp; omega)) _) | (refine Below.setCell ?_ (by first | omega | (simp; done) | (simp; omega)) _)))⟩
  rw [h] at hk
  have Hk := Lib.hid hk; clear hk
  rcases h2 : inB d 0 400 with _ | _
  · rw [bys_c2 h h2, ifOk_2, ifOk_2]
    rw [h2] at hp
    have Hp := Lib.hid hp; clear hp h h2 hq
    go_enter Tryz.func52, Tryz.ntmps52
    go_wp2_with fail
    generalize ((w.alloc (.cells #[.int .i64 y] 2)).alloc (.cells #[.int .i64 0, .int .i64 0] 78)) = W at *
    refine (Hk.out _ (Hr.out.below k0 hlt)).mono ?_; rintro e w1 ⟨rfl, hb1⟩
    have k1 := k0.trans (hb1.mono k0.size)
    obtain ⟨r0, r1, fz⟩ := R0.below hb1 R0.lt
    have z0 := fz 0; have z1 := fz 1
    have hl1 := World.block_lt_of_cell? w1 _ r0
    have ce := (HE.out.below k1 (Nat.le_refl _)).c_erange
    clear fz R0 hb1 k0 q0
    go_wp2_with fail
    refine (Hp.out _).mono ?_; rintro e w2 ⟨rfl, rfl⟩
    go_wp2_with fail
    go_region
    go_wp2_with fail
    exact bodyPost_ret (v := .tuple #[.agg #[.int .i64 0, .int .i64 0], errV s.erange]) (by simp [results, Tryz.results52, go_sem, r0, r1]) rfl ⟨_, .erange, rfl, by (repeat (first | exact Below.refl _ _ | assumption | apply Below.drew | apply below_drewL | apply below_drewP | (refine Below.alloc ?_ (by first | omega | (simp; done) | (simp; omega)) _) | (refine Below.setCell ?_ (by first | omega | (simp; done) | (simp; omega)) _)))⟩
  rw [h2] at hp
  have Hp := Lib.hid hp; clear hp
  rcases h3 : inB y 0 400 with _ | _
  · rw [bys_c2' h h3, ifOk_2, ifOk_2]
    rw [h3] at hq
    have Hq := Lib.hid hq; clear hq h h2 h3
    go_enter Tryz.func52, Tryz.ntmps52
    go_wp2_with fail
    generalize ((w.alloc (.cells #[.int .i64 y] 2)).alloc (.cells #[.int .i64 0, .int .i64 0] 78)) = W at *
    refine (Hk.out _ (Hr.out.below k0 hlt)).mono ?_; rintro e w1 ⟨rfl, hb1⟩
    have k1 := k0.trans (hb1.mono k0.size)
    obtain ⟨r0, r1, fz⟩ := R0.below hb1 R0.lt
    have z0 := fz 0; have z1 := fz 1
    have hl1 := World.block_lt_of_cell? w1 _ r0
    have q1 := below_cellOf hb1 q0 (Nat.le_refl _)
    have ce := (HE.out.below k1 (Nat.le_refl _)).c_erange
    clear fz R0 hb1 k0 q0
    go_wp2_with fail
    refine (Hp.out _).mono ?_; rintro e w2 ⟨rfl, rfl⟩
    go_wp2_with fail
    refine (Hq.out _).mono ?_; rintro e w2 ⟨rfl, rfl⟩
    go_wp2_with fail
    go_region
    go_wp2_with fail
    exact bodyPost_ret (v := .tuple #[.agg #[.int .i64 0, .int .i64 0], errV s.erange]) (by simp [results, Tryz.results52, go_sem, r0, r1]) rfl ⟨_, .erange, rfl, by (repeat (first | exact Below.refl _ _ | assumption | apply Below.drew | apply below_drewL | apply below_drewP | (refine Below.alloc ?_ (by first | omega | (simp; done) | (simp; omega)) _) | (refine Below.setCell ?_ (by first | omega | (simp; done) | (simp; omega)) _)))⟩
  rw [bys_c0 h h2 h3]
  rw [h3] at hq
  have Hq := Lib.hid hq; clear hq
  have hd := inB_true.1 h2
  have hc := (validC_crv h).1
  have hsh := fun W hW => shadesOf_any g n cap xs ys d hn hc hd.1 hd.2 W hW
  have hmono : ∀ i j : Nat, i ≤ j → shdF n xs ys d i ≤ shdF n xs ys d j := fun i j hij => darkV_mono hc d (by omega)
  generalize shdF n xs ys d = f at *
  have hb0 := bys_0 (f := f) (y := y)
  have hbn := fun (m : Nat) => bys_no hmono (y := y) (m := m)
  have hby := fun (m r : Nat) => bys_yes hmono (y := y) (m := m) (r := r)
  have hle1 := fstK_le 6 (fun j => f (6 * j)) y
  have hcl1 := fun A W hA hq => bys1_any A w.heap.size f y 0 6 6 ⟨by omega, by omega, by omega, by omega, by omega, by omega, by omega⟩ W hA hq
  rw [bys_coarse] at hcl1
  generalize hm : fstK 6 (fun j => f (6 * j)) y = m at *
  have hle2 := fstK_le 6 (fun j => f (6 * (m - 1) + 1 + j)) y
  have hcl2 := fun A W hA hq => bys1_any A w.heap.size f y (((6 * (m - 1) : Nat) : Int) + 1) 1 6 ⟨by omega, by omega, by omega, by omega, by omega, by omega, by omega⟩ W hA hq
  rw [bys_fine] at hcl2
  replace hbn := hbn m rfl
  replace hby := fun r' => hby m r' rfl
  generalize hr2 : fstK 6 (fun j => f (6 * (m - 1) + 1 + j)) y = r at *
  have hl1 : ∀ (h0 : m ≠ 0) W, Calls Tryz.prog 44 #[stV 0 6 6, .int .i64 ((m : Int) - 1)] W fun x w' => x = .returned (.int .i64 ((6 * (m - 1) : Nat) : Int)) ∧ Below W.heap.size W w' := fun h0 W => by
    rw [show ((6 * (m - 1) : Nat) : Int) = 0 + 6 * ((m : Int) - 1) by omega]
    exact stLight_any 0 6 6 ((m : Int) - 1) (by omega) (by omega) (by omega) (by omega) (by omega) (by omega) W
  have hfi : ∀ W, Calls Tryz.prog 82 #[.int .i64 (((6 * (m - 1) : Nat) : Int) + 1), .int .i64 6] W fun e w' => e = .returned (stV (((6 * (m - 1) : Nat) : Int) + 1) 1 6) ∧ Below W.heap.size W w' := fun W => by
    have h := fineStrip_any (((6 * (m - 1) : Nat) : Int) + 1) 6 (by omega) (by omega) (by omega) (by omega) W
    rwa [show finB 6 (((6 * (m - 1) : Nat) : Int) + 1) = 6 by unfold finB; omega] at h
  have hl2 : ∀ W, Calls Tryz.prog 44 #[stV (((6 * (m - 1) : Nat) : Int) + 1) 1 6, .int .i64 (r : Int)] W fun x w' => x = .returned (.int .i64 ((6 * (m - 1) + 1 + r : Nat) : Int)) ∧ Below W.heap.size W w' := fun W => by
    rw [show ((6 * (m - 1) + 1 + r : Nat) : Int) = (((6 * (m - 1) : Nat) : Int) + 1) + 1 * (r : Int) by omega]
    exact stLight_any _ 1 6 (r : Int) (by omega) (by omega) (by omega) (by omega) (by omega) (by omega) W
  have hn30 : 6 * (m - 1) ≤ 30 := by omega
  generalize 6 * (m - 1) = N1 at *
  have Hl1 := Lib.hid hl1; clear hl1
  have Hfi := Lib.hid hfi; clear hfi
  have Hl2 := Lib.hid hl2; clear hl2
  have Hsh := Lib.hid hsh; clear hsh
  have Hcl1 := Lib.hid hcl1; clear hcl1
  have Hcl2 := Lib.hid hcl2; clear hcl2
  have hl0 := fun W => stLight_any 0 6 6 0 (by omega) (by omega) (by omega) (by omega) (by omega) (by omega) W
  have Hl0 := Lib.hid hl0; clear hl0
  have hK37 := leaK_le f y
  have hC6 := fun e => leaC_6 (f := f) (y := y) e
  have hC0 := fun e => leaC_0 (f := f) (y := y) e
  generalize leaC f y = C at *
  generalize leaK f y = K at *
  clear h h2 h3 hc hmono hm hr2
  have Hb0 := Lib.hid hb0; clear hb0
  have Hbn := Lib.hid hbn; clear hbn
  have Hby := Lib.hid hby; clear hby
  have HC6 := Lib.hid hC6; clear hC6
  have HC0 := Lib.hid hC0; clear hC0
  go_enter Tryz.func52, Tryz.ntmps52
  go_wp2_with fail
  generalize ((w.alloc (.cells #[.int .i64 y] 2)).alloc (.cells #[.int .i64 0, .int .i64 0] 78)) = W at *
  refine (Hk.out _ (Hr.out.below k0 hlt)).mono ?_; rintro e w1 ⟨rfl, hb1⟩
  have k1 := k0.trans (hb1.mono k0.size)
  have R1 := R0.below hb1 R0.lt
  have q1 := below_cellOf hb1 q0 (Nat.le_refl _)
  clear R0 hb1 k0 q0
  go_wp2_with fail
  refine (Hp.out _).mono ?_; rintro e w2 ⟨rfl, rfl⟩
  go_wp2_with fail
  refine (Hq.out _).mono ?_; rintro e w2 ⟨rfl, rfl⟩
  go_wp2_with fail
  refine (Hsh.out _ (Hr.out.below k1 hlt)).mono ?_; rintro e w4 ⟨rfl, hb4⟩
  have k4 := k1.trans (hb4.mono k1.size)
  have R4 := R1.below hb4 R1.lt
  have q4 := below_cellOf hb4 q1 (Nat.le_refl _)
  clear R1 hb4 k1 q1
  have a4 := HasArr.zero37 w4 98 (b := w4.heap.size) rfl
  have a5 := a4.setRow .i64 f
  have kp := below_setRow ((Below.refl w4.heap.size w4).alloc (Nat.le_refl _) (.cells #[.int .i64 0, .int .i64 0, .int .i64 0, .int .i64 0, .int .i64 0, .int .i64 0, .int .i64 0, .int .i64 0, .int .i64 0, .int .i64 0, .int .i64 0, .int .i64 0, .int .i64 0, .int .i64 0, .int .i64 0, .int .i64 0, .int .i64 0, .int .i64 0, .int .i64 0, .int .i64 0, .int .i64 0, .int .i64 0, .int .i64 0, .int .i64 0, .int .i64 0, .int .i64 0, .int .i64 0, .int .i64 0, .int .i64 0, .int .i64 0, .int .i64 0, .int .i64 0, .int .i64 0, .int .i64 0, .int .i64 0, .int .i64 0, .int .i64 0] 98)) (b := w4.heap.size) (Nat.le_refl _) (arrV .i64 37 f)
  have k5 := k4.trans (kp.mono k4.size)
  have R5 := R4.below kp R4.lt
  have q5 := below_cellOf kp q4 (Nat.le_refl _)
  have zA : w.heap.size ≤ w4.heap.size := k4.size
  clear R4 k4 q4 kp
  go_wp2_with (refine wpList_store_arr a4 _ _ _ rfl rfl rfl rfl sizeShades ?_)
  clear a4
  have hz5 : ((w4.alloc (.cells #[.int .i64 0, .int .i64 0, .int .i64 0, .int .i64 0, .int .i64 0, .int .i64 0, .int .i64 0, .int .i64 0, .int .i64 0, .int .i64 0, .int .i64 0, .int .i64 0, .int .i64 0, .int .i64 0, .int .i64 0, .int .i64 0, .int .i64 0, .int .i64 0, .int .i64 0, .int .i64 0, .int .i64 0, .int .i64 0, .int .i64 0, .int .i64 0, .int .i64 0, .int .i64 0, .int .i64 0, .int .i64 0, .int .i64 0, .int .i64 0, .int .i64 0, .int .i64 0, .int .i64 0, .int .i64 0, .int .i64 0, .int .i64 0, .int .i64 0] 98)).setRow w4.heap.size (arrV .i64 37 f)).heap.size = w4.heap.size + 1 := by simp
  generalize ((w4.alloc (.cells #[.int .i64 0, .int .i64 0, .int .i64 0, .int .i64 0, .int .i64 0, .int .i64 0, .int .i64 0, .int .i64 0, .int .i64 0, .int .i64 0, .int .i64 0, .int .i64 0, .int .i64 0, .int .i64 0, .int .i64 0, .int .i64 0, .int .i64 0, .int .i64 0, .int .i64 0, .int .i64 0, .int .i64 0, .int .i64 0, .int .i64 0, .int .i64 0, .int .i64 0, .int .i64 0, .int .i64 0, .int .i64 0, .int .i64 0, .int .i64 0, .int .i64 0, .int .i64 0, .int .i64 0, .int .i64 0, .int .i64 0, .int .i64 0, .int .i64 0] 98)).setRow w4.heap.size (arrV .i64 37 f)) = W5 at *
  generalize w4.heap.size = A at *
  have C6 := StAt.new W5 26 0 6 6
  rw [hz5] at C6
  clear hz5
  have kq := (Below.refl W5.heap.size W5).alloc (Nat.le_refl _) (.cells #[.int .i8 0, .int .i8 6, .int .i8 6] 26)
  have k6 := k5.trans (kq.mono k5.size)
  have R6 := R5.below kq R5.lt
  have q6 := below_cellOf kq q5 (Nat.le_refl _)
  have a6 := a5.below kq a5.lt
  clear R5 k5 q5 kq a5
  generalize W5.alloc (.cells #[.int .i8 0, .int .i8 6, .int .i8 6] 26) = W6 at *
  refine (Hcl1.out _ _ a6 q6).mono ?_; rintro e w7 ⟨rfl, hb7⟩
  have k7 := k6.trans (hb7.mono k6.size)
  have R7 := R6.below hb7 R6.lt
  have q7 := below_cellOf hb7 q6 (Nat.le_refl _)
  have a7 := a6.below hb7 a6.lt
  have C7 := C6.below hb7 C6.lt
  clear R6 k6 q6 a6 C6 hb7
  obtain ⟨c0, c1, c2⟩ := C7
  by_cases h0 : m = 0
  · subst h0
    have hKz := Hb0.out rfl
    subst hKz
    have hCz := HC0.out (by omega)
    subst hCz
    rw [ifOk_0, ifOk_0]
    unfold bysS
    rw [if_pos rfl]
    go_wp2_with fail
    refine (Hl0.out _).mono ?_; rintro e w8 ⟨rfl, hb8⟩
    have k8 := k7.trans (hb8.mono k7.size)
    obtain ⟨r0, r1, fz⟩ := R7.below hb8 R7.lt
    have z0 := fz 0; have z1 := fz 1
    have hl8 := World.block_lt_of_cell? w8 _ r0
    clear fz R7 hb8 k7 q7 a7 c0 c1 c2
    go_wp2_with fail
    exact bodyPost_ret (v := .tuple #[.agg #[.int .i64 0, .int .i64 1], .nilIface]) (by simp [results, Tryz.results52, go_sem, r0, r1]) rfl ⟨_, .ok, rfl, by (repeat (first | exact Below.refl _ _ | assumption | apply Below.drew | apply below_drewL | apply below_drewP | (refine Below.alloc ?_ (by first | omega | (simp; done) | (simp; omega)) _) | (refine Below.setCell ?_ (by first | omega | (simp; done) | (simp; omega)) _)))⟩
  have hd2 : ((m : Int) == 0) = false := by simp; omega
  have Hl1' := Lib.hid (Hl1.out h0)
  clear Hl1
  go_wp2_with fail
  refine (Hl1'.out _).mono ?_; rintro e w8 ⟨rfl, hb8⟩
  have k8 := k7.trans (hb8.mono k7.size)
  have R8 := R7.below hb8 R7.lt
  have q8 := below_cellOf hb8 q7 (Nat.le_refl _)
  have a8 := a7.below hb8 a7.lt
  clear R7 k7 q7 a7 hb8 c0 c1 c2 hd2
  go_wp2_with fail
  refine (Hfi.out _).mono ?_; rintro e w9 ⟨rfl, hb9⟩
  have k9 := k8.trans (hb9.mono k8.size)
  have R9 := R8.below hb9 R8.lt
  have q9 := below_cellOf hb9 q8 (Nat.le_refl _)
  have a9 := a8.below hb9 a8.lt
  clear R8 k8 q8 a8 hb9
  have C10 := StAt.new w9 26 ((N1 : Int) + 1) 1 6
  have kq := (Below.refl w9.heap.size w9).alloc (Nat.le_refl _) (.cells #[.int .i8 ((N1 : Int) + 1), .int .i8 1, .int .i8 6] 26)
  have k10 := k9.trans (kq.mono k9.size)
  have R10 := R9.below kq R9.lt
  have q10 := below_cellOf kq q9 (Nat.le_refl _)
  have a10 := a9.below kq a9.lt
  clear R9 k9 q9 kq a9
  go_wp2_with fail
  generalize w9.alloc (.cells #[.int .i8 ((N1 : Int) + 1), .int .i8 1, .int .i8 6] 26) = W10 at *
  refine (Hcl2.out _ _ a10 q10).mono ?_; rintro e w11 ⟨rfl, hb11⟩
  have k11 := k10.trans (hb11.mono k10.size)
  have R11 := R10.below hb11 R10.lt
  have C11 := C10.below hb11 C10.lt
  clear R10 k10 q10 a10 C10 hb11
  generalize w9.heap.size = S9 at *
  obtain ⟨c0, c1, c2⟩ := C11
  by_cases h6 : r = 6
  · have hKz := Hbn.out h0 h6
    subst h6
    have hCz := HC6.out hKz
    subst hCz
    rw [ifOk_6, ifOk_6]
    have ce := (HE.out.below k11 (Nat.le_refl _)).c_enotfound
    obtain ⟨r0, r1, fz⟩ := R11
    have z0 := fz 0; have z1 := fz 1
    have hl8 := World.block_lt_of_cell? w11 _ r0
    clear fz
    go_wp2_with fail
    go_region
    go_wp2_with fail
    exact bodyPost_ret (v := .tuple #[.agg #[.int .i64 0, .int .i64 0], errV s.enotfound]) (by simp [results, Tryz.results52, go_sem, r0, r1]) rfl ⟨_, .enotfound, rfl, by (repeat (first | exact Below.refl _ _ | assumption | apply Below.drew | apply below_drewL | apply below_drewP | (refine Below.alloc ?_ (by first | omega | (simp; done) | (simp; omega)) _) | (refine Below.setCell ?_ (by first | omega | (simp; done) | (simp; omega)) _)))⟩
  obtain ⟨hKz, hK37'⟩ := Hby.out r h0 rfl (by omega)
  rw [← hKz] at Hl2
  have hCz := HC0.out (by omega)
  subst hCz
  have hS := Lib.hid (show bysS K = 2 by unfold bysS; rw [if_neg (by omega)])
  have hd3 : ((r : Int) == 6) = false := by simp; omega
  clear hKz
  go_wp2_with fail
  refine (Hl2.out _).mono ?_; rintro e w12 ⟨rfl, hb12⟩
  have k12 := k11.trans (hb12.mono k11.size)
  obtain ⟨r0, r1, fz⟩ := R11.below hb12 R11.lt
  have z0 := fz 0; have z1 := fz 1
  have hl8 := World.block_lt_of_cell? w12 _ r0
  clear fz R11 hb12 k11 c0 c1 c2
  go_wp2_with fail
  exact bodyPost_ret (v := .tuple #[.agg #[.int .i64 (K : Int), .int .i64 2], .nilIface]) (by simp [results, Tryz.results52, go_sem, r0, r1]) rfl ⟨_, .ok, by rw [ifOk_0, ifOk_0, hS.out], by (repeat (first | exact Below.refl _ _ | assumption | apply Below.drew | apply below_drewL | apply below_drewP | (refine Below.alloc ?_ (by first | omega | (simp; done) | (simp; omega)) _) | (refine Below.setCell ?_ (by first | omega | (simp; done) | (simp; omega)) _)))⟩

set_option maxRecDepth 100000 in
set_option maxHeartbeats 1000000 in
theorem LightByStrips_any (s : Ers) (hn : n ≤ 1048576) (hs : SmallP n xs ys) (w : World) (hr : PtRow w g n xs ys) (hE : ErrEnv s w) :
    Calls Tryz.prog 23 #[.slice (some ⟨g, 0, none⟩) n cap, .int .i64 d, .int .i64 y] w fun e w' => e = .returned (.tuple #[.int .i64 (ifOk (bysC n xs ys d y) (leaK (shdF n xs ys d) y : Nat)), .int .i64 (ifOk (bysC n xs ys d y) (bysS (leaK (shdF n xs ys d) y))), .int .i64 (bysC n xs ys d y)]) ∧ Below w.heap.size w w' := by
  have hk := fun W hr hE => lightByStrips_any g n cap xs ys d y s hn hs W hr hE
  generalize ifOk (bysC n xs ys d y) (leaK (shdF n xs ys d) y : Nat) = V at hk ⊢
  generalize ifOk (bysC n xs ys d y) (bysS (leaK (shdF n xs ys d) y)) = V2 at hk ⊢
  generalize bysC n xs ys d y = C at hk ⊢
  have Hk := Lib.hid hk; clear hk
  go_enter Tryz.func23, Tryz.ntmps23
  go_wp2_with fail
  refine (Hk.out _ hr hE).mono ?_; rintro e w1 ⟨v, hv, rfl, hb1⟩
  go_wp2_with fail
  have hE1 := (hE.below hb1 (Nat.le_refl _)).alloc (.cells #[.int .i64 V, .int .i64 V2] 78)
  have hB : Below w.heap.size w (w1.alloc (.cells #[.int .i64 V, .int .i64 V2] 78)) := hb1.alloc hb1.size _
  have d0 : (w1.alloc (.cells #[.int .i64 V, .int .i64 V2] 78)).cell? ⟨w1.heap.size, 0, none⟩ = some (.int .i64 V) := by simp
  have d1 : (w1.alloc (.cells #[.int .i64 V, .int .i64 V2] 78)).cell? ⟨w1.heap.size, 1, none⟩ = some (.int .i64 V2) := by simp
  generalize w1.alloc (.cells #[.int .i64 V, .int .i64 V2] 78) = W at hE1 hB d0 d1 ⊢
  refine wp_region_quietD (Below W.heap.size W) (by kernel_rfl) (by kernel_rfl) (below_drew1 _) ?_
  have n0 := below_nonempty W
  have e0 := inCell d0
  have e1 := inCell d1
  repeat (go_big_quiet_step ((go_at_call 47; exact inCallS _ (codeOf_any hv _ (hE1.below (WIn.ok _) (Nat.le_refl _))))))
  refine wpQuiet_nil ?_
  rintro _ ⟨x, rfl⟩
  go_wp2
  go_ret3
  exact ⟨rfl, hB.trans (x.ok.mono hB.size)⟩

theorem specLightByStrips_ex (b0 n0 c0 : Nat) (xs ys : Nat → Int) (d y : Int) (hn : n0 ≤ 1048576) (hs : SmallP n0 xs ys) (w : World) (hr : PtRow w b0 n0 xs ys) :
    Calls Tryz.prog 24 #[.slice (some ⟨b0, 0, none⟩) n0 c0, .int .i64 d, .int .i64 y] w fun e w' => e = .returned (.tuple #[.int .i64 (ifOk (bysC n0 xs ys d y) (leaK (shdF n0 xs ys d) y : Nat)), .int .i64 (ifOk (bysC n0 xs ys d y) (bysS (leaK (shdF n0 xs ys d) y))), .int .i64 (bysC n0 xs ys d y)]) ∧ Below w.heap.size w w' := specLightByStrips_any b0 n0 c0 xs ys d y hn hs w hr
theorem LightByStrips_ex (s : Ers) (b0 n0 c0 : Nat) (xs ys : Nat → Int) (d y : Int) (hn : n0 ≤ 1048576) (hs : SmallP n0 xs ys) (w : World) (hr : PtRow w b0 n0 xs ys) (hE : ErrEnv s w) :
    Calls Tryz.prog 23 #[.slice (some ⟨b0, 0, none⟩) n0 c0, .int .i64 d, .int .i64 y] w fun e w' => e = .returned (.tuple #[.int .i64 (ifOk (bysC n0 xs ys d y) (leaK (shdF n0 xs ys d) y : Nat)), .int .i64 (ifOk (bysC n0 xs ys d y) (bysS (leaK (shdF n0 xs ys d) y))), .int .i64 (bysC n0 xs ys d y)]) ∧ Below w.heap.size w w' := LightByStrips_any b0 n0 c0 xs ys d y s hn hs w hr hE
end
end Go.Proofs.YtnlcjbobfhmnmabGreatDoor

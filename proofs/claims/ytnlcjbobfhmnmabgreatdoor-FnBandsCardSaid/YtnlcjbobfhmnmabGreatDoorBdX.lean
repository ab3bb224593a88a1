/-
  Plain facts of strips and bands: what LAW FnBands asks of the numbers. No condition.
-/
import Derived.Test.YtnlcjbobfhmnmabGreatDoorBysX
import Derived.Test.YtnlcjbobfhmnmabGreatDoorPlainRS
import Derived.Test.YtnlcjbobfhmnmabGreatDoorBands
import Derived.Test.YtnlcjbobfhmnmabGreatDoorFiner
import Derived.Test.YtnlcjbobfhmnmabGreatDoorNearB
import Derived.Test.YtnlcjbobfhmnmabGreatDoorPlainTimes2
import Derived.Test.YtnlcjbobfhmnmabGreatDoorTab
import Derived.Test.YtnlcjbobfhmnmabGreatDoorQX
import Derived.BigQuiet
namespace Go.Proofs.YtnlcjbobfhmnmabGreatDoor
open Go.RowKit

theorem okT_of {a b c : Int} (h : StOk a b c) : okT a b c = true := by
  have h1 := h.a0; have h2 := h.a1; have h3 := h.b0; have h4 := h.b1; have h5 := h.c0; have h6 := h.c1
  have h7 := h.light (k := c - 1) (by omega) (by omega)
  simp only [okT, Bool.and_eq_true, inB_true]
  exact ⟨⟨⟨⟨h1, h2⟩, h3, h4⟩, h5, h6⟩, h7⟩
theorem rs_own {a b c : Int} (h : StOk a b c) : rsV (stripTx a b c) = stV a b c ∧ rsC (stripTx a b c) = 0 := by
  have h0 : stripTx a b c ≠ [] := by
    rw [stripTx_yes (okT_of h)]; unfold stripT; simp
  obtain ⟨hg, e1, e2, e3⟩ := rs_back rfl h0
  obtain ⟨x1, x2⟩ := rs_yes hg
  rw [e1, e2, e3] at x2
  exact ⟨x2, x1⟩
/-- The lights rise, and the covered ones are as great. -/
theorem sumS_le {xs : Nat → Int} {m : Nat} (h : ∀ j, j < m → 0 ≤ xs j ∧ xs j ≤ 36) : ∀ k, k < m → tm (xs k) ≤ sumS xs (k + 1) ∧ sumS xs k ≤ sumS xs (k + 1) := fun k hk => by
  have h1 := sumS_bd (xs := xs) k (fun j hj => h j (by omega))
  have h2 := h k hk
  have h3 := tm_bd (xs k) h2.1 (by omega)
  simp only [sumS]
  omega
theorem thin_mono {x y : Int} (h : x ≤ y) : thin x ≤ thin y := by
  have hx := thin_bd x
  have hy := thin_bd y
  rcases Int.lt_or_le (thin y) (thin x) with h1 | h1
  · have h2 := (thin_spec x).1
    have h3 := (thin_spec y).2
    have h4 : tm (thin x) ≤ x := by omega
    have h5 : y < tm (thin y + 1) := by omega
    have h6 := tm_le (thin y + 1) (thin x) (by omega) (by omega) (by omega)
    omega
  · exact h1
theorem cov_ge {a b c : Int} (h : StOk a b c) {k : Nat} (hk : (k : Int) < c) : a + b * (k : Int) ≤ covT a b k := by
  have hl := h.light (k := k) (by omega) hk
  have h1 := (sumS_le (xs := fun i => a + b * (i : Int)) (m := k + 1) (fun j hj => h.light (k := j) (by omega) (by omega)) k (by omega)).1
  have h2 := thin_mono h1
  rw [thin_tm _ hl.1 hl.2] at h2
  exact h2
theorem cov_mono {a b c : Int} (h : StOk a b c) {k : Nat} (hk : (k : Int) + 1 < c) : covT a b k ≤ covT a b (k + 1) :=
  thin_mono (sumS_le (xs := fun i => a + b * (i : Int)) (m := k + 2) (fun j hj => h.light (k := j) (by omega) (by omega)) (k + 1) (by omega)).2
section
variable {n : Nat} {xs ys : Nat → Int}
theorem shd_mono (hc : Crv n xs ys) (d : Int) {i j : Nat} (h : i ≤ j) : shdF n xs ys d i ≤ shdF n xs ys d j := darkV_mono hc d (by omega)
/-- What the first loop asks. -/
theorem bands_loop {a b c d : Int} (h : StOk a b c) (hc : Crv n xs ys) {k : Nat} (hk : (k : Int) < c) :
    a + b * (k : Int) ≤ covT a b k ∧ bndV n xs ys d (fun j : Nat => a + b * (j : Int)) k ≤ bndV n xs ys d (covT a b) k ∧
      (0 < k → bndV n xs ys d (fun j : Nat => a + b * (j : Int)) (k - 1) ≤ bndV n xs ys d (fun j : Nat => a + b * (j : Int)) k ∧ bndV n xs ys d (covT a b) (k - 1) ≤ bndV n xs ys d (covT a b) k) := by
  have h1 := cov_ge h hk
  have hl := h.light (k := k) (by omega) hk
  have hv := h.cov hk
  refine ⟨h1, shd_mono hc d (by show (a + b * (k : Int)).toNat ≤ (covT a b k).toNat; omega), fun h0 => ?_⟩
  obtain ⟨m, rfl⟩ : ∃ m, k = m + 1 := ⟨k - 1, by omega⟩
  have hl' := h.light (k := m) (by omega) (by omega)
  have hv' := h.cov (k := m) (by omega)
  have h2 := cov_mono h (k := m) (by omega)
  have h3 : b * ((m + 1 : Nat) : Int) = b * (m : Int) + b := by
    rw [show ((m + 1 : Nat) : Int) = (m : Int) + 1 by omega, Int.mul_add, Int.mul_one]
  have h4 := h.b0
  have h5 : a + b * (m : Int) ≤ a + b * ((m + 1 : Nat) : Int) := by omega
  exact ⟨shd_mono hc d (by show (a + b * (m : Int)).toNat ≤ (a + b * ((m + 1 : Nat) : Int)).toNat; omega), shd_mono hc d (by show (covT a b m).toNat ≤ (covT a b (m + 1)).toNat; omega)⟩
end
theorem nearK_min (g : Nat → Int) : ∀ n j, j < n → g (nearK g n) ≤ g j
  | 0, _, h => by omega
  | n + 1, j, h => by
    have ih := nearK_min g n
    rw [nearK]
    split
    · rename_i h1
      rcases Nat.lt_or_ge j n with h2 | h2
      · have := ih j h2; omega
      · obtain rfl : j = n := by omega
        exact Int.le_refl _
    · rename_i h1
      rcases Nat.lt_or_ge j n with h2 | h2
      · exact ih j h2
      · obtain rfl : j = n := by omega
        omega
theorem bandB_of {n : Nat} {xs : Nat → Int} {t : Int} (h1 : 1 ≤ n ∧ n ≤ 20) (h2 : ∀ j, j < n → 0 ≤ xs j ∧ xs j ≤ 400) (h3 : 0 ≤ t ∧ t ≤ 400) : bandB n xs t = true := by
  simp only [bandB, Bool.and_eq_true, inB_true, allT_iff]
  exact ⟨⟨by omega, fun j hj => h2 j hj⟩, h3⟩
/-- What the second loop asks: near is the number of the nearest, off its distance; c7 the code of the first band and at its number. -/
theorem bands_near {n : Nat} {xs : Nat → Int} {t : Int} {k : Nat} (hk : k < n) (hB : bandB n xs t = true) :
    ¬ max (xs k - t) (-(xs k - t)) < max (nrV n xs t) (-(nrV n xs t)) ∧ ¬ ((fstC n xs t ≠ 0 ∨ (k : Int) < ifOk (fstC n xs t) (fstK n xs t : Nat)) ∧ 0 ≤ xs k - t) := by
  constructor
  · have h1 := nearK_min (dstB xs t) n k hk
    unfold nrV
    unfold dstB at h1 ⊢
    generalize xs (nearK (fun j => max (xs j - t) (t - xs j)) n) = m at *
    omega
  · rintro ⟨h1, h2⟩
    rcases Nat.lt_or_ge (fstK n xs t) n with h3 | h3
    · have h4 := fst_0 hB h3
      rw [h4] at h1
      have h5 : k < fstK n xs t := by
        rcases h1 with h1 | h1
        · exact absurd rfl h1
        · simp [ifOk] at h1; omega
      have := fstK_ahead h5
      omega
    · have h4 : fstK n xs t = n := by have := fstK_le n xs t; omega
      have := fstK_ahead (xs := xs) (t := t) (j := k) (n := n) (by omega)
      omega
/-- What the third loop asks. -/
theorem bands_light {n : Nat} {xs ys : Nat → Int} {d y : Int} {k : Nat} (hc : Crv n xs ys) (hv : validC n xs ys = true) (hd : inB d 0 400 = true) (hy : inB y 0 400 = true) (hk : k < 37) :
    decide (y ≤ bndV n xs ys d (fun j : Nat => (k : Int) + 1 * (j : Int)) 0) = (decide (bysC n xs ys d y = 0) && decide (ifOk (bysC n xs ys d y) (leaK (shdF n xs ys d) y : Nat) ≤ (k : Int))) := by
  have e : bndV n xs ys d (fun j : Nat => (k : Int) + 1 * (j : Int)) 0 = shdF n xs ys d k := by unfold bndV; congr 1
  rw [e, bys_c0 hv hd hy]
  have hs := firstK_spec (n := 37) (q := fun k => decide (y ≤ shdF n xs ys d k))
  change leaK (shdF n xs ys d) y ≤ 37 ∧ (∀ j, j < leaK (shdF n xs ys d) y → _) ∧ (leaK (shdF n xs ys d) y < 37 → decide (y ≤ shdF n xs ys d (leaK (shdF n xs ys d) y)) = true) at hs
  obtain ⟨s1, s2, s3⟩ := hs
  rcases Nat.lt_or_ge (leaK (shdF n xs ys d) y) 37 with h1 | h1
  · rw [leaC_0 h1]
    rcases Nat.lt_or_ge k (leaK (shdF n xs ys d) y) with h2 | h2
    · rw [s2 k h2]; simp [ifOk]; try omega
    · have h3 := shd_mono hc d h2
      have h4 := of_decide_eq_true (s3 h1)
      rw [decide_eq_true (by omega : y ≤ shdF n xs ys d k)]; simp [ifOk]; try omega
  · have h2 : leaK (shdF n xs ys d) y = 37 := by omega
    rw [leaC_6 h2, s2 k (by omega)]; simp
/-- What the last region asks. -/
theorem bands_finer {a b c k : Int} (h : StOk a b c) (h0 : 0 ≤ k) (h1 : k < c) : finC a b c k = 0 ∧ finV a b c k = stV (finF a b k) 1 (finB c (finF a b k)) ∧ okT (finF a b k) 1 (finB c (finF a b k)) = true ∧ finF a b k ≤ a + b * k := by
  obtain ⟨e1, e2⟩ := fin_0 (k := k) (okT_of h) (inB_true.2 ⟨h0, by omega⟩)
  have hb := fin_bd h h0 (by omega)
  have hl := h.light h0 h1
  have hb0 := h.b0
  refine ⟨e1, e2, okT_of ⟨hb.1.1, hb.1.2, by omega, by omega, hb.2.1, hb.2.2, ?_⟩, ?_⟩
  · unfold finB; omega
  · unfold finF; omega
end Go.Proofs.YtnlcjbobfhmnmabGreatDoor

namespace Go.Proofs.YtnlcjbobfhmnmabGreatDoor
open Go.RowKit

/-- A new list of n numbers, its capacity no less, with the code 0. -/
def RowC (n : Nat) (xs : Nat → Int) (w : World) (e : Ending) (w' : World) : Prop :=
  ∃ g cap, e = .returned (.tuple #[.slice (some ⟨g, 0, none⟩) n cap, .int .i64 0]) ∧ w.heap.size ≤ g ∧ n ≤ cap ∧ IRow w' g n xs ∧ Below w.heap.size w w'
/-- A new list of n numbers with the code 0. -/
def RowZ (n : Nat) (xs : Nat → Int) (w : World) (e : Ending) (w' : World) : Prop :=
  ∃ g cap, e = .returned (.tuple #[.slice (some ⟨g, 0, none⟩) n cap, .int .i64 0]) ∧ w.heap.size ≤ g ∧ IRow w' g n xs ∧ Below w.heap.size w w'
theorem lst_rowZ {n : Nat} {xs : Nat → Int} {w w' : World} {e : Ending} (h : LstC 0 n xs w e w') (hn : 0 < n) : RowZ n xs w e w' := by
  obtain ⟨v, rfl, ⟨A, cap, rfl, h0⟩, hb⟩ := h
  rcases h0 with h0 | ⟨g, m, h, rfl, hL, _, hm, hr, hf⟩
  · omega
  · exact ⟨g, cap, rfl, hL, ⟨m, h, by omega, hr, fun j hj => hf j (by omega)⟩, hb⟩

set_option maxRecDepth 100000 in
set_option maxHeartbeats 2000000 in
theorem l05LightsC_any (a b c : Int) (h : StOk a b c) (w : World) :
    Calls Tryz.prog 67 #[stV a b c] w (MadeNC c.toNat (fun j => a + b * (j : Int)) w) := by
  have ha0 := h.a0; have ha1 := h.a1; have hb0 := h.b0; have hb1 := h.b1; have hc0 := h.c0; have hc1 := h.c1
  have k0 : Below w.heap.size w (w.alloc (.cells #[.int .i8 a, .int .i8 b, .int .i8 c] 26)) := (Below.refl _ _).alloc (Nat.le_refl _) _
  have S0 := StAt.new w 26 a b c
  have hbd := fun (k : Nat) (hk : (k : Int) < c) => h.light (k := k) (by omega) hk
  generalize hF : (fun j : Nat => a + b * (j : Int)) = F
  have hFk : ∀ k : Nat, F k = a + b * (k : Int) := fun k => by rw [← hF]
  clear hF
  have HFk := Lib.hid hFk; clear hFk
  have Hbd := Lib.hid hbd; clear hbd
  have o1 := World.ownsRow_lit (size := 1) (e := 2) (base := w.heap.size + 1) (w.alloc (.cells #[.int .i8 a, .int .i8 b, .int .i8 c] 26)) #[] 0 (by simp) (Nat.zero_le _) rfl
  simp only [World.size_alloc] at o1
  have S1 := S0.alloc (.cells #[] 2)
  have k1 := k0.alloc k0.size (.cells #[] 2)
  go_enter Tryz.func67, Tryz.ntmps67
  go_wp2_with fail
  go_loopw [3, 4] (fun lv iv wr => ∃ k : Nat, iv = .int .i64 k ∧ (k : Int) ≤ c ∧ wr.ownsRow (w.heap.size + 1) 2 1 lv k (tabV F k) ∧ StAt wr w.heap.size a b c ∧ Below w.heap.size w wr) (fun _ iv _ => (c - intOf iv).toNat)
  case atStart => exact ⟨0, rfl, by omega, o1, S1, k1⟩
  case round =>
    clear o1 S0 S1 k0 k1
    obtain ⟨k, rfl, hk, hown, S2, k2⟩ := hrel
    have S9 := S2
    obtain ⟨s0, s1, s2⟩ := S9
    by_cases hkc : (k : Int) < c
    rotate_left
    · have e : c.toNat = k := by omega
      rw [e]
      obtain ⟨g, cap, rfl, hg, hcap, hrow⟩ := irow_ownC hown (by omega)
      go_wp2_with fail
      go_ret
      exact ⟨g, cap, rfl, by omega, hcap, hrow, k2⟩
    have hv := HFk.out k
    have hvb := Hbd.out k hkc
    rw [Int.mul_comm b] at hv hvb
    generalize hQ : (k : Int) * b = Q at hv hvb
    have HV := Lib.hid hv; clear hv
    have i2 : IntKind.i64.wrap Q = Q := IntWalk.i64_in _ (by omega)
    have i3 : IntKind.i64.wrap (a + Q) = a + Q := IntWalk.i64_in _ (by omega)
    have hsl := S2.lt
    have z2 := k2.size
    have hfar := fun jj hjj => hown.lt jj hjj
    go_wp2_with (at_builtin; refine wpList_append1 rfl _ _ rfl rfl hown rfl (by omega) (by omega) HV.out ?_)
    intro v' w5 hown5 hg2 hat
    have S5 := S2.far hg2 (fun e => by have := (hfar _ e.symm).1; omega)
    have k5 : Below w.heap.size w w5 := k2.grown hg2 k2.size (fun jj hjj => by have := (hfar jj hjj).1; omega)
    clear hg2 hown k2 hat s0 s1 s2 S2
    go_wp2_with fail
    go_roundw
    case rel => exact ⟨k + 1, by go_num, by omega, hown5, S5, k5⟩
    case measure => simp [intOf]; omega

set_option maxRecDepth 100000 in
set_option maxHeartbeats 4000000 in
theorem l05BandsC_any (a b c : Int) (ha : -128 ≤ a) (ha' : a ≤ 127) (hb : -128 ≤ b) (hb' : b ≤ 127) (hc : -128 ≤ c) (hc' : c ≤ 127) (h : okT a b c = true) (g n cap : Nat) (xs ys : Nat → Int) (d : Int) (hn : n ≤ 1048576) (hs : SmallP n xs ys) (h2 : validC n xs ys = true) (h3 : inB d 0 400 = true) (w : World) (hr : PtRow w g n xs ys) :
    Calls Tryz.prog 41 #[stV a b c, .slice (some ⟨g, 0, none⟩) n cap, .int .i64 d, .bool false] w (RowC c.toNat (bndV n xs ys d (fun j : Nat => a + b * (j : Int))) w) := by
  have k0 : Below w.heap.size w (w.alloc (.cells #[.int .i8 a, .int .i8 b, .int .i8 c] 26)) := (Below.refl _ _).alloc (Nat.le_refl _) _
  have S0 := StAt.new w 26 a b c
  have hlt := hr.lt
  have hv := fun W => l05Ok_any a b c ha ha' hb hb' hc hc' W
  have hk := fun W hr => l02Ok_any g n cap xs ys hn hs W hr
  have hp := fun W => l02Density_any d W
  rw [h] at hv
  have Hv := Lib.hid hv; clear hv
  rw [h2] at hk
  have Hk := Lib.hid hk; clear hk
  rw [h3] at hp
  have Hp := Lib.hid hp; clear hp
  have hdb := inB_true.1 h3
  have hl0 := fun W => l05LightsC_any a b c (okT_ok h) W
  have hl := fun W => l05Lights_any a b c (okT_ok h) W
  have hbd : ∀ (k : Nat), (k : Int) < c → 0 ≤ (fun j : Nat => a + b * (j : Int)) k ∧ (fun j : Nat => a + b * (j : Int)) k ≤ 36 := fun (k : Nat) (hk : (k : Int) < c) => (okT_ok h).light (k := k) (by omega) hk
  have hc1 := (okT_ok h).c1
  have hc0 := (okT_ok h).c0
  have hdk := fun (x : Int) (hx : 0 ≤ x) (hx' : x ≤ 36) W hW => l05Dark_any g n cap xs ys d x hn (validC_crv h2).1 hdb.1 hdb.2 (by omega) (by omega) W hW
  generalize hF : (fun j : Nat => a + b * (j : Int)) = F at *
  have hX := fun (k : Nat) (hk : 0 ≤ F k) => bndV_dark (n := n) (xs := xs) (ys := ys) (d := d) (L := F) (j := k) hk
  generalize bndV n xs ys d F = X at *
  generalize darkV n xs ys d = dk at *
  have Hl0 := Lib.hid hl0; clear hl0
  have Hl := Lib.hid hl; clear hl
  have Hdk := Lib.hid hdk; clear hdk
  have HX := Lib.hid hX; clear hX
  have Hbd := Lib.hid hbd; clear hbd h h2 h3 hF
  go_enter Tryz.func41, Tryz.ntmps41
  go_wp2_with fail
  refine (Hv.out _).mono ?_; rintro e w1 ⟨rfl, hb1⟩
  have k1 := k0.trans (hb1.mono k0.size)
  have S1 := S0.below hb1 S0.lt
  go_wp2_with fail
  refine (Hk.out _ (hr.below k1 hlt)).mono ?_; rintro e w2 ⟨rfl, hb2⟩
  have k2 := k1.trans (hb2.mono k1.size)
  have S2 := S1.below hb2 S1.lt
  go_wp2_with fail
  refine (Hp.out _).mono ?_; rintro e w3 ⟨rfl, rfl⟩
  have S9 := S2
  obtain ⟨s0, s1, s2⟩ := S9
  have z2 := k2.size
  go_wp2_with fail
  refine (Hl0.out _).mono ?_; rintro e w4 ⟨g4, cp4, rfl, hg4, hcp, hrow, hb4⟩
  have k4 := k2.trans (hb4.mono k2.size)
  have z4 := k4.size
  clear s0 s1 s2 S2 S1 S0
  have hgw : w.heap.size ≤ g4 := by omega
  go_wp2_with fail
  go_loopw [11] (fun iv wr => ∃ k : Nat, iv = .int .i64 k ∧ (k : Int) ≤ c ∧ IRow wr g4 c.toNat (mixC F X k) ∧ Below w.heap.size w wr) (fun iv _ => (c - intOf iv).toNat)
  case atStart => exact ⟨0, rfl, by omega, hrow.congr (fun j _ => by simp [mixC]), k4⟩
  case round =>
    clear hrow k4
    obtain ⟨k, rfl, hk, hrow, k4⟩ := hrel
    by_cases hkc : (k : Int) < c
    rotate_left
    · have e : c.toNat = k := by omega
      rw [e] at hrow ⊢
      have hx : ¬ (k : Int) < (c.toNat : Int) := by omega
      go_wp2_with fail
      go_ret2
      exact ⟨g4, cp4, rfl, by omega, by omega, hrow.congr (ys := X) (fun j hj => by simp [mixC, hj]), k4⟩
    have hfk := Hbd.out k hkc
    have hxk := HX.out k hfk.1
    have c1 := hrow.cell (k := k) (by omega)
    rw [mixC_at] at c1
    have kn : (k : Int) < (c.toNat : Int) := by omega
    have hst := fun (W : World) (h : IRow W g4 c.toNat (mixC F X k)) => (h.set (k := k) (by omega) (X k)).congr (fun j _ => mixC_step F X k j)
    have hdk := Hdk.out (F k) hfk.1 hfk.2 wr (hr.below k4 hlt)
    rw [← hxk] at hdk
    clear hxk
    generalize F k = Y at *
    generalize X k = V at *
    have Hdk1 := Lib.hid hdk; clear hdk
    have Hst := Lib.hid hst; clear hst
    go_wp2_with fail
    refine Hdk1.out.mono ?_; rintro x w6 ⟨rfl, hb6⟩
    have k6 := k4.trans (hb6.mono k4.size)
    have row6 := hrow.below hb6 hrow.lt
    have c4 := row6.cell (k := k) (by omega)
    have f4 := row6.free k
    clear hb6 k4 hrow c1
    have KK := Lib.hid (And.intro (Hst.out _ row6) (k6.setCell (p := ⟨g4, k, none⟩) hgw (.int .i64 V)))
    clear row6 k6
    go_wp2_with fail
    go_roundw
    case rel => exact ⟨k + 1, by go_num, by omega, KK.out.1, KK.out.2⟩
    case measure => simp [intOf]; omega

set_option maxRecDepth 100000 in
set_option maxHeartbeats 2000000 in
theorem specBandsOfC_any (a b c : Int) (ha : -128 ≤ a) (ha' : a ≤ 127) (hb : -128 ≤ b) (hb' : b ≤ 127) (hc : -128 ≤ c) (hc' : c ≤ 127) (h : okT a b c = true) (g n cap : Nat) (xs ys : Nat → Int) (d : Int) (hn : n ≤ 1048576) (hs : SmallP n xs ys) (h2 : validC n xs ys = true) (h3 : inB d 0 400 = true) (w : World) (hr : PtRow w g n xs ys) :
    Calls Tryz.prog 14 #[stV a b c, .slice (some ⟨g, 0, none⟩) n cap, .int .i64 d] w (RowC c.toNat (bndV n xs ys d (fun j : Nat => a + b * (j : Int))) w) := by
  have k0 : Below w.heap.size w (w.alloc (.cells #[.int .i8 a, .int .i8 b, .int .i8 c] 26)) := (Below.refl _ _).alloc (Nat.le_refl _) _
  have hl := l05BandsC_any a b c ha ha' hb hb' hc hc' h g n cap xs ys d hn hs h2 h3 _ (hr.below k0 hr.lt)
  unfold RowC at hl
  generalize c.toNat = N at *
  generalize bndV n xs ys d (fun j : Nat => a + b * (j : Int)) = F at *
  have Hl := Lib.hid hl; clear hl
  go_enter Tryz.func14, Tryz.ntmps14
  go_wp2_with fail
  refine Hl.out.mono ?_; rintro e w1 ⟨g1, cap1, rfl, hg, hcap, hrow, hb1⟩
  go_wp2_with fail
  go_ret2
  exact ⟨g1, cap1, rfl, Nat.le_trans k0.size hg, hcap, hrow, k0.trans (hb1.mono k0.size)⟩
end Go.Proofs.YtnlcjbobfhmnmabGreatDoor

namespace Go.Proofs.YtnlcjbobfhmnmabGreatDoor
open Go.RowKit

theorem below_drewBd {B : Nat} {a w : World} (h : Below B a w) (n : Nat) : Below B a (w.drewN n) := ⟨h.os, h.tape, h.output, h.size, h.block⟩
set_option maxHeartbeats 1000000 in
theorem l00Same_any (g g' n c c' : Nat) (xs : Nat → Int) (hn : n ≤ 1048576) (w : World) (h1 : IRow w g n xs) (h2 : IRow w g' n xs) :
    Calls Tryz.prog 45 #[.slice (some ⟨g, 0, none⟩) n c, .slice (some ⟨g', 0, none⟩) n c'] w fun e w' => e = .returned (.bool true) ∧ Below w.heap.size w w' := by
  have H1 := Lib.hid h1
  have H2 := Lib.hid h2
  clear h1 h2
  go_enter Tryz.func45, Tryz.ntmps45
  go_wp2_with fail
  go_loopw [5] (fun kv wr => ∃ k : Nat, k ≤ n ∧ kv = .int .i64 (k : Int) ∧ Below w.heap.size w wr) (fun kv _ => n - (intOf kv).toNat)
  case atStart => exact ⟨0, by omega, rfl, Below.refl _ _⟩
  case round =>
    obtain ⟨k, hk, rfl, hB⟩ := hrel
    by_cases hkn : k < n
    · have c1 := (H1.out.below hB H1.out.lt).cell hkn
      have c2 := (H2.out.below hB H2.out.lt).cell hkn
      have hkn' : (k : Int) < n := by omega
      have HB := Lib.hid hB
      clear hB
      generalize xs k = x at *
      go_wp2_with fail
      go_quiet (fail)
      go_wp2_with fail
      go_roundw
      case rel => exact ⟨k + 1, by omega, by go_num, below_drewBd HB.out _⟩
      case measure => simp [intOf]; omega
    · obtain rfl : k = n := by omega
      go_wp2_with fail
      go_ret
      exact ⟨rfl, hB⟩
theorem SameNumbers_any (g g' n c c' : Nat) (xs : Nat → Int) (hn : n ≤ 1048576) (w : World) (h1 : IRow w g n xs) (h2 : IRow w g' n xs) :
    Calls Tryz.prog 18 #[.slice (some ⟨g, 0, none⟩) n c, .slice (some ⟨g', 0, none⟩) n c'] w fun e w' => e = .returned (.bool true) ∧ Below w.heap.size w w' := by
  have H := Lib.hid (l00Same_any g g' n c c' xs hn w h1 h2)
  go_enter Tryz.func18, Tryz.ntmps18
  go_wp2_with fail
  refine H.out.mono ?_; rintro e w1 ⟨rfl, hb1⟩
  go_wp2_with fail
  go_ret
  exact ⟨rfl, hb1⟩
end Go.Proofs.YtnlcjbobfhmnmabGreatDoor

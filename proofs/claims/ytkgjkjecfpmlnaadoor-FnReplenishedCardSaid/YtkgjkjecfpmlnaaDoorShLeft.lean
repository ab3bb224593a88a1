/-
  Sheets that are left: what the reference and the program return. Condition of the program's: its errors, and its table of times.
-/
import Derived.Test.YtkgjkjecfpmlnaaDoorSearch
import Derived.Test.YtkgjkjecfpmlnaaDoorOwn
namespace Go.Proofs.YtkgjkjecfpmlnaaDoor
open Go.RowKit Go.Shelf

/-- The first n cells of block g are these numbers. -/
structure RowN (w : World) (g n : Nat) (xs : Nat → Int) : Prop where
  lt : g < w.heap.size
  cell : ∀ {j}, j < n → w.cell? ⟨g, j, none⟩ = some (.int .i64 (xs j))
theorem RowN.below {w w' : World} {g n B : Nat} {xs : Nat → Int} (h : RowN w g n xs) (hb : Below B w w') (hB : g < B) : RowN w' g n xs :=
  ⟨Nat.lt_of_lt_of_le h.lt hb.size, fun hj => (hb.cell (p := ⟨g, _, none⟩) hB).trans (h.cell hj)⟩
theorem RowN.of {w : World} {g n : Nat} {xs : Nat → Int} (h : w.rowIs g 2 n (fun j => .int .i64 (xs j))) : RowN w g n xs := ⟨h.lt, fun hj => h.cell hj⟩

/-! ### PLAIN -/
def allA (xs : Nat → Int) : Nat → Bool
  | 0 => true
  | n + 1 => allA xs n && inB (xs n) 1 5000
theorem allA_iff {xs : Nat → Int} : ∀ {n : Nat}, allA xs n = true ↔ ∀ j, j < n → inB (xs j) 1 5000 = true
  | 0 => by simp [allA]
  | n + 1 => by
    simp only [allA, Bool.and_eq_true, allA_iff (n := n)]
    constructor
    · rintro ⟨h1, h2⟩ j hj
      rcases Nat.lt_or_ge j n with h | h
      · exact h1 j h
      · obtain rfl : j = n := by omega
        exact h2
    · intro h
      exact ⟨fun j hj => h j (by omega), h n (by omega)⟩
theorem allA_no {xs : Nat → Int} {k n : Nat} (hk : k < n) (h : inB (xs k) 1 5000 = false) : allA xs n = false := by
  rcases h2 : allA xs n with _ | _
  · rfl
  · rw [allA_iff.1 h2 k hk] at h; cases h
/-- The code of a bath and areas. -/
def arC (ok : Bool) (n : Nat) (xs : Nat → Int) (sl : Int) : Int := if ok = true then (if n ≤ 60 then (if (allA xs n && inB sl 0 36) = true then 0 else 2) else 3) else 1

def room (p v u s : Int) : Nat := ((v * p - 1000 * u) / (1000 * s)).toNat
/-- Is it too slow behind so many sheets? -/
def shQ (p k v u a s sl : Int) (n : Nat) : Bool := decide (sl < slw (strn p k v (u + n * s) a))
def readyB (p k b t v u a s sl : Int) : Bool := decide (slw (strn p k v u a) ≤ sl) && sheetB p k b t v u a s
def shC (p k b t v u a s sl : Int) : Int := if bathOk p k b t v u a = true then (if inB s 1 5000 = true then (if inB sl 0 36 = true then 0 else 2) else 2) else 1
def shN (p k v u a s sl : Int) : Nat := least (shQ p k v u a s sl) (room p v u s)
def shR (p k b t v u a s sl : Int) : Int := ifC (shC p k b t v u a s sl) (shN p k v u a s sl)

section
variable {p k b t v u a s sl : Int}
theorem room_mul (h : BOk p k b t v u a) (hs : 1 ≤ s) {n : Nat} : n ≤ room p v u s ↔ 1000 * (u + n * s) ≤ v * p := by
  have hr := h.room
  have h0 : 0 ≤ (v * p - 1000 * u) / (1000 * s) := Int.ediv_nonneg (by omega) (by omega)
  have h1 := Int.le_ediv_iff_mul_le (a := (n : Int)) (b := v * p - 1000 * u) (c := 1000 * s) (by omega)
  have e : (n : Int) * (1000 * s) = 1000 * (n * s) := by rw [Int.mul_left_comm]
  unfold room
  constructor
  · intro h2
    have h3 := h1.1 (by omega)
    omega
  · intro h2
    have h3 := h1.2 (by omega)
    omega
theorem room_bd (h : BOk p k b t v u a) (hs : 1 ≤ s) : room p v u s ≤ 2000000 := by
  have h1 := (room_mul h hs (n := room p v u s)).1 (Nat.le_refl _)
  have hc := h.cap
  have hu := h.u0
  have h2 : (room p v u s : Int) * 1 ≤ room p v u s * s := Int.mul_le_mul_of_nonneg_left hs (by omega)
  omega
theorem sheets_ok (h : BOk p k b t v u a) (hs : 1 ≤ s) {n : Nat} (hn : n ≤ room p v u s) : BOk p k b t v (u + n * s) a := by
  have h1 := (room_mul h hs (n := n)).1 hn
  have hc := h.cap
  have hu := h.u0
  have h2 : 0 ≤ (n : Int) * s := Int.mul_nonneg (by omega) (by omega)
  exact { h with u0 := by omega, u1 := by omega, room := h1 }
theorem succ_mul' (n : Nat) : u + n * s + s = u + ((n + 1 : Nat) : Int) * s := by
  have : ((n + 1 : Nat) : Int) * s = n * s + s := by rw [Int.natCast_add, Int.add_mul]; simp
  omega
theorem ready_iff (h : BOk p k b t v u a) (hs : 1 ≤ s) (hsl : sl ≤ 36) {n : Nat} (hn : n ≤ shN p k v u a s sl) : readyB p k b t v (u + n * s) a s sl = decide (n < shN p k v u a s sl) := by
  have hls := least_spec (n := room p v u s) (q := shQ p k v u a s sl)
  have hN : shN p k v u a s sl = least (shQ p k v u a s sl) (room p v u s) := rfl
  rw [← hN] at hls
  rcases Nat.lt_or_ge n (room p v u s) with hlt | hge
  · have hok := sheets_ok h hs (n := n + 1) hlt
    rw [← succ_mul'] at hok
    have hb : bathOk p k b t v (u + n * s + s) a = true := bathOk_true.2 hok
    have hq : shQ p k v u a s sl n = decide (sl < slw (strn p k v (u + n * s) a)) := rfl
    unfold readyB sheetB
    rw [hb, Bool.and_true]
    generalize slw (strn p k v (u + n * s) a) = K at *
    rcases Nat.lt_or_ge n (shN p k v u a s sl) with h2 | h2
    · have h3 := hls.2.1 n h2
      rw [hq] at h3
      have h4 : ¬ sl < K := of_decide_eq_false h3
      rw [decide_eq_true (show K ≤ sl by omega), decide_eq_true (show K ≠ 37 by omega), decide_eq_true h2]
      rfl
    · have e : n = shN p k v u a s sl := by omega
      have h3 := hls.2.2 (by omega)
      rw [← e, hq] at h3
      have h4 : sl < K := of_decide_eq_true h3
      rw [decide_eq_false (show ¬ K ≤ sl by omega), decide_eq_false (show ¬ n < shN p k v u a s sl by omega)]
      rfl
  · have h2 : ¬ n < shN p k v u a s sl := by omega
    have hno : bathOk p k b t v (u + n * s + s) a = false := by
      rcases hh : bathOk p k b t v (u + n * s + s) a with _ | _
      · rfl
      · have h3 := (bathOk_true.1 hh).room
        rw [succ_mul'] at h3
        have h4 := (room_mul h hs (n := n + 1)).2 h3
        omega
    unfold readyB sheetB
    rw [hno, Bool.and_false, Bool.and_false, decide_eq_false h2]
theorem shQ_mono (h : BOk p k b t v u a) (hs : 1 ≤ s) : ∀ x y : Nat, x ≤ y → y < room p v u s → shQ p k v u a s sl x = true → shQ p k v u a s sl y = true := fun x y hxy hy hx => by
  have hy' := sheets_ok h hs (n := y) (by omega)
  have hu := h.u0
  have h2 : (x : Int) * s ≤ y * s := Int.mul_le_mul_of_nonneg_right (by omega) (by omega)
  have h3 : 0 ≤ (x : Int) * s := Int.mul_nonneg (by omega) (by omega)
  have h4 := strn_mono hy' (u' := u + x * s) (a' := a) (by omega) (by omega) (Int.le_refl _) h.a0
  have h5 := slw_mono hy'.strn_bd.1 h4
  simp only [shQ, decide_eq_true_eq] at hx ⊢
  omega
end

section
variable {p k b t v u a : Int}

/-! ### THE REFERENCE -/
set_option maxRecDepth 100000 in
set_option maxHeartbeats 2000000 in
theorem l04Ready_any (s sl : Int) (hs : 0 ≤ s) (hs' : s ≤ 5000) (h0 : 0 ≤ sl) (h1 : sl ≤ 36) (h : BOk p k b t v u a) (w : World) :
    Calls Tryd.prog 35 #[devV p k b t, batV v u a, .int .i64 s, .int .i64 sl] w (SheetOut (readyB p k b t v u a s sl) v (u + s) a w) := by
  have hst := fun W => l04Strength_any h W
  have hsb := h.strn_bd
  have hsh := fun W => l04Sheet_any s hs hs' h W
  have hsl := fun W => l04Slower_any (strn p k v u a) hsb.1 hsb.2 W
  have hb37 := slw_bd (strn p k v u a)
  have kk := below_2 w (.cells #[.int .i64 p, .int .i64 k, .int .i8 b, .int .i8 t] 26) (.cells #[.int .i64 v, .int .i64 u, .int .i64 a] 28)
  have kk := kk.alloc kk.size (.cells #[.int .i64 0, .int .i64 0, .int .i64 0] 28)
  unfold readyB
  unfold SheetOut at *
  unfold slwS at hsl
  clear h hsb
  have hsheet37 : slw (strn p k v u a) = 37 → sheetB p k b t v u a s = false := fun e => by unfold sheetB; rw [decide_eq_false (not_not_intro e), Bool.false_and]
  generalize sheetB p k b t v u a s = SB at *
  generalize strn p k v u a = S at *
  generalize slw S = K at *
  by_cases hgo : K = 37 ∨ K ≤ sl
  · have hB : (decide (K ≤ sl) && SB) = SB := by
      rcases hgo with e | e
      · rw [hsheet37 e, Bool.and_false]
      · rw [decide_eq_true e, Bool.true_and]
    rw [hB]
    obtain ⟨T, hT, hTl⟩ : ∃ T : Int, (if K = 37 then (-1 : Int) else K) = T ∧ T ≤ sl := by
      by_cases e : K = 37
      · exact ⟨-1, if_pos e, by omega⟩
      · exact ⟨K, if_neg e, by omega⟩
    rw [hT] at hsl
    have Hst := Lib.hid hst; clear hst
    have Hsl := Lib.hid hsl; clear hsl
    have Hsh := Lib.hid hsh; clear hsh
    clear hT hgo hB hsheet37
    go_enter Tryd.func35, Tryd.ntmps35
    go_wp2_with fail
    refine (Hst.out _).mono ?_; rintro e w1 ⟨rfl, hb1⟩
    have k1 := kk.trans (hb1.mono kk.size)
    have D1 : DvAt w1 w.heap.size p k b t := DvAt.below (((DvAt.newAt _ w.heap.size rfl _ _ _ _ _).alloc _).alloc _) hb1 (Nat.le_refl _)
    have B1 : BtAt w1 (w.heap.size + 1) v u a := BtAt.below ((BtAt.newAt _ (w.heap.size + 1) (by simp) _ _ _ _).alloc _) hb1 (Nat.le_refl _)
    have R1 : BtAt w1 (w.heap.size + 1 + 1) 0 0 0 := BtAt.below (BtAt.newAt _ (w.heap.size + 1 + 1) (by simp) _ _ _ _) hb1 (Nat.le_refl _)
    clear hb1 kk
    go_wp2_with fail
    refine (Hsl.out _).mono ?_; rintro e w2 ⟨rfl, hb2⟩
    have k2 := k1.trans (hb2.mono k1.size)
    have R2 := R1.below hb2 (Nat.le_refl _)
    obtain ⟨d0, d1, d2, d3⟩ := D1.below hb2 (Nat.le_refl _)
    obtain ⟨b0, b1, b2, _, _, _⟩ := B1.below hb2 (Nat.le_refl _)
    clear hb2 D1 B1 R1 k1
    go_wp2_with fail
    refine (Hsh.out _).mono ?_; rintro e w3 ⟨x, y, c, rfl, hxy, hb3⟩
    have k3 := k2.trans (hb3.mono k2.size)
    have R3 := R2.below hb3 (Nat.le_refl _)
    clear hb3 R2 k2 d0 d1 d2 d3 b0 b1 b2
    have Hxy := Lib.hid hxy; clear hxy
    have hlt := R3.lt
    have R9 := R3
    obtain ⟨r0, r1, r2, y0, y1, y2⟩ := R9
    go_wp2_with fail
    clear r0 r1 r2 y0 y1 y2
    obtain ⟨W2, e2, D2, kk2⟩ := R3.stored k3 (by omega) x y c
    rw [← e2]
    clear e2
    obtain ⟨c0, c1, c2, _, _, _⟩ := D2
    exact bodyPost_ret (v := .tuple #[batV x y c, .bool SB]) (by simp [results, Tryd.results35, go_sem, c0, c1, c2]) rfl ⟨x, y, c, rfl, Hxy.out, kk2⟩
  · have hB : (decide (K ≤ sl) && SB) = false := by rw [decide_eq_false (by omega), Bool.false_and]
    rw [hB]
    rw [if_neg (by omega)] at hsl
    have hgt : sl < K := by omega
    have Hst := Lib.hid hst; clear hst
    have Hsl := Lib.hid hsl; clear hsl
    clear hgo hB hsheet37 hsh
    go_enter Tryd.func35, Tryd.ntmps35
    go_wp2_with fail
    refine (Hst.out _).mono ?_; rintro e w1 ⟨rfl, hb1⟩
    have k1 := kk.trans (hb1.mono kk.size)
    have R1 : BtAt w1 (w.heap.size + 1 + 1) 0 0 0 := BtAt.below (BtAt.newAt _ (w.heap.size + 1 + 1) (by simp) _ _ _ _) hb1 (Nat.le_refl _)
    clear hb1 kk
    go_wp2_with fail
    refine (Hsl.out _).mono ?_; rintro e w2 ⟨rfl, hb2⟩
    have k2 := k1.trans (hb2.mono k1.size)
    have R2 := R1.below hb2 (Nat.le_refl _)
    clear hb2 R1 k1
    have hlt := R2.lt
    have R9 := R2
    obtain ⟨r0, r1, r2, y0, y1, y2⟩ := R9
    go_wp2_with fail
    clear r0 r1 r2 y0 y1 y2
    obtain ⟨W2, e2, D2, kk2⟩ := R2.stored k2 (by omega) 0 0 0
    rw [← e2]
    clear e2
    obtain ⟨c0, c1, c2, _, _, _⟩ := D2
    exact bodyPost_ret (v := .tuple #[batV 0 0 0, .bool false]) (by simp [results, Tryd.results35, go_sem, c0, c1, c2]) rfl ⟨0, 0, 0, rfl, (fun h => Bool.noConfusion h), kk2⟩

set_option maxRecDepth 100000 in
set_option maxHeartbeats 2000000 in
theorem specSheetsLeft_any (s sl : Int) (hb : -128 ≤ b) (hb' : b ≤ 127) (ht : -128 ≤ t) (ht' : t ≤ 127) (w : World) :
    Calls Tryd.prog 12 #[devV p k b t, batV v u a, .int .i64 s, .int .i64 sl] w fun e w' => e = .returned (.tuple #[.int .i64 (shR p k b t v u a s sl), .int .i64 (shC p k b t v u a s sl)]) ∧ Below w.heap.size w w' := by
  have hok := fun W => l04Ok_any (p := p) (k := k) (b := b) (t := t) (v := v) (u := u) (a := a) hb hb' ht ht' W
  have kk := below_2 w (.cells #[.int .i64 p, .int .i64 k, .int .i8 b, .int .i8 t] 26) (.cells #[.int .i64 v, .int .i64 u, .int .i64 a] 28)
  unfold shR shC
  rcases h1 : bathOk p k b t v u a with _ | _
  · simp only [Bool.false_eq_true, if_false, ifC_1]
    rw [h1] at hok
    have Hok := Lib.hid hok; clear hok h1
    go_enter Tryd.func12, Tryd.ntmps12
    go_wp2_with fail
    refine (Hok.out _).mono ?_; rintro e w1 ⟨rfl, hb1⟩
    go_wp2_with fail
    go_ret2
    exact ⟨rfl, kk.trans (hb1.mono kk.size)⟩
  rw [h1] at hok
  have Hok := Lib.hid hok; clear hok
  have h := bathOk_true.1 h1
  clear h1
  rcases h2 : inB s 1 5000 with _ | _
  · simp only [Bool.false_eq_true, if_false, if_true, ifC_2]
    clear h
    go_enter Tryd.func12, Tryd.ntmps12
    go_wp2_with fail
    refine (Hok.out _).mono ?_; rintro e w1 ⟨rfl, hb1⟩
    go_wp2_with fail
    refine (l00In_any _ _ _ _).mono ?_; rintro e w2 ⟨rfl, rfl⟩
    go_wp2_with fail
    go_ret2
    exact ⟨rfl, kk.trans (hb1.mono kk.size)⟩
  have s01 := inB_true.1 h2
  rcases h3 : inB sl 0 36 with _ | _
  · simp only [Bool.false_eq_true, if_false, if_true, ifC_2]
    clear h
    go_enter Tryd.func12, Tryd.ntmps12
    go_wp2_with fail
    refine (Hok.out _).mono ?_; rintro e w1 ⟨rfl, hb1⟩
    go_wp2_with fail
    refine (l00In_any _ _ _ _).mono ?_; rintro e w2 ⟨rfl, rfl⟩
    go_wp2_with fail
    refine (l00In_any _ _ _ _).mono ?_; rintro e w3 ⟨rfl, rfl⟩
    go_wp2_with fail
    go_ret2
    exact ⟨rfl, kk.trans (hb1.mono kk.size)⟩
  have sl01 := inB_true.1 h3
  simp only [if_true, ifC_0]
  have hN2 : shN p k v u a s sl ≤ 2000000 := Nat.le_trans (least_spec (n := room p v u s) (q := shQ p k v u a s sl)).1 (room_bd h s01.1)
  have hNr : shN p k v u a s sl ≤ room p v u s := (least_spec (n := room p v u s) (q := shQ p k v u a s sl)).1
  have hready := fun (n : Nat) (hn : n ≤ shN p k v u a s sl) => ready_iff (s := s) (sl := sl) h s01.1 sl01.2 hn
  have hbok := fun (n : Nat) (hn : n ≤ shN p k v u a s sl) => sheets_ok (s := s) h s01.1 (n := n) (Nat.le_trans hn hNr)
  have hrd := fun (n : Nat) (hn : n ≤ shN p k v u a s sl) W => l04Ready_any s sl (by omega) s01.2 sl01.1 sl01.2 (hbok n hn) W
  clear h
  generalize shN p k v u a s sl = M at *
  have Hready := Lib.hid hready; clear hready
  have Hrd := Lib.hid hrd; clear hrd
  clear hbok hNr
  go_enter Tryd.func12, Tryd.ntmps12
  go_wp2_with fail
  refine (Hok.out _).mono ?_; rintro e w1 ⟨rfl, hb1⟩
  have k1 := kk.trans (hb1.mono kk.size)
  have D1 : DvAt w1 w.heap.size p k b t := DvAt.below ((DvAt.newAt _ w.heap.size rfl _ _ _ _ _).alloc _) hb1 (Nat.le_refl _)
  have B1 : BtAt w1 (w.heap.size + 1) v u a := BtAt.below (BtAt.newAt _ (w.heap.size + 1) (by simp) _ _ _ _) hb1 (Nat.le_refl _)
  clear hb1 kk
  go_wp2_with fail
  refine (l00In_any _ _ _ _).mono ?_; rintro e w2 ⟨rfl, rfl⟩
  go_wp2_with fail
  refine (l00In_any _ _ _ _).mono ?_; rintro e w3 ⟨rfl, rfl⟩
  go_wp2_with fail
  go_loopw [10] (fun i wr => ∃ n : Nat, i = .int .i64 n ∧ n ≤ M ∧ DvAt wr w.heap.size p k b t ∧ BtAt wr (w.heap.size + 1) v (u + n * s) a ∧ Below w.heap.size w wr) (fun i _ => M - (intOf i).toNat)
  case atStart => exact ⟨0, rfl, Nat.zero_le _, D1, by simpa using B1, k1⟩
  case round =>
    obtain ⟨n, rfl, hn, D2, B2, k2⟩ := hrel
    have hr2 := Hrd.out n hn
    have hq := Hready.out n hn
    rw [hq] at hr2
    unfold SheetOut at hr2
    have Hr2 := Lib.hid hr2; clear hr2 hq
    have D9 := D2
    have B9 := B2
    obtain ⟨d0, d1, d2, d3⟩ := D9
    obtain ⟨b0, b1, b2, y0, y1, y2⟩ := B9
    have hlt := B2.lt
    by_cases hnM : n < M
    · have hd : decide (n < M) = true := decide_eq_true hnM
      rw [hd] at Hr2
      go_wp2_with fail
      refine (Hr2.out _).mono ?_; rintro e w4 ⟨x, y, c, rfl, hxy, hb4⟩
      obtain ⟨ex, ey, ec⟩ := hxy (by trivial)
      subst x; subst c; subst ey
      have k4 := k2.trans (hb4.mono k2.size)
      have D4 := D2.below hb4 (Nat.le_refl _)
      have B4 := B2.below hb4 (Nat.le_refl _)
      have hlt4 := B4.lt
      clear hb4 D2 B2 k2 d0 d1 d2 d3 b0 b1 b2 y0 y1 y2
      have B9 := B4
      obtain ⟨b0, b1, b2, y0, y1, y2⟩ := B9
      have D5 := D4.alloc (.cells #[.int .i64 v, .int .i64 (u + n * s + s), .int .i64 a] 28)
      have B5 := B4.alloc (.cells #[.int .i64 v, .int .i64 (u + n * s + s), .int .i64 a] 28)
      have k5 := k4.alloc k4.size (.cells #[.int .i64 v, .int .i64 (u + n * s + s), .int .i64 a] 28)
      go_wp2_with fail
      go_roundw
      case rel =>
        refine ⟨n + 1, by go_num, by omega, ?_, ?_, ?_⟩
        · first
            | exact ((D5.setNe (by simp) _).setNe (by simp) _).setNe (by simp) _
            | exact (((D4.setNe (by simp) _).setNe (by simp) _).setNe (by simp) _).alloc _
        · rw [← succ_mul' n]
          first
            | exact ((B5.set0 v).set1 (u + n * s + s)).set2 a
            | exact (((B4.set0 v).set1 (u + n * s + s)).set2 a).alloc _
        · repeat (first | exact k5 | exact k4 | (refine Below.setCell ?_ (by first | omega | (simp; done) | (simp; omega)) _) | (refine Below.alloc ?_ (by first | exact k4.size | (simp; exact k4.size) | (have := k4.size; simp; omega)) _))
      case measure => simp [intOf]; omega
    · have hd : decide (n < M) = false := decide_eq_false hnM
      rw [hd] at Hr2
      have e : n = M := by omega
      subst e
      go_wp2_with fail
      refine (Hr2.out _).mono ?_; rintro e w4 ⟨x, y, c, rfl, hxy, hb4⟩
      clear hxy
      have k4 := k2.trans (hb4.mono k2.size)
      go_wp2_with fail
      go_ret2
      exact ⟨rfl, k4.alloc k4.size _⟩

/-! ### THE PROGRAM -/
set_option maxRecDepth 100000 in
set_option maxHeartbeats 2000000 in
theorem trayFor_any (z : Ers) (g n cap : Nat) (xs : Nat → Int) (sl : Int) (hn : n ≤ 1048576) (hb : -128 ≤ b) (hb' : b ≤ 127) (ht : -128 ≤ t) (ht' : t ≤ 127) (w : World) (hr : RowN w g n xs) (hE : ErrEnv z w) :
    Calls Tryd.prog 52 #[devV p k b t, batV v u a, .slice (some ⟨g, 0, none⟩) n cap, .int .i64 sl] w (AfterOut z (arC (bathOk p k b t v u a) n xs sl) p k b t v u a w) := by
  have kk := below_2 w (.cells #[.int .i64 p, .int .i64 k, .int .i8 b, .int .i8 t] 26) (.cells #[.int .i64 v, .int .i64 u, .int .i64 a] 28)
  have kk := kk.alloc kk.size (.cells #[.int .i64 0, .int .i64 0, .int .i8 0, .int .i8 0, .int .i64 0, .int .i64 0, .int .i64 0] 82)
  have ne := errNeB
  have nn := nilNeB
  have HE := Lib.hid hE; clear hE
  unfold arC AfterOut
  rcases h1 : bathOk p k b t v u a with _ | _
  · simp only [Bool.false_eq_true, if_false, ifC_1]
    have hto := trayOf_no z hb hb' ht ht' h1 _ (HE.out.below kk (Nat.le_refl _))
    have Hto := Lib.hid hto; clear hto h1 nn
    go_enter Tryd.func52, Tryd.ntmps52
    go_wp2_with fail
    refine Hto.out.mono ?_; rintro e w1 ⟨rfl, hb1⟩
    have k1 := kk.trans (hb1.mono kk.size)
    have R1 : TrAt w1 (w.heap.size + 1 + 1) 0 0 0 0 0 0 0 := TrAt.below (TrAt.newAt _ (w.heap.size + 1 + 1) (by simp) _ _ _ _ _ _ _ _) hb1 (Nat.le_refl _)
    clear hb1 kk
    have hlt := R1.lt
    have R9 := R1
    obtain ⟨r0, r1, r2, r3, r4, r5, r6, rz⟩ := R9
    go_wp2_with fail
    clear r0 r1 r2 r3 r4 r5 r6 rz
    obtain ⟨W2, e2, D2, kk2⟩ := R1.stored k1 (by omega) 0 0 0 0 0 0 0
    rw [← e2]
    clear e2
    obtain ⟨c0, c1, c2, c3, c4, c5, c6, _⟩ := D2.alloc (.cells #[.int .i64 0, .int .i64 0, .int .i8 0, .int .i8 0, .int .i64 0, .int .i64 0, .int .i64 0] 82)
    exact bodyPost_ret (v := .tuple #[trayV 0 0 0 0 0 0 0, errV z.einvalid]) (by simp [results, Tryd.results52, go_sem, c0, c1, c2, c3, c4, c5, c6]) rfl ⟨_, rfl, .einvalid, kk2.alloc kk2.size _⟩
  have h := bathOk_true.1 h1
  have hto := fun W => trayOf_yes h W
  have Hto := Lib.hid hto; clear hto h1 h ne
  by_cases h60 : n ≤ 60
  rotate_left
  · simp only [h60, if_false, if_true, ifC_3]
    have hrl := hr.lt
    go_enter Tryd.func52, Tryd.ntmps52
    go_wp2_with fail
    refine (Hto.out _).mono ?_; rintro e w1 ⟨rfl, hb1⟩
    have k1 := kk.trans (hb1.mono kk.size)
    have R1 : TrAt w1 (w.heap.size + 1 + 1) 0 0 0 0 0 0 0 := TrAt.below (TrAt.newAt _ (w.heap.size + 1 + 1) (by simp) _ _ _ _ _ _ _ _) hb1 (Nat.le_refl _)
    have R2 := R1.alloc (.cells #[.int .i64 p, .int .i64 k, .int .i8 b, .int .i8 t, .int .i64 v, .int .i64 u, .int .i64 a] 82)
    have k2 := k1.alloc k1.size (.cells #[.int .i64 p, .int .i64 k, .int .i8 b, .int .i8 t, .int .i64 v, .int .i64 u, .int .i64 a] 82)
    clear hb1 kk
    have hlt := R1.lt
    have R9 := R1
    obtain ⟨r0, r1, r2, r3, r4, r5, r6, rz⟩ := R9
    have cg := (HE.out.below k1 (Nat.le_refl _)).c_elimit
    have lg1 := cell_ltB cg
    have lg := cell_ltB (HE.out.c_elimit)
    go_wp2_with fail
    go_region
    all_goals
      clear r0 r1 r2 r3 r4 r5 r6 rz
      go_wp2
      first
      | (obtain ⟨W2, e2, D2, kk2⟩ := R1.stored k1 (by omega) 0 0 0 0 0 0 0
         rw [← e2]
         clear e2
         obtain ⟨c0, c1, c2, c3, c4, c5, c6, _⟩ := (D2.alloc (.cells #[.int .i64 p, .int .i64 k, .int .i8 b, .int .i8 t, .int .i64 v, .int .i64 u, .int .i64 a] 82)).below (Below.refl _ _).drew (Nat.le_refl _)
         exact bodyPost_ret (v := .tuple #[trayV 0 0 0 0 0 0 0, errV z.elimit]) (by simp [results, Tryd.results52, go_sem, c0, c1, c2, c3, c4, c5, c6]) rfl ⟨_, rfl, .elimit, (kk2.alloc kk2.size _).drew⟩)
      | (obtain ⟨W2, e2, D2, kk2⟩ := R2.stored k2 (by omega) 0 0 0 0 0 0 0
         rw [← e2]
         clear e2
         obtain ⟨c0, c1, c2, c3, c4, c5, c6, _⟩ := D2.below (Below.refl _ _).drew (Nat.le_refl _)
         exact bodyPost_ret (v := .tuple #[trayV 0 0 0 0 0 0 0, errV z.elimit]) (by simp [results, Tryd.results52, go_sem, c0, c1, c2, c3, c4, c5, c6]) rfl ⟨_, rfl, .elimit, kk2.drew⟩)
  simp only [h60, if_true]
  have hshort : (n : Int) ≤ 60 := by omega
  generalize hCd : (if (allA xs n && inB sl 0 36) = true then (0 : Int) else 2) = C
  have HC := Lib.hid hCd; clear hCd
  go_enter Tryd.func52, Tryd.ntmps52
  go_wp2_with fail
  refine (Hto.out _).mono ?_; rintro e w1 ⟨rfl, hb1⟩
  have k1 := kk.trans (hb1.mono kk.size)
  have R1 : TrAt w1 (w.heap.size + 1 + 1) 0 0 0 0 0 0 0 := TrAt.below (TrAt.newAt _ (w.heap.size + 1 + 1) (by simp) _ _ _ _ _ _ _ _) hb1 (Nat.le_refl _)
  have hlt := R1.lt
  have R2 := R1.alloc (.cells #[.int .i64 p, .int .i64 k, .int .i8 b, .int .i8 t, .int .i64 v, .int .i64 u, .int .i64 a] 82)
  have T2 := TrAt.new w1 82 p k b t v u a
  have k2 := k1.alloc k1.size (.cells #[.int .i64 p, .int .i64 k, .int .i8 b, .int .i8 t, .int .i64 v, .int .i64 u, .int .i64 a] 82)
  have z2 : w1.heap.size < (w1.alloc (.cells #[.int .i64 p, .int .i64 k, .int .i8 b, .int .i8 t, .int .i64 v, .int .i64 u, .int .i64 a] 82)).heap.size := by simp
  clear hb1 kk
  go_wp2_with fail
  generalize w1.alloc (.cells #[.int .i64 p, .int .i64 k, .int .i8 b, .int .i8 t, .int .i64 v, .int .i64 u, .int .i64 a] 82) = W at *
  have hsz := k1.size
  go_loopw [31] (fun i wr => ∃ j : Nat, i = .int .i64 j ∧ j ≤ n ∧ allA xs j = true ∧ Below W.heap.size W wr) (fun i _ => n - (intOf i).toNat)
  case atStart => exact ⟨0, rfl, Nat.zero_le _, rfl, Below.refl _ _⟩
  case round =>
    obtain ⟨j, rfl, hj, hall, hB⟩ := hrel
    have k3 := k2.trans (hB.mono k2.size)
    have T3 := T2.below hB (Nat.le_refl _)
    have R3 := R2.below hB (Nat.le_refl _)
    have hlt3 := R3.lt
    have hlt4 := T3.lt
    have R9 := R3
    have T9 := T3
    obtain ⟨r0, r1, r2, r3, r4, r5, r6, rz⟩ := R9
    obtain ⟨c0, c1, c2, c3, c4, c5, c6, _⟩ := T9
    by_cases hjn : j < n
    · have x1 : wr.cell? ⟨g, j, none⟩ = some (.int .i64 (xs j)) := by rw [k3.cell (p := ⟨g, j, none⟩) hr.lt]; exact hr.cell hjn
      have hfit := fun V => shtFits_any (p := p) (k := k) (b := b) (t := t) (v := v) (u := u) (a := a) (xs j) V
      rcases hi : inB (xs j) 1 5000 with _ | _
      · have hno := allA_no hjn hi
        rw [hi] at hfit
        have Hfit := Lib.hid hfit; clear hfit hi
        have e2 : C = 2 := by rw [← HC.out, hno, Bool.false_and]; rfl
        have He := Lib.hid e2
        clear hall hno e2
        go_wp2_with fail
        refine (Hfit.out _).mono ?_; rintro e w4 ⟨rfl, hb4⟩
        have k4 := k3.trans (hb4.mono k3.size)
        have R4 := R3.below hb4 (Nat.le_refl _)
        have hlt5 := R4.lt
        clear r0 r1 r2 r3 r4 r5 r6 rz c0 c1 c2 c3 c4 c5 c6 hb4 R3 k3
        have R9 := R4
        obtain ⟨r0, r1, r2, r3, r4, r5, r6, rz⟩ := R9
        have cg := (HE.out.below k4 (Nat.le_refl _)).c_erange
        have lg := cell_ltB (HE.out.c_erange)
        go_wp2_with fail
        go_region
        all_goals
          clear r0 r1 r2 r3 r4 r5 r6 rz
          go_wp2
          obtain ⟨W2, e2, D2, kk2⟩ := R4.stored k4 (by omega) 0 0 0 0 0 0 0
          rw [← e2]
          clear e2
          obtain ⟨c0, c1, c2, c3, c4, c5, c6, _⟩ := D2.below (Below.refl _ _).drew (Nat.le_refl _)
          exact bodyPost_ret (v := .tuple #[trayV 0 0 0 0 0 0 0, errV z.erange]) (by simp [results, Tryd.results52, go_sem, c0, c1, c2, c3, c4, c5, c6]) rfl ⟨_, by rw [He.out]; rfl, by rw [He.out]; exact .erange, kk2.drew⟩
      · have hall2 : allA xs (j + 1) = true := by simp [allA, hall, hi]
        rw [hi] at hfit
        have Hfit := Lib.hid hfit; clear hfit hi
        have Hall2 := Lib.hid hall2; clear hall2 hall
        go_wp2_with fail
        refine (Hfit.out _).mono ?_; rintro e w4 ⟨rfl, hb4⟩
        go_wp2_with fail
        go_roundw
        case rel => exact ⟨j + 1, by go_num, by omega, Hall2.out, hB.trans (hb4.mono hB.size)⟩
        case measure => simp [intOf]; omega
    · have e : j = n := by omega
      subst e
      rcases hi : inB sl 0 36 with _ | _
      · have e2 : C = 2 := by rw [← HC.out, hall, hi]; rfl
        have He := Lib.hid e2
        clear hall e2
        have cg := (HE.out.below k3 (Nat.le_refl _)).c_erange
        have lg := cell_ltB (HE.out.c_erange)
        go_wp2_with fail
        refine (inRange_any _ _ _ _).mono ?_; rintro e w4 ⟨rfl, rfl⟩
        go_wp2_with fail
        go_region
        all_goals
          clear r0 r1 r2 r3 r4 r5 r6 rz
          go_wp2
          obtain ⟨W2, e2, D2, kk2⟩ := R3.stored k3 (by omega) 0 0 0 0 0 0 0
          rw [← e2]
          clear e2
          obtain ⟨c0, c1, c2, c3, c4, c5, c6, _⟩ := D2.below (Below.refl _ _).drew (Nat.le_refl _)
          exact bodyPost_ret (v := .tuple #[trayV 0 0 0 0 0 0 0, errV z.erange]) (by simp [results, Tryd.results52, go_sem, c0, c1, c2, c3, c4, c5, c6]) rfl ⟨_, by rw [He.out]; rfl, by rw [He.out]; exact .erange, kk2.drew⟩
      · have e2 : C = 0 := by rw [← HC.out, hall, hi]; rfl
        have He := Lib.hid e2
        clear hall e2
        go_wp2_with fail
        refine (inRange_any _ _ _ _).mono ?_; rintro e w4 ⟨rfl, rfl⟩
        go_wp2_with fail
        clear r0 r1 r2 r3 r4 r5 r6 rz
        obtain ⟨W2, e2, D2, kk2⟩ := R3.stored k3 (by omega) p k b t v u a
        rw [← e2]
        clear e2
        obtain ⟨c0, c1, c2, c3, c4, c5, c6, _⟩ := D2
        exact bodyPost_ret (v := .tuple #[trayV p k b t v u a, .nilIface]) (by simp [results, Tryd.results52, go_sem, c0, c1, c2, c3, c4, c5, c6]) rfl ⟨_, by rw [He.out]; rfl, by rw [He.out]; exact .ok, kk2⟩

end
end Go.Proofs.YtkgjkjecfpmlnaaDoor

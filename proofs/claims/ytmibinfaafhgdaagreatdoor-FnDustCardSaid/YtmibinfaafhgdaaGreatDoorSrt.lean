/-
  Short lists of 16-bit numbers, sorted by insertion: the numbers, own lists of them, the library's slices.Sort of at most 12 numbers. Of whatever numbers of 16 bits; no condition.
-/
import Derived.Test.YtmibinfaafhgdaaGreatDoorBvX
import Derived.Test.YtmibinfaafhgdaaGreatDoorOwn
import Derived.Test.YtmibinfaafhgdaaGreatDoorQX
import Derived.Test.YtmibinfaafhgdaaGreatDoorQX
import Derived.Test.YtmibinfaafhgdaaGreatDoorArrTools
import Derived.Maps.AppendAt
namespace Go.Proofs.YtmibinfaafhgdaaGreatDoor
open Go.RowKit

/-! ### PLAIN -/
/-- A number laid at place a of a list, those behind moved by one. -/
def shF (f : Nat → Int) (v : Int) (a j : Nat) : Int := if j < a then f j else if j = a then v else f (j - 1)
/-- Where a number goes. -/
def posF (f : Nat → Int) (v : Int) : Nat → Nat
  | 0 => 0
  | m + 1 => if v < f m then posF f v m else m + 1
theorem posF_yes {f : Nat → Int} {v : Int} {m : Nat} (h : v < f m) : posF f v (m + 1) = posF f v m := if_pos h
theorem posF_no {f : Nat → Int} {v : Int} {m : Nat} (h : ¬ v < f m) : posF f v (m + 1) = m + 1 := if_neg h
theorem posF_le (f : Nat → Int) (v : Int) : ∀ m, posF f v m ≤ m
  | 0 => Nat.le_refl _
  | m + 1 => by
    have := posF_le f v m
    unfold posF
    split <;> omega
/-- The first numbers, sorted by insertion. -/
def isF (x : Nat → Int) : Nat → Nat → Int
  | 0 => fun _ => 0
  | i + 1 => shF (isF x i) (x i) (posF (isF x i) (x i) i)
theorem shF_lt {f : Nat → Int} {v : Int} {a j : Nat} (h : j < a) : shF f v a j = f j := by simp [shF, h]
theorem shF_eq (f : Nat → Int) (v : Int) (a : Nat) : shF f v a a = v := by simp [shF]
theorem shF_gt {f : Nat → Int} {v : Int} {a j : Nat} (h : a < j) : shF f v a j = f (j - 1) := by
  have h1 : ¬ j < a := by omega
  have h2 : ¬ j = a := by omega
  simp [shF, h1, h2]
/-- A step to the front. -/
theorem shF_step (f : Nat → Int) (v : Int) (a : Nat) (j : Nat) : upd (upd (shF f v (a + 1)) (a + 1) (f a)) a v j = shF f v a j := by
  unfold upd
  by_cases h1 : j = a
  · subst h1; rw [if_pos rfl, shF_eq]
  · rw [if_neg h1]
    by_cases h2 : j = a + 1
    · subst h2; rw [if_pos rfl, shF_gt (by omega)]; simp
    · rw [if_neg h2]
      by_cases h3 : j < a
      · rw [shF_lt h3, shF_lt (by omega)]
      · rw [shF_gt (by omega), shF_gt (by omega)]
theorem isF_bd {x : Nat → Int} {n : Nat} (hx : ∀ j, j < n → -32768 ≤ x j ∧ x j ≤ 32767) : ∀ i, i ≤ n → ∀ j, j < i → -32768 ≤ isF x i j ∧ isF x i j ≤ 32767
  | 0, _, j, hj => by omega
  | i + 1, hi, j, hj => by
    have ih := isF_bd hx i (by omega)
    have hp := posF_le (isF x i) (x i) i
    show -32768 ≤ shF (isF x i) (x i) (posF (isF x i) (x i) i) j ∧ shF (isF x i) (x i) (posF (isF x i) (x i) i) j ≤ 32767
    by_cases h1 : j < posF (isF x i) (x i) i
    · rw [shF_lt h1]; exact ih j (by omega)
    · by_cases h2 : j = posF (isF x i) (x i) i
      · rw [h2, shF_eq]; exact hx i (by omega)
      · rw [shF_gt (by omega)]; exact ih (j - 1) (by omega)
/-- What is sorted as far as i, the number after it as far as a. -/
def dtF (x : Nat → Int) (i a j : Nat) : Int := if j ≤ i then shF (isF x i) (x i) a j else x j
def dsF (x : Nat → Int) (i j : Nat) : Int := if j < i then isF x i j else x j
theorem dsF_1 (x : Nat → Int) (j : Nat) : dsF x 1 j = x j := by
  unfold dsF
  by_cases h : j < 1
  · obtain rfl : j = 0 := by omega
    rw [if_pos h]; show shF (isF x 0) (x 0) (posF (isF x 0) (x 0) 0) 0 = x 0; exact shF_eq _ _ _
  · rw [if_neg h]
theorem dtF_start (x : Nat → Int) (i j : Nat) : dtF x i i j = dsF x i j := by
  unfold dtF dsF
  by_cases h : j < i
  · rw [if_pos (by omega), if_pos h, shF_lt h]
  · rw [if_neg h]
    by_cases h2 : j = i
    · subst h2; rw [if_pos (by omega), shF_eq]
    · rw [if_neg (by omega)]
theorem dtF_end (x : Nat → Int) (i j : Nat) {a : Nat} (h : posF (isF x i) (x i) i = a) : dtF x i a j = dsF x (i + 1) j := by
  subst h
  unfold dtF dsF
  by_cases h : j ≤ i
  · rw [if_pos h, if_pos (by omega)]; rfl
  · rw [if_neg h, if_neg (by omega)]
theorem dtF_at (x : Nat → Int) {i a : Nat} (ha : a ≤ i) : dtF x i a a = x i := by unfold dtF; rw [if_pos ha, shF_eq]
theorem dtF_before (x : Nat → Int) {i a : Nat} (ha : a + 1 ≤ i) : dtF x i (a + 1) a = isF x i a := by unfold dtF; rw [if_pos (by omega), shF_lt (by omega)]
theorem dtF_step (x : Nat → Int) {i a : Nat} (ha : a + 1 ≤ i) (j : Nat) : upd (upd (dtF x i (a + 1)) (a + 1) (isF x i a)) a (x i) j = dtF x i a j := by
  have h := shF_step (isF x i) (x i) a j
  unfold upd at h ⊢
  unfold dtF
  by_cases hj : j ≤ i
  · rw [if_pos hj, if_pos hj]; exact h
  · rw [if_neg hj, if_neg hj, if_neg (by omega), if_neg (by omega)]
theorem dsF_n (x : Nat → Int) {n j : Nat} (h : j < n) : dsF x n j = isF x n j := by unfold dsF; rw [if_pos h]

/-! ### ROWS OF 16-BIT NUMBERS -/
/-- The first n cells of block q are these numbers. -/
def Row16 (w : World) (q n : Nat) (F : Nat → Int) : Prop := ∃ cur, w.heap[q]? = some (.cells cur 27 (0, 0)) ∧ ∀ j, j < n → cur[j]? = some (.int .i16 (F j))
section
variable {w w' : World} {q n : Nat} {F G : Nat → Int}
theorem Row16.lt (h : Row16 w q n F) : q < w.heap.size := by obtain ⟨cur, h, _⟩ := h; exact (Array.getElem?_eq_some_iff.1 h).1
theorem Row16.cell (h : Row16 w q n F) {j : Nat} (hj : j < n) : w.cell? ⟨q, j, none⟩ = some (.int .i16 (F j)) := by
  obtain ⟨cur, h, hc⟩ := h
  rw [cell_of_row w q j cur _ _ h]; exact hc j hj
theorem Row16.free (h : Row16 w q n F) (j : Nat) : w.frozen? ⟨q, j, none⟩ = false := by obtain ⟨cur, h, _⟩ := h; exact frozen_of_row w q j cur _ h
theorem Row16.below {B : Nat} (h : Row16 w q n F) (hb : Below B w w') (hB : q < B) : Row16 w' q n F := by obtain ⟨cur, h, hc⟩ := h; exact ⟨cur, (hb.block q hB).trans h, hc⟩
theorem Row16.congr (h : Row16 w q n F) (e : ∀ j, j < n → F j = G j) : Row16 w q n G := by obtain ⟨cur, h, hc⟩ := h; exact ⟨cur, h, fun j hj => by rw [hc j hj, e j hj]⟩
theorem Row16.set (h : Row16 w q n F) {k : Nat} (hk : k < n) (v : Int) : Row16 (w.setCell ⟨q, k, none⟩ (.int .i16 v)) q n (upd F k v) := by
  obtain ⟨cur, h, hc⟩ := h
  refine ⟨_, heap_setCell_same w q k cur _ _ h, fun j hj => ?_⟩
  have hs : k < cur.size := by
    have := hc k hk
    exact (Array.getElem?_eq_some_iff.1 this).1
  rw [Array.getElem?_setIfInBounds]
  by_cases e : k = j
  · subst e; rw [if_pos rfl, if_pos hs, upd_same]
  · rw [if_neg e, hc j hj, upd_other (fun h => e h.symm)]
end

/-! ### THE LIBRARY's SORT -/
theorem isNaN16_any (x : Int) (w : World) : Calls Tryz.prog 111 #[.int .i16 x] w fun e w' => e = .returned (.bool false) ∧ w = w' := by
  go_enter Tryz.func111, Tryz.ntmps111
  go_wp2
  go_ret
  exact ⟨rfl, rfl⟩
theorem less16_any (x y : Int) (w : World) : Calls Tryz.prog 101 #[.int .i16 x, .int .i16 y] w fun e w' => e = .returned (.bool (decide (x < y))) ∧ w = w' := by
  have h := Lib.hid (fun z W => isNaN16_any z W)
  go_enter Tryz.func101, Tryz.ntmps101
  go_wp2_with (go_at_call 111; refine (h.out _ _).mono ?_; rintro e w' ⟨rfl, rfl⟩)
  go_ret
  exact ⟨rfl, rfl⟩

set_option maxRecDepth 100000 in
set_option maxHeartbeats 4000000 in
theorem insertionSort16_any (q n cap : Nat) (x : Nat → Int) (hx : ∀ j, j < n → -32768 ≤ x j ∧ x j ≤ 32767) (hn : n ≤ 1048576) (w : World) (hr : Row16 w q n x) :
    Calls Tryz.prog 95 #[.slice (some ⟨q, 0, none⟩) n cap, .int .i64 0, .int .i64 (n : Int)] w fun e w' => (∃ v, e = .returned v) ∧ Row16 w' q n (dsF x n) ∧ Below q w w' := by
  have hL := Lib.hid (fun a b W => less16_any a b W)
  by_cases h1n : 1 ≤ n
  rotate_left
  · obtain rfl : n = 0 := by omega
    have hr' := hr.congr (G := dsF x 0) (fun j hj => by omega)
    go_enter Tryz.func95, Tryz.ntmps95
    go_wp2_with fail
    go_loopw [6] (fun iv wr => iv = .int .i64 1 ∧ wr = w) (fun _ _ => 0)
    case atStart => exact ⟨rfl, rfl⟩
    case round =>
      obtain ⟨rfl, rfl⟩ := hrel
      go_wp2_with fail
      go_end0
      exact ⟨⟨_, rfl⟩, hr', Below.refl _ _⟩
  have HB := Lib.hid (fun i hi j hj => isF_bd hx i hi j hj)
  have HX := Lib.hid hx; clear hx
  go_enter Tryz.func95, Tryz.ntmps95
  go_wp2_with fail
  go_loopw [6] (fun iv wr => ∃ i : Nat, 1 ≤ i ∧ i ≤ n ∧ iv = .int .i64 (i : Int) ∧ Row16 wr q n (dsF x i) ∧ Below q w wr) (fun iv _ => n - (intOf iv).toNat)
  case atStart => exact ⟨1, by omega, by omega, rfl, hr.congr fun j _ => (dsF_1 x j).symm, Below.refl _ _⟩
  case round =>
    clear hr
    obtain ⟨i, hi1, hin, rfl, hR, hB⟩ := hrel
    by_cases hlt : i < n
    rotate_left
    · obtain rfl : i = n := by omega
      go_wp2_with fail
      go_end0
      exact ⟨⟨_, rfl⟩, hR, hB⟩
    have R0 := Lib.hid (hR.congr (G := dtF x i i) fun j _ => (dtF_start x i j).symm)
    have B0 := Lib.hid hB; clear hR hB
    have hlt' : (i : Int) < n := by omega
    go_wp2_with fail
    go_loopw [7] (fun jv wr => ∃ a : Nat, a ≤ i ∧ jv = .int .i64 (a : Int) ∧ posF (isF x i) (x i) i = posF (isF x i) (x i) a ∧ Row16 wr q n (dtF x i a) ∧ Below q w wr) (fun jv _ => (intOf jv).toNat)
    case atStart => exact ⟨i, Nat.le_refl _, rfl, rfl, R0.out, B0.out⟩
    case round =>
      clear R0 B0
      obtain ⟨a, hai, rfl, hp, hR, hB⟩ := hrel
      have h1 := dtF_at x hai
      have h2 := dtF_before x (i := i) (a := a - 1)
      have h3 := dtF_step x (i := i) (a := a - 1)
      have h4 := dtF_end x i (a := a)
      have HH4 := Lib.hid h4; have HH3 := Lib.hid h3; clear h3 h4
      have HP := Lib.hid hp; clear hp
      by_cases ha0 : a = 0
      · subst ha0
        have R1 := Lib.hid (hR.congr (G := dsF x (i + 1)) fun j _ => HH4.out j HP.out); clear hR
        have B1 := Lib.hid hB; clear hB h1 h2
        go_wp2_with fail
        go_quiet (fail)
        go_wp2
        go_roundw
        case rel => exact ⟨i + 1, by omega, by omega, by go_num, R1.out, below_drewA B1.out nq⟩
        case measure => simp [intOf]; omega
      · obtain ⟨b, rfl⟩ : ∃ b, a = b + 1 := ⟨a - 1, by omega⟩
        have h2 := h2 (by simpa using hai)
        simp only [Nat.add_sub_cancel] at h2 HH3
        have c1 := hR.cell (j := b + 1) (by omega)
        have c2 := hR.cell (j := b) (by omega)
        rw [h1] at c1
        rw [h2] at c2
        have b1 := HX.out i hlt
        have b2 := HB.out i (by omega) b (by omega)
        have hyes := posF_yes (f := isF x i) (v := x i) (m := b)
        have hno := posF_no (f := isF x i) (v := x i) (m := b)
        have Hyes := Lib.hid hyes; have Hno := Lib.hid hno; clear hyes hno h1 h2
        have hST := Lib.hid (fun j => HH3.out hai j); clear HH3
        have HRR := Lib.hid hR; clear hR
        have HB1 := Lib.hid hB; clear hB
        generalize hXe : x i = X at *
        generalize hYe : isF x i b = Y at *
        have w1 : ((b + 1 : Nat) : Int) < n := by omega
        have w2 : (b : Int) < n := by omega
        by_cases hlt2 : X < Y
        · have HP2 := Lib.hid (HP.out.trans (Hyes.out hlt2)); clear HP Hyes Hno
          have f1 := HRR.out.free (b + 1)
          have f2 := HRR.out.free b
          have cc1 := inCell c1
          have cc2 := inCell c2
          have n0 := below_nonempty wr
          have hLx := Lib.hid (fun W => hL.out X Y W)
          go_wp2_with fail
          refine wp_region_quietD (Below wr.heap.size wr) (by kernel_rfl) (by kernel_rfl) (below_drew1 _) ?_
          repeat (go_big_quiet_step ((go_at_call 101; exact inCallS _ (hLx.out _))))
          refine wpQuiet_nil ?_
          rintro _ ⟨y, rfl⟩
          have hRy := HRR.out.below y.ok HRR.out.lt
          have hBy := HB1.out.trans (y.ok.mono (Nat.le_of_lt HRR.out.lt))
          have d1 := hRy.cell (j := b + 1) (by omega)
          have d2 := hRy.cell (j := b) (by omega)
          have e1 := hRy.free (b + 1)
          have e2 := hRy.free b
          have hdd := dtF_at x hai
          have hde := dtF_before x (i := i) (a := b) (by omega)
          rw [hdd, hXe] at d1
          rw [hde, hYe] at d2
          clear hdd hde
          have hXL := Lib.hid hXe; have hYL := Lib.hid hYe
          generalize y.w = v at *
          clear cc1 cc2 c1 c2 f1 f2 n0 hXe hYe
          have RY := Lib.hid hRy; have BY := Lib.hid hBy; clear hRy hBy HRR HB1
          have RK : Row16 v.drew q n (dtF x i (b + 1)) := RY.out
          have BK : Below q w v.drew := BY.out.drew
          have R3 := Lib.hid (((RK.set (k := b + 1) (by omega) Y).set (k := b) (by omega) X).congr (G := dtF x i b) fun j _ => hST.out j)
          have B3 := Lib.hid ((BK.setCell (p := ⟨q, b + 1, none⟩) (Nat.le_refl _) (.int .i16 Y)).setCell (p := ⟨q, b, none⟩) (Nat.le_refl _) (.int .i16 X))
          have d4 : (v.setCell ⟨q, b + 1, none⟩ (.int .i16 Y)).cell? ⟨q, b, none⟩ = some (.int .i16 Y) := by
            have := (RY.out.set (k := b + 1) (by omega) Y).cell (j := b) (by omega)
            rw [upd_other (by omega), dtF_before x (i := i) (a := b) (by omega), hYL.out] at this
            exact this
          have e4 : (v.setCell ⟨q, b + 1, none⟩ (.int .i16 Y)).frozen? ⟨q, b, none⟩ = false := (RY.out.set (k := b + 1) (by omega) Y).free b
          clear RK BK RY BY hST
          go_wp2_with fail
          go_region
          all_goals
            go_wp2
            go_roundw
            case rel => exact ⟨b, by omega, by go_num, HP2.out, R3.out, B3.out⟩
            case measure => simp [intOf]
        · have HP2 := Lib.hid (HP.out.trans (Hno.out (by omega))); clear HP Hyes Hno
          have hdec : decide (X < Y) = false := decide_eq_false hlt2
          have cc1 := inCell c1
          have cc2 := inCell c2
          have n0 := below_nonempty wr
          have hLx := fun W => hL.out X Y W
          rw [hdec] at hLx
          have hLx := Lib.hid hLx
          have R1 := Lib.hid (fun (y : WIn (Below wr.heap.size wr)) => (HRR.out.below y.ok HRR.out.lt).congr (G := dsF x (i + 1)) fun j _ => HH4.out j HP2.out)
          have B1 := Lib.hid (fun (y : WIn (Below wr.heap.size wr)) => HB1.out.trans (y.ok.mono (Nat.le_of_lt HRR.out.lt)))
          go_wp2_with fail
          refine wp_region_quietD (Below wr.heap.size wr) (by kernel_rfl) (by kernel_rfl) (below_drew1 _) ?_
          repeat (go_big_quiet_step ((go_at_call 101; exact inCallS _ (hLx.out _))))
          refine wpQuiet_nil ?_
          rintro _ ⟨y, rfl⟩
          have R2 := Lib.hid (R1.out y); have B2 := Lib.hid (B1.out y)
          generalize y.w = v at *
          go_wp2_with fail
          go_roundw
          case rel => exact ⟨i + 1, by omega, by omega, by go_num, R2.out, B2.out⟩
          case measure => simp [intOf]; omega

set_option maxRecDepth 100000 in
set_option maxHeartbeats 2000000 in
theorem len64_any (n : Nat) (hn : n ≤ 12) (w : World) : Calls Tryz.prog 105 #[.int .u64 (n : Int)] w fun e w' => (∃ k, e = .returned (.int .i64 k)) ∧ w = w' := by
  have hc : n = 0 ∨ n = 1 ∨ n = 2 ∨ n = 3 ∨ n = 4 ∨ n = 5 ∨ n = 6 ∨ n = 7 ∨ n = 8 ∨ n = 9 ∨ n = 10 ∨ n = 11 ∨ n = 12 := by omega
  rcases hc with rfl | rfl | rfl | rfl | rfl | rfl | rfl | rfl | rfl | rfl | rfl | rfl | rfl
  all_goals
    go_enter Tryz.func105, Tryz.ntmps105
    go_wp2
    go_ret
    exact ⟨⟨_, rfl⟩, rfl⟩
theorem len_any (n : Nat) (hn : n ≤ 12) (w : World) : Calls Tryz.prog 93 #[.int .u64 (n : Int)] w fun e w' => (∃ k, e = .returned (.int .i64 k)) ∧ w = w' := by
  have h := Lib.hid (len64_any n hn w)
  go_enter Tryz.func93, Tryz.ntmps93
  go_wp2_with (go_at_call 105; refine h.out.mono ?_; rintro e w' ⟨⟨k, rfl⟩, rfl⟩)
  go_ret
  exact ⟨⟨_, rfl⟩, rfl⟩

set_option maxRecDepth 100000 in
set_option maxHeartbeats 2000000 in
theorem pdqsort16_any (q n cap : Nat) (k : Int) (x : Nat → Int) (hx : ∀ j, j < n → -32768 ≤ x j ∧ x j ≤ 32767) (hn : n ≤ 12) (w : World) (hr : Row16 w q n x) :
    Calls Tryz.prog 92 #[.slice (some ⟨q, 0, none⟩) n cap, .int .i64 0, .int .i64 (n : Int), .int .i64 k] w fun e w' => (∃ v, e = .returned v) ∧ Row16 w' q n (dsF x n) ∧ Below q w w' := by
  have h := Lib.hid (insertionSort16_any q n cap x hx (by omega) w hr)
  go_enter Tryz.func92, Tryz.ntmps92
  go_wp2_with fail
  refine wp_loop_rounds 1 ?_
  rw [rounds_succ]
  go_wp2_with fail
  refine h.out.mono ?_; rintro e w' ⟨⟨v, rfl⟩, h1, h2⟩
  go_wp2_with fail
  refine bodyPost_ret (results_none rfl _ _ _) rfl ?_
  exact ⟨⟨_, rfl⟩, h1, h2⟩

set_option maxRecDepth 100000 in
set_option maxHeartbeats 2000000 in
theorem sort16_any (q n cap : Nat) (x : Nat → Int) (hx : ∀ j, j < n → -32768 ≤ x j ∧ x j ≤ 32767) (hn : n ≤ 12) (w : World) (hr : Row16 w q n x) :
    Calls Tryz.prog 87 #[.slice (some ⟨q, 0, none⟩) n cap] w fun e w' => (∃ v, e = .returned v) ∧ Row16 w' q n (isF x n) ∧ Below q w w' := by
  have h := Lib.hid (fun k => pdqsort16_any q n cap k x hx hn w hr)
  have hl := Lib.hid (len_any n hn w)
  have hw : IntKind.u64.wrap (n : Int) = (n : Int) := by rw [IntKind.wrap_u64]; omega
  go_enter Tryz.func87, Tryz.ntmps87
  go_wp2_with (go_at_call 93; refine hl.out.mono ?_; rintro e w' ⟨⟨k, rfl⟩, rfl⟩)
  refine (h.out _).mono ?_; rintro e w' ⟨⟨v, rfl⟩, h1, h2⟩
  go_wp2_with fail
  go_end0
  exact ⟨⟨_, rfl⟩, h1.congr fun j hj => dsF_n x hj, h2⟩

/-! ### OWN LISTS OF 16-BIT NUMBERS -/
/-- Numbers as cells. -/
def l16 (F : Nat → Int) (n : Nat) : List Value := (List.range n).map fun j => .int .i16 (F j)
theorem l16_len (F : Nat → Int) (n : Nat) : (l16 F n).length = n := by simp [l16]
theorem l16_snoc (F : Nat → Int) (n : Nat) (v : Int) : l16 F n ++ [.int .i16 v] = l16 (fun j => if j = n then v else F j) (n + 1) := by
  unfold l16
  rw [List.range_succ, List.map_append]
  congr 1
  · refine List.map_congr_left fun j hj => ?_
    have := List.mem_range.1 hj
    show _ = Value.int .i16 (if j = n then v else F j)
    rw [if_neg (by omega)]
  · simp
theorem l16_congr {F G : Nat → Int} {n : Nat} (h : ∀ j, j < n → F j = G j) : l16 F n = l16 G n := by
  unfold l16
  exact List.map_congr_left fun j hj => by rw [h j (List.mem_range.1 hj)]
theorem i16Info : (Tryz.prog.info? 27).map (fun i => (i.zero, i.size, i.bytes)) = some (some (.int .i16 0), 1, 2) := by kernel_rfl
theorem own16_row {w : World} {L n : Nat} {v : Value} {F : Nat → Int} (h : w.ownsRow L 27 1 v n (l16 F n)) : (v = .slice none 0 0 ∧ n = 0) ∨ ∃ q cap, v = .slice (some ⟨q, 0, none⟩) n cap ∧ L ≤ q ∧ Row16 w q n F := by
  obtain ⟨_, h⟩ := h
  rcases h with h | ⟨g, cap, cur, rfl, hb, hh, hn', hm, hs, ht⟩
  · exact .inl h
  · refine .inr ⟨g, cap, rfl, hb, cur, hh, fun j hj => ?_⟩
    have h1 : (l16 F n)[j]? = some (.int .i16 (F j)) := by simp [l16, hj]
    rw [← ht, Nat.mul_one, List.getElem?_take, if_pos hj] at h1
    simpa using h1
theorem own16_set {w : World} {L n q cap : Nat} {F : Nat → Int} (h : w.ownsRow L 27 1 (.slice (some ⟨q, 0, none⟩) n cap) n (l16 F n)) {k : Nat} (hk : k < n) (u : Int) : (w.setCell ⟨q, k, none⟩ (.int .i16 u)).ownsRow L 27 1 (.slice (some ⟨q, 0, none⟩) n cap) n (l16 (upd F k u) n) := by
  obtain ⟨h0, h⟩ := h
  rcases h with ⟨e, _⟩ | ⟨g, cap', cur, e, hb, hh, hn', hm, hs, ht⟩
  · cases e
  · injection e with e1 e2 e3
    injection e1 with e1
    injection e1 with e1
    subst e1 e3
    refine ⟨by rw [l16_len, Nat.mul_one], .inr ⟨_, _, _, rfl, hb, heap_setCell_same w _ k cur _ _ hh, hn', hm, by simp [hs], ?_⟩⟩
    refine List.ext_getElem? fun j => ?_
    have hj := congrArg (fun l => l[j]?) ht
    simp only [Nat.mul_one, List.getElem?_take] at hj ⊢
    by_cases hjn : j < n
    · rw [if_pos hjn] at hj ⊢
      rw [show (l16 (upd F k u) n)[j]? = some (.int .i16 (upd F k u j)) by simp [l16, hjn]]
      rw [show (l16 F n)[j]? = some (.int .i16 (F j)) by simp [l16, hjn]] at hj
      have hks : k < cur.size := by omega
      have hj2 : cur[j]? = some (.int .i16 (F j)) := by simpa using hj
      rw [Array.getElem?_toList, Array.getElem?_setIfInBounds]
      by_cases e : k = j
      · subst e; rw [if_pos rfl, if_pos hks, upd_same]
      · rw [if_neg e, hj2, upd_other (fun h => e h.symm)]
    · rw [if_neg hjn]
      simp [l16, hjn]
section
variable {ops : Array Oper} {rest : List Oper} {o : Oper} {a : Act} {Q : Exit → Act → World → Prop} {w : World}
/-- 'append(s, x)' of one number. -/
theorem wpList_append_i16 (hgd : o.guard = none) (s x : Operand) (ho : o.op = .call { callee := .builtin .append, args := #[s, x], argTypes := #[87, 87] })
    {L n : Nat} {v : Value} {F : Nat → Int} {b : Int} (hs : a.eval s = v) (hown : w.ownsRow L 27 1 v n (l16 F n)) {S : Nat} (hx : a.eval x = .slice (some ⟨S, 0, none⟩) 1 1) (hS : w.heap.size = S) (hn : n ≤ 1000000) (hL : L ≤ w.heap.size)
    (h : ∀ v' w', w'.ownsRow L 27 1 v' (n + 1) (l16 (fun j => if j = n then b else F j) (n + 1)) → Below L w w' → wpList Tryz.prog ops Q rest (a.put o.dst v') w') :
    wpList Tryz.prog ops Q (o :: rest) a (w.alloc (.cells #[.int .i16 b] 27)) := by
  subst hS
  obtain ⟨i0, hi, hz0, hz1, hz2⟩ := info_parts i16Info
  refine wpList_append_own_at _ hgd s x 87 ho L 27 i0 (.int .i16 0) 1 2 Tryz.underlying87 hi hz0 hz1 hz2 rfl (by decide) v n (l16 F n) hs (hown.alloc _) ⟨w.heap.size, 0, none⟩ 1 1 [.int .i16 b] hx rfl (cell_one_new _ _ _) (by simp [Value.oneCell']) (by unfold maxLen; omega) (by omega) (by simp; omega) ?_
  intro v' w' h1 h2 _ _
  refine h v' w' ?_ ?_
  · rw [← l16_snoc]; exact h1
  · exact Below.grown (Below.refl _ _) ⟨h2.os, h2.tape, h2.output, by have := h2.size; simp at this; omega, fun k hk hne => (h2.block k (by simp; omega) hne).trans (Below.heap_alloc w _ k hk)⟩ hL (fun k hk => (hown.lt k hk).1)
end
end Go.Proofs.YtmibinfaafhgdaaGreatDoor

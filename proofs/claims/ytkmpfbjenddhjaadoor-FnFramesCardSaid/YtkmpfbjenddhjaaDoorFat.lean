/-
  The frame at a place: what both sides' functions return. Condition of the program's: its variables hold their own errors.
-/
import Derived.Test.YtkmpfbjenddhjaaDoorFrs
namespace Go.Proofs.YtkmpfbjenddhjaaDoor
open Go.RowKit

/-- Is there a frame at a place of a sheet that is valid? -/
def fatB (X : Int) (n : Nat) (col row : Int) : Bool := inB col 0 (X - 1) && (inB row 0 12 && decide (col + X * row < n))
/-- What FrameAt returns. -/
def fatT (X : Int) (n : Nat) (g : Nat → Nat → Int) (col row : Int) : Array Value := if shtB X n g = true then (if fatB X n col row = true then #[.int .i64 (col + X * row), .int .i64 0] else #[.int .i64 0, .int .i64 6]) else #[.int .i64 0, .int .i64 1]
theorem mul_bd {X row : Int} (h1 : 1 ≤ X) (h2 : X ≤ 12) (h3 : 0 ≤ row) (h4 : row ≤ 12) : 0 ≤ X * row ∧ X * row ≤ 144 := by
  refine ⟨Int.mul_nonneg (by omega) h3, ?_⟩
  have a := Int.mul_le_mul_of_nonneg_right h2 h3
  have b := Int.mul_le_mul_of_nonneg_left h4 (show (0 : Int) ≤ 12 by omega)
  omega
/-- How many rows there are. -/
theorem rows_bd {X : Int} {n : Nat} (h1 : 1 ≤ X) (h3 : n ≤ 12) : 0 ≤ ((n : Int) + X - 1).tdiv X ∧ ((n : Int) + X - 1).tdiv X ≤ 12 ∧ (n : Int) ≤ X * ((n : Int) + X - 1).tdiv X := by
  rw [Int.tdiv_eq_ediv_of_nonneg (by omega)]
  have a := Int.lt_ediv_add_one_mul_self ((n : Int) + X - 1) (show 0 < X by omega)
  have b := Int.ediv_mul_le ((n : Int) + X - 1) (show X ≠ 0 by omega)
  have c := Int.ediv_nonneg (show 0 ≤ (n : Int) + X - 1 by omega) (show 0 ≤ X by omega)
  generalize ((n : Int) + X - 1) / X = R at *
  refine ⟨c, ?_, ?_⟩
  · rcases Int.lt_or_le 12 R with h | h
    · have d := Int.mul_le_mul_of_nonneg_right (show 13 ≤ R by omega) (show 0 ≤ X by omega)
      omega
    · exact h
  · rw [Int.add_mul, Int.one_mul] at a
    rw [Int.mul_comm]
    omega
theorem fatB_rows {X : Int} {n : Nat} {col row : Int} (h1 : 1 ≤ X) (h2 : X ≤ 12) (h3 : n ≤ 12) (hc : inB col 0 (X - 1) = true) (hr : inB row 0 (((n : Int) + X - 1).tdiv X - 1) = false) : fatB X n col row = false := by
  have hb := rows_bd (X := X) h1 h3
  generalize ((n : Int) + X - 1).tdiv X = R at *
  have hc' := inB_true.1 hc
  rcases h : inB row 0 12 with _ | _
  · simp [fatB, h]
  · have hw := inB_true.1 h
    have hr' := inB_false.1 hr
    have d := Int.mul_le_mul_of_nonneg_left (show R ≤ row by omega) (show 0 ≤ X by omega)
    have e : ¬ col + X * row < (n : Int) := by omega
    simp [fatB, e]
theorem fatB_in {X : Int} {n : Nat} {col row : Int} (h1 : 1 ≤ X) (h2 : X ≤ 12) (h3 : n ≤ 12) (hc : inB col 0 (X - 1) = true) (hr : inB row 0 (((n : Int) + X - 1).tdiv X - 1) = true) : (0 ≤ row ∧ row ≤ 12) ∧ fatB X n col row = inB (col + X * row) 0 ((n : Int) - 1) := by
  have hb := rows_bd (X := X) h1 h3
  generalize ((n : Int) + X - 1).tdiv X = R at *
  have hc' := inB_true.1 hc
  have hr' := inB_true.1 hr
  have hw : 0 ≤ row ∧ row ≤ 12 := by omega
  have hm := mul_bd h1 h2 hw.1 hw.2
  refine ⟨hw, ?_⟩
  rw [Bool.eq_iff_iff]
  simp only [fatB, hc, inB_true.2 hw, Bool.true_and, decide_eq_true_eq, inB_true]
  omega

/-- What the program's own function hands back. -/
def fatR (s : Ers) (X : Int) (n : Nat) (g : Nat → Nat → Int) (col row : Int) : Array Value := if shtB X n g = true then (if fatB X n col row = true then #[.int .i64 (col + X * row), .nilIface] else #[.int .i64 0, errV s.enotfound]) else #[.int .i64 0, errV s.einvalid]

set_option maxRecDepth 100000 in
set_option maxHeartbeats 2000000 in
theorem frameAt_any (s : Ers) (X : Int) (A : Option Addr) (n cap : Nat) (g : Nat → Nat → Int) (col row : Int) (hn : n ≤ 1048576) (hX : -128 ≤ X ∧ X ≤ 127) (bc : -9223372036854775808 ≤ col ∧ col ≤ 9223372036854775807) (br : -9223372036854775808 ≤ row ∧ row ≤ 9223372036854775807) (w : World) (hr : PrsIn w A n g) (hE : ErrEnv s w) :
    Calls Tryd.prog 47 #[.agg #[.int .i8 X, .slice A n cap], .int .i64 col, .int .i64 row] w fun e w' => e = .returned (.tuple (fatR s X n g col row)) ∧ Below w.heap.size w w' := by
  have k0 := (Below.refl w.heap.size w).alloc (Nat.le_refl _) (.cells #[.int .i8 X, .slice A n cap] 29)
  have hq := framesOf_any s X A n cap g hn hX none 0 0 (fun _ => 0) (by omega) _ (hr.below k0 (Nat.le_refl _)) (.inl rfl) (hE.below k0 (Nat.le_refl _))
  have d0 : (w.alloc (.cells #[.int .i8 X, .slice A n cap] 29)).cell? ⟨w.heap.size, 0, none⟩ = some (.int .i8 X) := by simp
  have d1 : (w.alloc (.cells #[.int .i8 X, .slice A n cap] 29)).cell? ⟨w.heap.size, 1, none⟩ = some (.slice A n cap) := by simp
  have HE := Lib.hid hE; clear hE hr
  unfold fatR
  rcases hv : shtB X n g with _ | _
  · rw [frmC_bad hv, frmR_1] at hq
    rw [if_neg (by decide)]
    have Hq := Lib.hid hq; clear hq hv d0 d1
    go_enter Tryd.func47, Tryd.ntmps47
    go_wp2_with fail
    refine Hq.out.mono ?_; rintro e w2 ⟨rfl, hb2⟩
    have k2 := k0.trans (hb2.mono k0.size)
    go_wp2_with fail
    go_ret2
    exact ⟨rfl, k2⟩
  rw [frmC_none hv, frmR_0] at hq
  rw [if_pos rfl]
  have h1 := (shtB_iff.1 hv).1.1
  have h2 := (shtB_iff.1 hv).1.2
  have h3 := (shtB_iff.1 hv).2.1
  have Hq := Lib.hid hq; clear hq hv
  have hi1 := fun W => inRange_any col 0 (X - 1) W
  rcases hc : inB col 0 (X - 1) with _ | _
  · rw [if_neg (by simp [fatB, hc])]
    rw [hc] at hi1
    have Hi1 := Lib.hid hi1; clear hi1 hc
    go_enter Tryd.func47, Tryd.ntmps47
    go_wp2_with fail
    refine Hq.out.mono ?_; rintro e w2 ⟨rfl, hb2⟩
    have k2 := k0.trans (hb2.mono k0.size)
    have e0 := below_cellOf hb2 d0 (Nat.le_refl _)
    have ce := (HE.out.below k2 (Nat.le_refl _)).c_enotfound
    clear d0 d1
    go_wp2_with (go_at_call 43; refine (Hi1.out _).mono ?_; rintro e w' ⟨rfl, rfl⟩)
    go_quiet (fail)
    go_wp2
    go_ret2
    exact ⟨rfl, below_drewA k2 nq⟩
  rw [hc] at hi1
  have Hi1 := Lib.hid hi1; clear hi1
  have hrb := rows_bd (X := X) h1 h3
  have hrows := fun W => rows_any X A n cap h1 h2 h3 W
  have hi2 := fun W => inRange_any row 0 (((n : Int) + X - 1).tdiv X - 1) W
  have r0 := hrb.1
  have r1 := hrb.2.1
  rcases hw : inB row 0 (((n : Int) + X - 1).tdiv X - 1) with _ | _
  · rw [fatB_rows h1 h2 h3 hc hw, if_neg (by decide)]
    rw [hw] at hi2
    clear hw hc hrb
    generalize ((n : Int) + X - 1).tdiv X = R at *
    have Hi2 := Lib.hid hi2
    have Hrows := Lib.hid hrows
    clear hi2 hrows
    go_enter Tryd.func47, Tryd.ntmps47
    go_wp2_with fail
    refine Hq.out.mono ?_; rintro e w2 ⟨rfl, hb2⟩
    have k2 := k0.trans (hb2.mono k0.size)
    have e0 := below_cellOf hb2 d0 (Nat.le_refl _)
    have e1 := below_cellOf hb2 d1 (Nat.le_refl _)
    clear d0 d1
    go_wp2_with (first | (go_at_call 43; (first | (with_reducible refine (Hi1.out _).mono ?_) | (with_reducible refine (Hi2.out _).mono ?_)); rintro e w' ⟨rfl, rfl⟩) | (go_at_call 39; refine (Hrows.out _).mono ?_; rintro e w3 ⟨rfl, hb3⟩; have k3 := k2.trans (hb3.mono k2.size); have ce := (HE.out.below k3 (Nat.le_refl _)).c_enotfound))
    go_quiet (fail)
    go_wp2
    go_ret2
    exact ⟨rfl, below_drewA k3 nq⟩
  have hfi := fatB_in h1 h2 h3 hc hw
  rw [hfi.2]
  have hm := mul_bd h1 h2 hfi.1.1 hfi.1.2
  have m0 := hm.1
  have m1 := hm.2
  have hc' := inB_true.1 hc
  have c0 := hc'.1
  have c1 := hc'.2
  rw [hw] at hi2
  clear hw hc hrb hfi hm hc'
  generalize ((n : Int) + X - 1).tdiv X = R at *
  have Hi2 := Lib.hid hi2
  have Hrows := Lib.hid hrows
  clear hi2 hrows
  obtain ⟨P, hP⟩ : ∃ P, X * row = P := ⟨_, rfl⟩
  rw [hP] at m0 m1 ⊢
  have hh := fun W => frHas_any A n cap (col + P) hn W
  rcases hx : inB (col + P) 0 ((n : Int) - 1) with _ | _
  · rw [if_neg (by decide)]
    rw [hx] at hh
    have Hh := Lib.hid hh; clear hh hx
    go_enter Tryd.func47, Tryd.ntmps47
    go_wp2_with fail
    refine Hq.out.mono ?_; rintro e w2 ⟨rfl, hb2⟩
    have k2 := k0.trans (hb2.mono k0.size)
    have e0 := below_cellOf hb2 d0 (Nat.le_refl _)
    have e1 := below_cellOf hb2 d1 (Nat.le_refl _)
    clear d0 d1
    go_wp2_with (first | (go_at_call 43; (first | (with_reducible refine (Hi1.out _).mono ?_) | (with_reducible refine (Hi2.out _).mono ?_)); rintro e w' ⟨rfl, rfl⟩) | (go_at_call 62; refine (Hh.out _).mono ?_; rintro e w' ⟨rfl, rfl⟩) | (go_at_call 39; refine (Hrows.out _).mono ?_; rintro e w3 ⟨rfl, hb3⟩; have k3 := k2.trans (hb3.mono k2.size); have ce := (HE.out.below k3 (Nat.le_refl _)).c_enotfound))
    go_quiet (fail)
    go_wp2
    go_ret2
    exact ⟨rfl, below_drewA k3 nq⟩
  · rw [if_pos rfl]
    rw [hx] at hh
    have Hh := Lib.hid hh; clear hh hx
    go_enter Tryd.func47, Tryd.ntmps47
    go_wp2_with fail
    refine Hq.out.mono ?_; rintro e w2 ⟨rfl, hb2⟩
    have k2 := k0.trans (hb2.mono k0.size)
    have e0 := below_cellOf hb2 d0 (Nat.le_refl _)
    have e1 := below_cellOf hb2 d1 (Nat.le_refl _)
    clear d0 d1
    go_wp2_with (first | (go_at_call 43; (first | (with_reducible refine (Hi1.out _).mono ?_) | (with_reducible refine (Hi2.out _).mono ?_)); rintro e w' ⟨rfl, rfl⟩) | (go_at_call 62; refine (Hh.out _).mono ?_; rintro e w' ⟨rfl, rfl⟩) | (go_at_call 39; refine (Hrows.out _).mono ?_; rintro e w3 ⟨rfl, hb3⟩; have k3 := k2.trans (hb3.mono k2.size)))
    go_ret2
    exact ⟨rfl, k3⟩

set_option maxRecDepth 100000 in
set_option maxHeartbeats 2000000 in
theorem FrameAt_any (s : Ers) (X : Int) (A : Option Addr) (n cap : Nat) (g : Nat → Nat → Int) (col row : Int) (hn : n ≤ 1048576) (hX : -128 ≤ X ∧ X ≤ 127) (bc : -9223372036854775808 ≤ col ∧ col ≤ 9223372036854775807) (br : -9223372036854775808 ≤ row ∧ row ≤ 9223372036854775807) (w : World) (hr : PrsIn w A n g) (hE : ErrEnv s w) :
    Calls Tryd.prog 22 #[.agg #[.int .i8 X, .slice A n cap], .int .i64 col, .int .i64 row] w fun e w' => e = .returned (.tuple (fatT X n g col row)) ∧ Below w.heap.size w w' := by
  have k0 := (Below.refl w.heap.size w).alloc (Nat.le_refl _) (.cells #[.int .i8 X, .slice A n cap] 29)
  have hf := frameAt_any s X A n cap g col row hn hX bc br _ (hr.below k0 (Nat.le_refl _)) (hE.below k0 (Nat.le_refl _))
  have HE := Lib.hid hE; clear hE hr
  have key : ∃ (x : Int) (v : Value) (c : Int), fatR s X n g col row = #[.int .i64 x, v] ∧ IsCode s v c ∧ fatT X n g col row = #[.int .i64 x, .int .i64 c] := by
    unfold fatR fatT
    split
    · split
      · exact ⟨_, _, _, rfl, .ok, rfl⟩
      · exact ⟨_, _, _, rfl, .enotfound, rfl⟩
    · exact ⟨_, _, _, rfl, .einvalid, rfl⟩
  obtain ⟨x, v, c, e1, hc, e2⟩ := key
  rw [e1] at hf
  rw [e2]
  have Hf := Lib.hid hf; clear hf e1 e2
  have Hco := Lib.hid (fun W hW => codedInt_any hc x W hW)
  go_enter Tryd.func22, Tryd.ntmps22
  go_wp2_with fail
  refine Hf.out.mono ?_; rintro e w2 ⟨rfl, hb2⟩
  have k2 := k0.trans (hb2.mono k0.size)
  go_wp2_with fail
  refine (Hco.out _ (HE.out.below k2 (Nat.le_refl _))).mono ?_; rintro e w3 ⟨rfl, rfl⟩
  go_wp2_with fail
  go_ret2
  exact ⟨rfl, k2⟩
end Go.Proofs.YtkmpfbjenddhjaaDoor

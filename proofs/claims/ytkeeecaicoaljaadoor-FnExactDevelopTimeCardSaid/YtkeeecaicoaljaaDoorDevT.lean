/-
  Times of a bath: what the reference and the program return. Condition of the program's: its errors, and its table of times.
-/
import Derived.Test.YtkeeecaicoaljaaDoorBathI
namespace Go.Proofs.YtkeeecaicoaljaaDoor
open Go.RowKit

theorem flr_neg {x y : Int} (hx : x < 0) (hy : 1 ≤ y) : (x.tmod y < 0 ∧ x.tdiv y - 1 = x / y) ∨ (x.tmod y = 0 ∧ x.tdiv y = x / y) := by
  have h1 := Int.tdiv_eq_ediv (a := x) (b := y)
  have h2 := Int.tmod_eq_emod (a := x) (b := y)
  have hs : Int.sign y = 1 := Int.sign_eq_one_of_pos (by omega)
  have hm := Int.emod_nonneg x (by omega : y ≠ 0)
  have hlt := Int.emod_lt_of_pos x (by omega : 0 < y)
  by_cases hd : y ∣ x
  · right
    rw [if_pos (Or.inr hd)] at h1 h2
    have := Int.emod_eq_zero_of_dvd hd
    omega
  · left
    have hn : ¬ (0 ≤ x ∨ y ∣ x) := by rintro (h | h); omega; exact hd h
    rw [if_neg hn] at h1 h2
    rw [hs] at h1
    have hna : (y.natAbs : Int) = y := Int.natAbs_of_nonneg (by omega)
    omega
theorem flr_bd {x y : Int} (hx : -1000 ≤ x) (hx' : x ≤ 1000) (hy : 1 ≤ y) : -1000 ≤ x / y ∧ x / y ≤ 1000 := by
  have h0 := Int.mul_ediv_add_emod x y
  have hm := Int.emod_nonneg x (by omega : y ≠ 0)
  have hlt := Int.emod_lt_of_pos x (by omega : 0 < y)
  constructor
  · have := Int.ediv_le_ediv (a := -1000) (b := x) (by omega : 0 < y) hx
    have h3 : -1000 ≤ (-1000 : Int) / y := by
      have := Int.le_ediv_iff_mul_le (a := -1000) (b := -1000) (c := y) (by omega)
      exact this.2 (by omega)
    omega
  · have := Int.ediv_le_ediv (a := x) (b := 1000) (by omega : 0 < y) hx'
    have h3 : (1000 : Int) / y ≤ 1000 := Int.ediv_le_self _ (by omega)
    omega

set_option maxHeartbeats 1000000 in
theorem l04Down_any (x y : Int) (hx : -1000 ≤ x) (hx' : x ≤ 1000) (hy : 1 ≤ y) (w : World) :
    Calls Tryd.prog 46 #[.int .i64 x, .int .i64 y] w fun e w' => e = .returned (.int .i64 (x / y)) ∧ w = w' := by
  have hb := flr_bd hx hx' hy
  have hy0 : ¬ y = 0 := by omega
  by_cases h0 : 0 ≤ x
  · have hm := Int.emod_nonneg x (by omega : y ≠ 0)
    go_enter Tryd.func46, Tryd.ntmps46
    go_wp2
    all_goals
      go_ret
      exact ⟨rfl, rfl⟩
  · rcases flr_neg (x := x) (y := y) (by omega) hy with ⟨h1, h2⟩ | ⟨h1, h2⟩
    · have h3 : -1000 ≤ x.tdiv y ∧ x.tdiv y ≤ 1001 := by omega
      generalize hQ : x.tdiv y = Q at *
      generalize hR : x.tmod y = R at *
      have e1 : IntKind.i64.wrap Q = Q := IntWalk.i64_in _ (by omega)
      have e2 : IntKind.i64.wrap R = R := by
        refine IntWalk.i64_in _ ?_
        have := Int.tmod_eq_emod (a := x) (b := y)
        have hm := Int.emod_nonneg x (by omega : y ≠ 0)
        have hlt := Int.emod_lt_of_pos x (by omega : 0 < y)
        have h5 : -1001 * y ≤ R ∨ True := .inr trivial
        have h6 := Int.tmod_add_mul_tdiv x y
        have h7 := Int.natAbs_tmod x y
        have h8 := Nat.mod_le x.natAbs y.natAbs
        rw [hR] at h7
        omega
      have H2 := Lib.hid h2; clear h2 hb
      go_enter Tryd.func46, Tryd.ntmps46
      go_wp2
      go_ret
      exact ⟨ret_int H2.out, rfl⟩
    · have h3 : -1000 ≤ x.tdiv y ∧ x.tdiv y ≤ 1001 := by omega
      generalize hQ : x.tdiv y = Q at *
      generalize hR : x.tmod y = R at *
      subst h1
      have e1 : IntKind.i64.wrap Q = Q := IntWalk.i64_in _ (by omega)
      have H2 := Lib.hid h2; clear h2 hb
      go_enter Tryd.func46, Tryd.ntmps46
      go_wp2
      go_ret
      exact ⟨ret_int H2.out, rfl⟩

set_option maxHeartbeats 1000000 in
theorem floored_any (x y : Int) (hx : -1000 ≤ x) (hx' : x ≤ 1000) (hy : 1 ≤ y) (w : World) :
    Calls Tryd.prog 76 #[.int .i64 x, .int .i64 y] w fun e w' => e = .returned (.int .i64 (x / y)) ∧ w = w' := by
  have hb := flr_bd hx hx' hy
  have hy0 : ¬ y = 0 := by omega
  by_cases h0 : 0 ≤ x
  · have hm := Int.emod_nonneg x (by omega : y ≠ 0)
    go_enter Tryd.func76, Tryd.ntmps76
    go_wp2
    all_goals
      go_ret
      exact ⟨rfl, rfl⟩
  · rcases flr_neg (x := x) (y := y) (by omega) hy with ⟨h1, h2⟩ | ⟨h1, h2⟩
    · have h3 : -1000 ≤ x.tdiv y ∧ x.tdiv y ≤ 1001 := by omega
      generalize hQ : x.tdiv y = Q at *
      generalize hR : x.tmod y = R at *
      have e1 : IntKind.i64.wrap Q = Q := IntWalk.i64_in _ (by omega)
      have e2 : IntKind.i64.wrap R = R := by
        refine IntWalk.i64_in _ ?_
        have h7 := Int.natAbs_tmod x y
        have h8 := Nat.mod_le x.natAbs y.natAbs
        rw [hR] at h7
        omega
      have H2 := Lib.hid h2; clear h2 hb
      go_enter Tryd.func76, Tryd.ntmps76
      go_wp2
      go_ret
      exact ⟨ret_int H2.out, rfl⟩
    · have h3 : -1000 ≤ x.tdiv y ∧ x.tdiv y ≤ 1001 := by omega
      generalize hQ : x.tdiv y = Q at *
      generalize hR : x.tmod y = R at *
      subst h1
      have e1 : IntKind.i64.wrap Q = Q := IntWalk.i64_in _ (by omega)
      have H2 := Lib.hid h2; clear h2 hb
      go_enter Tryd.func76, Tryd.ntmps76
      go_wp2
      go_ret
      exact ⟨ret_int H2.out, rfl⟩

section
variable {p k b t v u a : Int}

set_option maxHeartbeats 1000000 in
theorem thirdsAt_any (dg : Int) (hd : 5 ≤ dg) (hd' : dg ≤ 50) (hb : 10 ≤ b) (hb' : b ≤ 40) (ht : 1 ≤ t) (ht' : t ≤ 10) (w : World) :
    Calls Tryd.prog 63 #[devV p k b t, .int .i64 dg] w fun e w' => e = .returned (.int .i64 ((b - dg) / t)) ∧ Below w.heap.size w w' := by
  have k0 : Below w.heap.size w (w.alloc (.cells #[.int .i64 p, .int .i64 k, .int .i8 b, .int .i8 t] 29)) := (Below.refl _ _).alloc (Nat.le_refl _) _
  go_enter Tryd.func63, Tryd.ntmps63
  go_wp2_with fail
  refine (floored_any _ _ (by omega) (by omega) ht _).mono ?_; rintro e w1 ⟨rfl, rfl⟩
  go_wp2_with fail
  go_ret
  exact ⟨rfl, k0⟩

/-- The sum of thirds, the code, the time. -/
def dtS (p k b t v u a th dg : Int) : Int := th + slw (strn p k v u a) + (b - dg) / t
def dtC (p k b t v u a th dg : Int) : Int := if bathOk p k b t v u a = true then (if inB th 0 36 = true then (if inB dg 5 50 = true then (if slw (strn p k v u a) = 37 then 4 else if inB (dtS p k b t v u a th dg) 0 36 = true then 0 else 3) else 2) else 2) else 1
def dtR (p k b t v u a th dg : Int) : Int := ifC (dtC p k b t v u a th dg) (tm (dtS p k b t v u a th dg))

set_option maxRecDepth 100000 in
set_option maxHeartbeats 2000000 in
theorem specDevelopTime_any (th dg : Int) (hb : -128 ≤ b) (hb' : b ≤ 127) (ht : -128 ≤ t) (ht' : t ≤ 127) (w : World) :
    Calls Tryd.prog 22 #[devV p k b t, batV v u a, .int .i64 th, .int .i64 dg] w fun e w' => e = .returned (.tuple #[.int .i64 (dtR p k b t v u a th dg), .int .i64 (dtC p k b t v u a th dg)]) ∧ Below w.heap.size w w' := by
  have hok := fun W => l04Ok_any (p := p) (k := k) (b := b) (t := t) (v := v) (u := u) (a := a) hb hb' ht ht' W
  have hB0 := below_2 w (.cells #[.int .i64 p, .int .i64 k, .int .i8 b, .int .i8 t] 29) (.cells #[.int .i64 v, .int .i64 u, .int .i64 a] 26)
  have D0 := DBAt.new w 29 26 p k b t v u a
  unfold dtR dtC dtS
  rcases h1 : bathOk p k b t v u a with _ | _
  · simp only [Bool.false_eq_true, if_false, ifC_1]
    rw [h1] at hok
    have Hok := Lib.hid hok; clear hok h1 D0
    go_enter Tryd.func22, Tryd.ntmps22
    go_wp2_with fail
    refine (Hok.out _).mono ?_; rintro e w1 ⟨rfl, hb1⟩
    go_wp2_with fail
    go_ret2
    exact ⟨rfl, hB0.trans (hb1.mono hB0.size)⟩
  rw [h1] at hok
  have Hok := Lib.hid hok; clear hok
  have h := bathOk_true.1 h1
  clear h1
  rcases h2 : inB th 0 36 with _ | _
  · simp only [Bool.false_eq_true, if_false, if_true, ifC_2]
    clear D0 h
    go_enter Tryd.func22, Tryd.ntmps22
    go_wp2_with fail
    refine (Hok.out _).mono ?_; rintro e w1 ⟨rfl, hb1⟩
    go_wp2_with fail
    refine (l00In_any _ _ _ _).mono ?_; rintro e w2 ⟨rfl, rfl⟩
    go_wp2_with fail
    go_ret2
    exact ⟨rfl, hB0.trans (hb1.mono hB0.size)⟩
  have th01 := inB_true.1 h2
  rcases h3 : inB dg 5 50 with _ | _
  · simp only [Bool.false_eq_true, if_false, if_true, ifC_2]
    clear D0 h
    go_enter Tryd.func22, Tryd.ntmps22
    go_wp2_with fail
    refine (Hok.out _).mono ?_; rintro e w1 ⟨rfl, hb1⟩
    go_wp2_with fail
    refine (l00In_any _ _ _ _).mono ?_; rintro e w2 ⟨rfl, rfl⟩
    go_wp2_with fail
    refine (l00In_any _ _ _ _).mono ?_; rintro e w3 ⟨rfl, rfl⟩
    go_wp2_with fail
    go_ret2
    exact ⟨rfl, hB0.trans (hb1.mono hB0.size)⟩
  have dg01 := inB_true.1 h3
  simp only [if_true]
  have hb0 := h.b0
  have hb1 := h.b1
  have ht0 := h.t0
  have ht1 := h.t1
  have hst := fun W => l04Strength_any h W
  have hsb := h.strn_bd
  have hsl := fun W => l04Slower_any (strn p k v u a) hsb.1 hsb.2 W
  have hb37 := slw_bd (strn p k v u a)
  clear h hsb
  unfold slwS at hsl
  generalize strn p k v u a = S at *
  by_cases h37 : slw S = 37
  · rw [if_pos h37] at hsl
    rw [if_pos h37]
    simp only [ifC_4]
    have Hst := Lib.hid hst; clear hst
    have Hsl := Lib.hid hsl; clear hsl
    clear h37 hb37
    go_enter Tryd.func22, Tryd.ntmps22
    go_wp2_with fail
    refine (Hok.out _).mono ?_; rintro e w1 ⟨rfl, hb1⟩
    have k1 := hB0.trans (hb1.mono hB0.size)
    obtain ⟨c0, c1, c2, c3, c4, c5, c6⟩ := D0.below hb1 (Nat.le_refl _)
    clear D0 hB0 hb1
    go_wp2_with fail
    refine (l00In_any _ _ _ _).mono ?_; rintro e w2 ⟨rfl, rfl⟩
    go_wp2_with fail
    refine (l00In_any _ _ _ _).mono ?_; rintro e w3 ⟨rfl, rfl⟩
    go_wp2_with fail
    refine (Hst.out _).mono ?_; rintro e w4 ⟨rfl, hb4⟩
    have k4 := k1.trans (hb4.mono k1.size)
    go_wp2_with fail
    refine (Hsl.out _).mono ?_; rintro e w5 ⟨rfl, hb5⟩
    go_wp2_with fail
    go_ret2
    exact ⟨rfl, k4.trans (hb5.mono k4.size)⟩
  rw [if_neg h37] at hsl
  rw [if_neg h37]
  generalize slw S = K at *
  have hfb := flr_bd (x := b - dg) (y := t) (by omega) (by omega) ht0
  have hdn := fun W => l04Down_any (b - dg) t (by omega) (by omega) ht0 W
  generalize (b - dg) / t = Z at *
  have Hst := Lib.hid hst; clear hst
  have Hsl := Lib.hid hsl; clear hsl
  have Hdn := Lib.hid hdn; clear hdn
  rcases h4 : inB (th + K + Z) 0 36 with _ | _
  · simp only [Bool.false_eq_true, if_false, ifC_3]
    go_enter Tryd.func22, Tryd.ntmps22
    go_wp2_with fail
    refine (Hok.out _).mono ?_; rintro e w1 ⟨rfl, hb1⟩
    have k1 := hB0.trans (hb1.mono hB0.size)
    have D1 := D0.below hb1 (Nat.le_refl _)
    have D9 := D1
    obtain ⟨c0, c1, c2, c3, c4, c5, c6⟩ := D9
    clear D0 hB0 hb1
    go_wp2_with fail
    refine (l00In_any _ _ _ _).mono ?_; rintro e w2 ⟨rfl, rfl⟩
    go_wp2_with fail
    refine (l00In_any _ _ _ _).mono ?_; rintro e w3 ⟨rfl, rfl⟩
    go_wp2_with fail
    refine (Hst.out _).mono ?_; rintro e w4 ⟨rfl, hb4⟩
    have k4 := k1.trans (hb4.mono k1.size)
    have D4 := D1.below hb4 (Nat.le_refl _)
    go_wp2_with fail
    refine (Hsl.out _).mono ?_; rintro e w5 ⟨rfl, hb5⟩
    have k5 := k4.trans (hb5.mono k4.size)
    clear c0 c1 c2 c3 c4 c5 c6 D1 k1 k4 hb4
    obtain ⟨c0, c1, c2, c3, c4, c5, c6⟩ := D4.below hb5 (Nat.le_refl _)
    clear hb5 D4
    go_wp2_with fail
    refine (Hdn.out _).mono ?_; rintro e w6 ⟨rfl, rfl⟩
    go_wp2_with fail
    refine (l00In_any _ _ _ _).mono ?_; rintro e w7 ⟨rfl, rfl⟩
    go_wp2_with fail
    go_ret2
    exact ⟨rfl, k5⟩
  · simp only [if_true, ifC_0]
    have hsum := inB_true.1 h4
    go_enter Tryd.func22, Tryd.ntmps22
    go_wp2_with fail
    refine (Hok.out _).mono ?_; rintro e w1 ⟨rfl, hb1⟩
    have k1 := hB0.trans (hb1.mono hB0.size)
    have D1 := D0.below hb1 (Nat.le_refl _)
    have D9 := D1
    obtain ⟨c0, c1, c2, c3, c4, c5, c6⟩ := D9
    clear D0 hB0 hb1
    go_wp2_with fail
    refine (l00In_any _ _ _ _).mono ?_; rintro e w2 ⟨rfl, rfl⟩
    go_wp2_with fail
    refine (l00In_any _ _ _ _).mono ?_; rintro e w3 ⟨rfl, rfl⟩
    go_wp2_with fail
    refine (Hst.out _).mono ?_; rintro e w4 ⟨rfl, hb4⟩
    have k4 := k1.trans (hb4.mono k1.size)
    have D4 := D1.below hb4 (Nat.le_refl _)
    go_wp2_with fail
    refine (Hsl.out _).mono ?_; rintro e w5 ⟨rfl, hb5⟩
    have k5 := k4.trans (hb5.mono k4.size)
    clear c0 c1 c2 c3 c4 c5 c6 D1 k1 k4 hb4
    obtain ⟨c0, c1, c2, c3, c4, c5, c6⟩ := D4.below hb5 (Nat.le_refl _)
    clear hb5 D4
    go_wp2_with fail
    refine (Hdn.out _).mono ?_; rintro e w6 ⟨rfl, rfl⟩
    go_wp2_with fail
    refine (l00In_any _ _ _ _).mono ?_; rintro e w7 ⟨rfl, rfl⟩
    go_wp2_with fail
    refine (l01Time_any _ (by omega) (by omega) _).mono ?_; rintro e w8 ⟨rfl, hb8⟩
    go_wp2_with fail
    go_ret2
    exact ⟨rfl, k5.trans (hb8.mono k5.size)⟩

set_option maxRecDepth 100000 in
set_option maxHeartbeats 2000000 in
theorem developTime_any (z : Ers) (th dg : Int) (hb : -128 ≤ b) (hb' : b ≤ 127) (ht : -128 ≤ t) (ht' : t ≤ 127) (w : World) (hT : TimEnv w) (hE : ErrEnv z w) :
    Calls Tryd.prog 48 #[devV p k b t, batV v u a, .int .i64 th, .int .i64 dg] w (Coded z (.int .i64 (dtR p k b t v u a th dg)) (dtC p k b t v u a th dg) w.heap.size w) := by
  have kk := below_2 w (.cells #[.int .i64 p, .int .i64 k, .int .i8 b, .int .i8 t] 29) (.cells #[.int .i64 v, .int .i64 u, .int .i64 a] 26)
  have ne := errNeB
  have nn := nilNeB
  unfold dtR dtC dtS
  rcases h1 : bathOk p k b t v u a with _ | _
  · simp only [Bool.false_eq_true, if_false, ifC_1]
    have hto := trayOf_no z hb hb' ht ht' h1 _ (hE.below kk (Nat.le_refl _))
    have Hto := Lib.hid hto; clear hto h1 nn
    go_enter Tryd.func48, Tryd.ntmps48
    go_wp2_with fail
    refine Hto.out.mono ?_; rintro e w1 ⟨rfl, hb1⟩
    have k1 := kk.trans (hb1.mono kk.size)
    go_wp2_with fail
    go_ret2
    exact ⟨_, .einvalid, rfl, k1.alloc k1.size _⟩
  have h := bathOk_true.1 h1
  have hto := fun W => trayOf_yes h W
  have Hto := Lib.hid hto; clear hto h1
  have HE := Lib.hid hE; clear hE
  have HT := Lib.hid hT; clear hT
  rcases h2 : inB th 0 36 with _ | _
  · simp only [Bool.false_eq_true, if_false, if_true, ifC_2]
    clear h
    go_enter Tryd.func48, Tryd.ntmps48
    go_wp2_with fail
    refine (Hto.out _).mono ?_; rintro e w1 ⟨rfl, hb1⟩
    have k1 := kk.trans (hb1.mono kk.size)
    have k2 := k1.alloc k1.size (.cells #[.int .i64 p, .int .i64 k, .int .i8 b, .int .i8 t, .int .i64 v, .int .i64 u, .int .i64 a] 78)
    have cr := (HE.out.below k1 (Nat.le_refl _)).c_erange
    have cl := cell_ltB cr
    go_wp2_with fail
    refine (inRange_any _ _ _ _).mono ?_; rintro e w2 ⟨rfl, rfl⟩
    go_wp2_with fail
    go_quiet (fail)
    go_wp2
    go_ret2
    exact ⟨_, .erange, rfl, below_drewN k2 _⟩
  have th01 := inB_true.1 h2
  rcases h3 : inB dg 5 50 with _ | _
  · simp only [Bool.false_eq_true, if_false, if_true, ifC_2]
    clear h
    go_enter Tryd.func48, Tryd.ntmps48
    go_wp2_with fail
    refine (Hto.out _).mono ?_; rintro e w1 ⟨rfl, hb1⟩
    have k1 := kk.trans (hb1.mono kk.size)
    have k2 := k1.alloc k1.size (.cells #[.int .i64 p, .int .i64 k, .int .i8 b, .int .i8 t, .int .i64 v, .int .i64 u, .int .i64 a] 78)
    have cr := (HE.out.below k1 (Nat.le_refl _)).c_erange
    have cl := cell_ltB cr
    go_wp2_with fail
    refine (inRange_any _ _ _ _).mono ?_; rintro e w2 ⟨rfl, rfl⟩
    go_wp2_with fail
    refine (inRange_any _ _ _ _).mono ?_; rintro e w3 ⟨rfl, rfl⟩
    go_wp2_with fail
    go_quiet (fail)
    go_wp2
    go_ret2
    exact ⟨_, .erange, rfl, below_drewN k2 _⟩
  have dg01 := inB_true.1 h3
  simp only [if_true]
  have hb0 := h.b0
  have hb1 := h.b1
  have ht0 := h.t0
  have ht1 := h.t1
  have hst := fun W => strength_any h W
  have hsb := h.strn_bd
  have hsl := fun W hT hE => slowerBy_any z (strn p k v u a) W hT hE
  have hb37 := slw_bd (strn p k v u a)
  unfold slwR slwC at hsl
  rw [inB_true.2 hsb] at hsl
  simp only [if_true] at hsl
  clear h hsb
  generalize strn p k v u a = S at *
  by_cases h37 : slw S = 37
  · rw [if_pos h37, if_pos h37] at hsl
    rw [if_pos h37]
    simp only [ifC_4]
    have Hst := Lib.hid hst; clear hst
    have Hsl := Lib.hid hsl; clear hsl
    clear h37 hb37
    go_enter Tryd.func48, Tryd.ntmps48
    go_wp2_with fail
    refine (Hto.out _).mono ?_; rintro e w1 ⟨rfl, hb1⟩
    have k1 := kk.trans (hb1.mono kk.size)
    have k2 := k1.alloc k1.size (.cells #[.int .i64 p, .int .i64 k, .int .i8 b, .int .i8 t, .int .i64 v, .int .i64 u, .int .i64 a] 78)
    go_wp2_with fail
    refine (inRange_any _ _ _ _).mono ?_; rintro e w2 ⟨rfl, rfl⟩
    go_wp2_with fail
    refine (inRange_any _ _ _ _).mono ?_; rintro e w3 ⟨rfl, rfl⟩
    go_wp2_with fail
    refine (Hst.out _).mono ?_; rintro e w4 ⟨rfl, hb4⟩
    have k4 := k2.trans (hb4.mono k2.size)
    go_wp2_with fail
    refine (Hsl.out _ (HT.out.below k4 (Nat.le_refl _)) (HE.out.below k4 (Nat.le_refl _))).mono ?_; rintro e w5 ⟨x, hx, rfl, hb5⟩
    obtain ⟨ad, rfl⟩ := isCode_err hx (by decide)
    have k5 := k4.trans (hb5.mono k4.size)
    have cs := (HE.out.below k5 (Nat.le_refl _)).c_estate
    go_wp2_with fail
    go_quiet (fail)
    go_wp2
    go_ret2
    exact ⟨_, .estate, rfl, below_drewN k5 _⟩
  rw [if_neg h37, if_neg h37] at hsl
  rw [if_neg h37]
  generalize slw S = K at *
  have hfb := flr_bd (x := b - dg) (y := t) (by omega) (by omega) ht0
  have hdn := fun W => thirdsAt_any (p := p) (k := k) dg dg01.1 dg01.2 hb0 hb1 ht0 ht1 W
  generalize (b - dg) / t = Z at *
  have htm := fun W hT hE => timeOf_any z (th + K + Z) W hT hE
  unfold timeR timeC at htm
  have Hst := Lib.hid hst; clear hst
  have Hsl := Lib.hid hsl; clear hsl
  have Hdn := Lib.hid hdn; clear hdn
  rcases h4 : inB (th + K + Z) 0 36 with _ | _
  all_goals
    rw [h4] at htm
    simp only [Bool.false_eq_true, if_false, if_true, ifC_3, ifC_0] at htm ⊢
    generalize tm (th + K + Z) = M at *
    have Htm := Lib.hid htm; clear htm
    go_enter Tryd.func48, Tryd.ntmps48
    go_wp2_with fail
    refine (Hto.out _).mono ?_; rintro e w1 ⟨rfl, hb1⟩
    have k1 := kk.trans (hb1.mono kk.size)
    have D2 := TrAt.new w1 78 p k b t v u a
    have k2 := k1.alloc k1.size (.cells #[.int .i64 p, .int .i64 k, .int .i8 b, .int .i8 t, .int .i64 v, .int .i64 u, .int .i64 a] 78)
    clear hb1 k1 kk
    go_wp2_with fail
    refine (inRange_any _ _ _ _).mono ?_; rintro e w2 ⟨rfl, rfl⟩
    go_wp2_with fail
    refine (inRange_any _ _ _ _).mono ?_; rintro e w3 ⟨rfl, rfl⟩
    go_wp2_with fail
    refine (Hst.out _).mono ?_; rintro e w4 ⟨rfl, hb4⟩
    have k4 := k2.trans (hb4.mono k2.size)
    have D4 := D2.below hb4 (Nat.le_refl _)
    clear hb4 D2 k2
    go_wp2_with fail
    refine (Hsl.out _ (HT.out.below k4 (Nat.le_refl _)) (HE.out.below k4 (Nat.le_refl _))).mono ?_; rintro e w5 ⟨x, hx, rfl, hb5⟩
    obtain rfl := isCode_zero hx rfl
    have k5 := k4.trans (hb5.mono k4.size)
    obtain ⟨c0, c1, c2, c3, c4, c5, c6, _⟩ := D4.below hb5 (Nat.le_refl _)
    clear hb5 D4 k4
    go_wp2_with fail
    refine (Hdn.out _).mono ?_; rintro e w6 ⟨rfl, hb6⟩
    have k6 := k5.trans (hb6.mono k5.size)
    clear hb6 k5 c0 c1 c2 c3 c4 c5 c6
    go_wp2_with fail
    refine (Htm.out _ (HT.out.below k6 (Nat.le_refl _)) (HE.out.below k6 (Nat.le_refl _))).mono ?_; rintro e w7 ⟨x7, hx7, rfl, hb7⟩
    have k7 := k6.trans (hb7.mono k6.size)
    have cl := (HE.out.below k7 (Nat.le_refl _)).c_elimit
    clear hb7 k6
  · obtain ⟨ad, rfl⟩ := isCode_err hx7 (by decide)
    go_wp2_with fail
    go_quiet (fail)
    go_wp2
    go_ret2
    exact ⟨_, .elimit, rfl, below_drewN k7 _⟩
  · obtain rfl := isCode_zero hx7 rfl
    go_wp2_with fail
    go_ret2
    exact ⟨_, .ok, rfl, k7⟩

set_option maxHeartbeats 400000 in
theorem DevelopTime_any (z : Ers) (th dg : Int) (hb : -128 ≤ b) (hb' : b ≤ 127) (ht : -128 ≤ t) (ht' : t ≤ 127) (w : World) (hT : TimEnv w) (hE : ErrEnv z w) :
    Calls Tryd.prog 23 #[devV p k b t, batV v u a, .int .i64 th, .int .i64 dg] w fun e w' => e = .returned (.tuple #[.int .i64 (dtR p k b t v u a th dg), .int .i64 (dtC p k b t v u a th dg)]) ∧ Below w.heap.size w w' := by
  have hB0 := below_2 w (.cells #[.int .i64 p, .int .i64 k, .int .i8 b, .int .i8 t] 29) (.cells #[.int .i64 v, .int .i64 u, .int .i64 a] 26)
  have hst := developTime_any (p := p) (k := k) (b := b) (t := t) (v := v) (u := u) (a := a) z th dg hb hb' ht ht' _ (hT.below hB0 (Nat.le_refl _)) (hE.below hB0 (Nat.le_refl _))
  generalize dtR p k b t v u a th dg = R at *
  generalize dtC p k b t v u a th dg = C at *
  have Hst := Lib.hid hst; clear hst
  go_enter Tryd.func23, Tryd.ntmps23
  go_wp2_with fail
  refine Hst.out.mono ?_; rintro e w1 ⟨x, hx, rfl, hb1⟩
  have k1 := hB0.trans (hb1.mono hB0.size)
  go_wp2_with fail
  refine (codedInt_any hx _ _ (hE.below k1 (Nat.le_refl _))).mono ?_; rintro e w2 ⟨rfl, rfl⟩
  go_wp2_with fail
  go_ret2
  exact ⟨rfl, k1⟩

end
end Go.Proofs.YtkeeecaicoaljaaDoor

/-
  Division that rounds down: what both sides return for numbers from -1000 to 1000. No condition of ours.
-/
import Derived.Test.YtmphmpddlgcofaaDoorBase
namespace Go.Proofs.YtmphmpddlgcofaaDoor
open Go.RowKit

theorem flr_neg {x y : Int} (hx : x < 0) (hy : 1 ≤ y) : (x.tmod y < 0 ∧ x.tdiv y - 1 = x / y) ∨ (x.tmod y = 0 ∧ x.tdiv y = x / y) := by
  have h1 := Int.tdiv_eq_ediv (a := x) (b := y)
  have h2 := Int.tmod_eq_emod (a := x) (b := y)
  have hs : Int.sign y = 1 := Int.sign_eq_one_of_pos (by omega)
  have hm := Int.emod_nonneg x (by omega : y ≠ 0)
  have hlt := Int.emod_lt_of_pos x (by omega : 0 < y)
  by_cases hd : y ∣ x
  · right
    rw [if_pos (Or.inr hd)] at h1 h2
    have := Int.emod_eq_zero_of_dvd hd
    omega
  · left
    have hn : ¬ (0 ≤ x ∨ y ∣ x) := by rintro (h | h); omega; exact hd h
    rw [if_neg hn] at h1 h2
    rw [hs] at h1
    have hna : (y.natAbs : Int) = y := Int.natAbs_of_nonneg (by omega)
    omega
theorem flr_bd {x y : Int} (hx : -1000 ≤ x) (hx' : x ≤ 1000) (hy : 1 ≤ y) : -1000 ≤ x / y ∧ x / y ≤ 1000 := by
  have h0 := Int.mul_ediv_add_emod x y
  have hm := Int.emod_nonneg x (by omega : y ≠ 0)
  have hlt := Int.emod_lt_of_pos x (by omega : 0 < y)
  constructor
  · have := Int.ediv_le_ediv (a := -1000) (b := x) (by omega : 0 < y) hx
    have h3 : -1000 ≤ (-1000 : Int) / y := by
      have := Int.le_ediv_iff_mul_le (a := -1000) (b := -1000) (c := y) (by omega)
      exact this.2 (by omega)
    omega
  · have := Int.ediv_le_ediv (a := x) (b := 1000) (by omega : 0 < y) hx'
    have h3 : (1000 : Int) / y ≤ 1000 := Int.ediv_le_self _ (by omega)
    omega

set_option maxHeartbeats 1000000 in
theorem l04Down_any (x y : Int) (hx : -1000 ≤ x) (hx' : x ≤ 1000) (hy : 1 ≤ y) (w : World) :
    Calls Tryd.prog 119 #[.int .i64 x, .int .i64 y] w fun e w' => e = .returned (.int .i64 (x / y)) ∧ w = w' := by
  have hb := flr_bd hx hx' hy
  have hy0 : ¬ y = 0 := by omega
  by_cases h0 : 0 ≤ x
  · have hm := Int.emod_nonneg x (by omega : y ≠ 0)
    go_enter Tryd.func119, Tryd.ntmps119
    go_wp2
    all_goals
      go_ret
      exact ⟨rfl, rfl⟩
  · rcases flr_neg (x := x) (y := y) (by omega) hy with ⟨h1, h2⟩ | ⟨h1, h2⟩
    · have h3 : -1000 ≤ x.tdiv y ∧ x.tdiv y ≤ 1001 := by omega
      generalize hQ : x.tdiv y = Q at *
      generalize hR : x.tmod y = R at *
      have e1 : IntKind.i64.wrap Q = Q := IntWalk.i64_in _ (by omega)
      have e2 : IntKind.i64.wrap R = R := by
        refine IntWalk.i64_in _ ?_
        have h7 := Int.natAbs_tmod x y
        have h8 := Nat.mod_le x.natAbs y.natAbs
        rw [hR] at h7
        omega
      have H2 := Lib.hid h2; clear h2 hb
      go_enter Tryd.func119, Tryd.ntmps119
      go_wp2
      go_ret
      exact ⟨ret_int H2.out, rfl⟩
    · have h3 : -1000 ≤ x.tdiv y ∧ x.tdiv y ≤ 1001 := by omega
      generalize hQ : x.tdiv y = Q at *
      generalize hR : x.tmod y = R at *
      subst h1
      have e1 : IntKind.i64.wrap Q = Q := IntWalk.i64_in _ (by omega)
      have H2 := Lib.hid h2; clear h2 hb
      go_enter Tryd.func119, Tryd.ntmps119
      go_wp2
      go_ret
      exact ⟨ret_int H2.out, rfl⟩

set_option maxHeartbeats 1000000 in
theorem floored_any (x y : Int) (hx : -1000 ≤ x) (hx' : x ≤ 1000) (hy : 1 ≤ y) (w : World) :
    Calls Tryd.prog 147 #[.int .i64 x, .int .i64 y] w fun e w' => e = .returned (.int .i64 (x / y)) ∧ w = w' := by
  have hb := flr_bd hx hx' hy
  have hy0 : ¬ y = 0 := by omega
  by_cases h0 : 0 ≤ x
  · have hm := Int.emod_nonneg x (by omega : y ≠ 0)
    go_enter Tryd.func147, Tryd.ntmps147
    go_wp2
    all_goals
      go_ret
      exact ⟨rfl, rfl⟩
  · rcases flr_neg (x := x) (y := y) (by omega) hy with ⟨h1, h2⟩ | ⟨h1, h2⟩
    · have h3 : -1000 ≤ x.tdiv y ∧ x.tdiv y ≤ 1001 := by omega
      generalize hQ : x.tdiv y = Q at *
      generalize hR : x.tmod y = R at *
      have e1 : IntKind.i64.wrap Q = Q := IntWalk.i64_in _ (by omega)
      have e2 : IntKind.i64.wrap R = R := by
        refine IntWalk.i64_in _ ?_
        have h7 := Int.natAbs_tmod x y
        have h8 := Nat.mod_le x.natAbs y.natAbs
        rw [hR] at h7
        omega
      have H2 := Lib.hid h2; clear h2 hb
      go_enter Tryd.func147, Tryd.ntmps147
      go_wp2
      go_ret
      exact ⟨ret_int H2.out, rfl⟩
    · have h3 : -1000 ≤ x.tdiv y ∧ x.tdiv y ≤ 1001 := by omega
      generalize hQ : x.tdiv y = Q at *
      generalize hR : x.tmod y = R at *
      subst h1
      have e1 : IntKind.i64.wrap Q = Q := IntWalk.i64_in _ (by omega)
      have H2 := Lib.hid h2; clear h2 hb
      go_enter Tryd.func147, Tryd.ntmps147
      go_wp2
      go_ret
      exact ⟨ret_int H2.out, rfl⟩

end Go.Proofs.YtmphmpddlgcofaaDoor

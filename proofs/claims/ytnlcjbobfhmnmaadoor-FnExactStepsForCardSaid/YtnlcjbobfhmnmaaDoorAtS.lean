/-
  The density at an exposure, by the reference. Condition: the points are a curve's.
-/
import Derived.Test.YtnlcjbobfhmnmaaDoorShapeS
import Derived.Test.YtnlcjbobfhmnmaaDoorPlainAt
namespace Go.Proofs.YtnlcjbobfhmnmaaDoor
open Go.RowKit

set_option maxRecDepth 100000 in
set_option maxHeartbeats 1000000 in
theorem l02At_any (b n cap : Nat) (xs ys : Nat → Int) (hn : n ≤ 1048576) (c : Crv n xs ys) (x : Int) (hx : -1000000 ≤ x) (hx' : x ≤ 1000000) (w : World) (hr : PtRow w b n xs ys) :
    Calls Tryd.prog 44 #[.slice (some ⟨b, 0, none⟩) n cap, .int .i64 x] w fun e w' => e = .returned (.int .i64 (dens n xs ys x)) ∧ Below w.heap.size w w' := by
  have hlt := hr.lt
  have hpos := c.pos
  have h0 := c.small c.pos
  have hl := c.small (j := n - 1) (by omega)
  have c0 := hr.cell0 hpos
  have c1 := hr.cell1 hpos
  rw [Nat.zero_mul] at c0 c1
  rw [Nat.zero_add] at c1
  have w0 : (0 : Int) < n := by omega
  have e1 : ((n : Int) - 1).toNat = n - 1 := by omega
  have e2 : (n : Int) - 1 < n := by omega
  by_cases hlo : x ≤ xs 0
  · have hv := dens_first c hlo
    have Hv := Lib.hid hv; clear hv
    go_enter Tryd.func44, Tryd.ntmps44
    go_wp2
    go_ret
    exact ⟨ret_int Hv.out.symm, Below.refl _ _⟩
  · have d0 := hr.cell0 (k := n - 1) (by omega)
    have d1 := hr.cell1 (k := n - 1) (by omega)
    by_cases hhi : xs (n - 1) ≤ x
    · have hv := dens_last (n := n) (ys := ys) hhi
      have Hv := Lib.hid hv; clear hv
      go_enter Tryd.func44, Tryd.ntmps44
      go_wp2
      go_ret
      exact ⟨ret_int Hv.out.symm, Below.refl _ _⟩
    · go_enter Tryd.func44, Tryd.ntmps44
      go_wp2
      go_loopw [6] (fun i wr => ∃ k : Nat, k + 1 < n ∧ i = .int .i64 k ∧ xs k ≤ x ∧ wr = w) (fun i _ => n - (intOf i).toNat)
      case atStart =>
        refine ⟨0, ?_, rfl, by omega, rfl⟩
        rcases Nat.lt_or_ge 1 n with h | h
        · exact h
        · exfalso
          have : n - 1 = 0 := by omega
          rw [this] at hhi
          omega
      case round =>
        obtain ⟨k, hk, rfl, hxk, rfl⟩ := hrel
        have f0 := hr.cell0 (k := k) (by omega)
        have f1 := hr.cell1 (k := k) (by omega)
        have g0 := hr.cell0 (k := k + 1) hk
        have g1 := hr.cell1 (k := k + 1) hk
        have sk := c.scale k (by omega)
        have sk1 := c.scale (k + 1) hk
        have rk := c.rise k hk
        have w3 : ((k : Int) + 1).toNat = k + 1 := by omega
        have w4 : (k : Int) + 1 < n := by omega
        by_cases hm : xs (k + 1) ≤ x
        · have hk2 : k + 1 + 1 < n := by
            rcases Nat.lt_or_ge (k + 1 + 1) n with h | h
            · exact h
            · exfalso
              have : n - 1 = k + 1 := by omega
              rw [this] at hhi
              omega
          clear d0 d1 c0 c1
          go_wp2
          go_roundw
          case rel => exact ⟨k + 1, hk2, by go_num, hm, trivial⟩
          case measure => simp [intOf]; omega
        · have hv := dens_seg c hk hxk (by omega)
          have Hv := Lib.hid hv; clear hv
          have hP := prod_bd (a := ys (k + 1) - ys k) (b := x - xs k) (by omega) (by omega) (by omega) (by omega)
          have hp0 : 0 ≤ (ys (k + 1) - ys k) * (x - xs k) := Int.mul_nonneg (by omega) (by omega)
          generalize hP' : (ys (k + 1) - ys k) * (x - xs k) = P at hP hp0
          have hQ := tdiv_bd (d := xs (k + 1) - xs k) hP.1 hP.2
          have hQi : P.tdiv (xs (k + 1) - xs k) = P / (xs (k + 1) - xs k) := Int.tdiv_eq_ediv_of_nonneg hp0
          generalize hQ' : P.tdiv (xs (k + 1) - xs k) = Q at hQ hQi
          have hr1 : interp (xs k) (ys k) (xs (k + 1)) (ys (k + 1)) x = ys k + Q := by unfold interp; rw [hP', hQi]
          have Hr1 := Lib.hid hr1; clear hr1 hQi
          have hz : ¬ (xs (k + 1) - xs k = 0) := by omega
          have i1 : IntKind.i64.wrap (x - xs k) = x - xs k := IntWalk.i64_in _ (by omega)
          have i2 : IntKind.i64.wrap P = P := IntWalk.i64_in _ (by omega)
          have i3 : IntKind.i64.wrap Q = Q := IntWalk.i64_in _ (by omega)
          have i4 : IntKind.i64.wrap (ys k + Q) = ys k + Q := IntWalk.i64_in _ (by omega)
          clear d0 d1 c0 c1
          go_wp2
          go_quiet (fail)
          go_wp2
          go_ret
          exact ⟨ret_int (Hv.out.trans Hr1.out).symm, by (repeat (first | exact Below.refl _ _ | assumption | apply Below.drew | apply below_drewL | apply below_drewP | (refine Below.alloc ?_ (by first | omega | (simp; done) | (simp; omega)) _) | (refine Below.setCell ?_ (by first | omega | (simp; done) | (simp; omega)) _)))⟩
end Go.Proofs.YtnlcjbobfhmnmaaDoor

/-
  The walk of the law FnExactSpotsOf: it returns true for every argument. No condition.
-/
import Derived.Test.YtbghpcblkfiipaaSpotI
import Derived.Test.YtbghpcblkfiipaaOwnU
namespace Go.Proofs.Ytbghpcblkfiipaa
open Go.RowKit

set_option maxRecDepth 100000 in
set_option maxHeartbeats 2000000 in
theorem walk_FnExactSpotsOf (x : Int) (h0 : 0 ≤ x) (h1 : x ≤ 18446744073709551615) (w : World) :
    Calls Try.prog 7 #[.int .u64 x] w fun e w' => e = .returned (.bool true) ∧ Below w.heap.size w w' := by
  obtain ⟨m, rfl⟩ := bvI_of h0 h1
  have hs := Lib.hid (specSpotsOf_any m)
  have hi := Lib.hid (SpotsOf_any m)
  have hl := spL_len (M := m) 64
  generalize spL m 64 = l at *
  generalize hn : l.length = n at *
  clear hn
  have k0 := Below.refl w.heap.size w
  go_enter Try.func7, Try.ntmps7
  go_wp2_with fail
  refine (hs.out _).mono ?_; rintro e w1 ⟨v1, rfl, o1, hb1⟩
  have m1 := mine_u64 o1
  have k1 := k0.trans hb1
  go_wp2_with fail
  refine (hi.out _).mono ?_; rintro e w2 ⟨v2, rfl, o2, hb2⟩
  have m2 := mine_u64 o2
  have m1 := m1.below hb2 (Nat.le_refl _)
  have k2 := k1.trans (hb2.mono k1.size)
  have z12 := hb2.size
  clear o1 o2 hb1 hb2
  have hn : n ≤ 1048576 := by omega
  have z1 := k1.size
  go_wp2_with fail
  refine (eqUint64S_mine _ _ _ _ n v2 v1 (fun j => bvI (l.getD j 0#64)) hn _ m2 m1).mono ?_; rintro e w3 ⟨rfl, hb3⟩
  have m1 := m1.below hb3 z12
  have m2 := m2.below hb3 (Nat.le_refl _)
  have k3 := k2.trans (hb3.mono k2.size)
  have z23 := hb3.size
  clear hb3 k2
  go_wp2_with fail
  refine (markUint64S_mine _ _ n v2 _ 1 (by omega) (by omega) hn _ m2).mono ?_; rintro e w4 ⟨rfl, m2, on⟩
  have m1 := m1.only on (.inl (Nat.le_refl _))
  have k4 := k3.trans ((on.below (by omega)).mono z1)
  have z34 := on.size
  clear on k3
  have hq : ¬ (1 + (n : Int)) < 0 := by omega
  go_wp2_with fail
  refine (heldUint64S_mine _ _ n v2 1 (by omega) (by omega) hn _ m2).mono ?_; rintro e z ⟨rfl, rfl⟩
  go_wp2_with fail
  refine (hi.out _).mono ?_; rintro e w5 ⟨v5, rfl, o5, hb5⟩
  have m5 := mine_u64 o5
  have m1 := m1.below hb5 (by omega)
  have m2 := m2.below hb5 (by omega)
  have k5 := k4.trans (hb5.mono k4.size)
  have z45 := hb5.size
  clear o5 hb5 k4
  go_wp2_with fail
  refine (eqUint64S_mine _ _ _ _ n v5 v1 (fun j => bvI (l.getD j 0#64)) hn _ m5 m1).mono ?_; rintro e w6 ⟨rfl, hb6⟩
  have m2 := m2.below hb6 (by omega)
  have k6 := k5.trans (hb6.mono k5.size)
  clear hb6 k5 m5 m1
  go_wp2_with fail
  refine (heldUint64S_mine _ _ n v2 1 (by omega) (by omega) hn _ m2).mono ?_; rintro e z ⟨rfl, rfl⟩
  go_wp2_with fail
  go_ret
  exact ⟨rfl, k6⟩
end Go.Proofs.Ytbghpcblkfiipaa

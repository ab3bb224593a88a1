/-
  The walk of the law FnExactNewBath: it returns true for every argument. Condition: the listed variables hold what the row lists.
-/
import Derived.Test.YtkeeecaicoaljaaDoorBathI
import Derived.Test.YtkeeecaicoaljaaDoorEnv
namespace Go.Proofs.YtkeeecaicoaljaaDoor
open Go.RowKit

set_option maxRecDepth 100000 in
set_option maxHeartbeats 2000000 in
theorem walk_FnExactNewBath (p k b t : Int) (_hp : -9223372036854775808 ≤ p) (_hp1 : p ≤ 9223372036854775807) (_hk : -9223372036854775808 ≤ k) (_hk1 : k ≤ 9223372036854775807) (hb : -128 ≤ b) (hb1 : b ≤ 127) (ht : -128 ≤ t) (ht1 : t ≤ 127) (i1 : Int) (_hi10 : -9223372036854775808 ≤ i1) (_hi11 : i1 ≤ 9223372036854775807) (w : World) (hL : laidMetH Tryd.prog Rows.fnExactNewBathRow.laid w) :
    Calls Tryd.prog 3 #[devV p k b t, .int .i64 i1] w fun e w' => e = .returned (.bool true) ∧ Below w.heap.size w w' := by
  obtain ⟨z, hE⟩ := errEnv_of_row hL (by kernel_rfl) (by kernel_rfl)
  have hsp := fun W => specNewBath_any (p := p) (k := k) (b := b) (t := t) i1 hb hb1 ht ht1 W
  have him := fun (W : World) (hE : ErrEnv z W) => NewBath_any (p := p) (k := k) (b := b) (t := t) z i1 hb hb1 ht ht1 W hE
  unfold BathCode at him
  have hz : ifC (newC p k b t i1) 0 = 0 := by unfold ifC; split <;> rfl
  rw [hz] at him
  generalize ifC (newC p k b t i1) i1 = V0 at hsp him
  generalize newC p k b t i1 = C at hsp him
  have Hsp := Lib.hid hsp; clear hsp
  have Him := Lib.hid him; clear him
  have Hd := Lib.hid (fun W => toDeveloper_any p k b t W)
  have k0 : Below w.heap.size w (w.alloc (.cells #[.int .i64 p, .int .i64 k, .int .i8 b, .int .i8 t] 24)) := (Below.refl _ _).alloc (Nat.le_refl _) _
  have D0 := DvAt.newAt w w.heap.size rfl 24 p k b t
  go_enter Tryd.func3, Tryd.ntmps3
  go_wp2_with fail
  refine (Hd.out _).mono ?_; rintro e w1 ⟨rfl, hb1⟩
  have k1 := k0.trans (hb1.mono k0.size)
  have D1 := D0.below hb1 (Nat.le_refl _)
  clear hb1 D0 k0
  go_wp2_with fail
  refine (Hsp.out _).mono ?_; rintro e w2 ⟨rfl, hb2⟩
  have k2 := k1.trans (hb2.mono k1.size)
  have D2 := D1.below hb2 (Nat.le_refl _)
  clear hb2 D1 k1
  have X2 := BtAt.newAt w2 w2.heap.size rfl 26 V0 0 0
  have k3 := k2.alloc k2.size (.cells #[.int .i64 V0, .int .i64 0, .int .i64 0] 26)
  obtain ⟨d0, d1, d2, d3⟩ := D2.alloc (.cells #[.int .i64 V0, .int .i64 0, .int .i64 0] 26)
  have hlt := cell_ltB D2.c0
  obtain ⟨e0, e1, e2, e3⟩ := D2
  go_wp2_with fail
  refine (Hd.out _).mono ?_; rintro e w4 ⟨rfl, hb4⟩
  have k4 := k3.trans (hb4.mono k3.size)
  have X4 := X2.below hb4 (Nat.le_refl _)
  clear hb4 X2 k3 d0 d1 d2 d3 e0 e1 e2 e3
  go_wp2_with fail
  refine (Him.out _ (hE.below k4 (Nat.le_refl _))).mono ?_; rintro e w5 ⟨rfl, hb5⟩
  have k5 := k4.trans (hb5.mono k4.size)
  have X5 := X4.below hb5 (Nat.le_refl _)
  clear hb5 X4 k4
  have hlt5 := X5.lt
  obtain ⟨x0, x1, x2, _, _, _⟩ := X5
  have k6 := k5.alloc k5.size (.cells #[.int .i64 V0, .int .i64 0, .int .i64 0] 26)
  go_wp2_with fail
  refine (eqBath_same _ _ _ _).mono ?_; rintro e w7 ⟨rfl, hb7⟩
  go_wp2_with fail
  go_ret
  exact ⟨rfl, k6.trans (hb7.mono k6.size)⟩
end Go.Proofs.YtkeeecaicoaljaaDoor

/-
  The walk of the law FnExactReplenish: it returns true for every argument. Condition: the listed variables hold what the row lists.
-/
import Derived.Test.YtkeeecaicoaljaaDoorBathI
import Derived.Test.YtkeeecaicoaljaaDoorPhaseB
import Derived.Test.YtkeeecaicoaljaaDoorEnv
namespace Go.Proofs.YtkeeecaicoaljaaDoor
open Go.RowKit

set_option maxRecDepth 100000 in
set_option maxHeartbeats 2000000 in
theorem walk_FnExactReplenish (p k b t : Int) (_hp : -9223372036854775808 ≤ p) (_hp1 : p ≤ 9223372036854775807) (_hk : -9223372036854775808 ≤ k) (_hk1 : k ≤ 9223372036854775807) (hb : -128 ≤ b) (hb1 : b ≤ 127) (ht : -128 ≤ t) (ht1 : t ≤ 127) (v u a : Int) (_hv0 : -9223372036854775808 ≤ v) (_hv1 : v ≤ 9223372036854775807) (_hu0 : -9223372036854775808 ≤ u) (_hu1 : u ≤ 9223372036854775807) (_ha0 : -9223372036854775808 ≤ a) (_ha1 : a ≤ 9223372036854775807) (i2 : Int) (_hi20 : -9223372036854775808 ≤ i2) (_hi21 : i2 ≤ 9223372036854775807) (w : World) (hL : laidMetH Tryd.prog Rows.fnExactReplenishRow.laid w) :
    Calls Tryd.prog 9 #[devV p k b t, batV v u a, .int .i64 i2] w fun e w' => e = .returned (.bool true) ∧ Below w.heap.size w w' := by
  obtain ⟨z, hE⟩ := errEnv_of_row hL (by kernel_rfl) (by kernel_rfl)
  have hsp := fun W => specReplenish_any (p := p) (k := k) (b := b) (t := t) (v := v) (u := u) (a := a) i2 hb hb1 ht ht1 W
  have him := fun (W : World) (hE : ErrEnv z W) => Replenish_any (p := p) (k := k) (b := b) (t := t) (v := v) (u := u) (a := a) z i2 hb hb1 ht ht1 W hE
  unfold BathCode at him
  generalize ifC (fillC p k b t v u a i2) v = V0 at hsp him
  generalize ifC (fillC p k b t v u a i2) (left u v i2) = V1 at hsp him
  generalize ifC (fillC p k b t v u a i2) (left a v i2) = V2 at hsp him
  generalize fillC p k b t v u a i2 = C at hsp him
  have Hsp := Lib.hid hsp; clear hsp
  have Him := Lib.hid him; clear him
  have Hd := Lib.hid (fun W => toDeveloper_any p k b t W)
  have Hb := Lib.hid (fun W => toBath_any v u a W)
  have k0 : Below w.heap.size w ((w.alloc (.cells #[.int .i64 p, .int .i64 k, .int .i8 b, .int .i8 t] 24)).alloc (.cells #[.int .i64 v, .int .i64 u, .int .i64 a] 33)) := by
    repeat (first | exact Below.refl _ _ | (refine Below.alloc ?_ (by first | omega | (simp; done) | (simp; omega)) _))
  have q00 : (((w.alloc (.cells #[.int .i64 p, .int .i64 k, .int .i8 b, .int .i8 t] 24)).alloc (.cells #[.int .i64 v, .int .i64 u, .int .i64 a] 33))).cell? ⟨w.heap.size, 0, none⟩ = some (.int .i64 p) := by simp
  have q01 : (((w.alloc (.cells #[.int .i64 p, .int .i64 k, .int .i8 b, .int .i8 t] 24)).alloc (.cells #[.int .i64 v, .int .i64 u, .int .i64 a] 33))).cell? ⟨w.heap.size, 1, none⟩ = some (.int .i64 k) := by simp
  have q02 : (((w.alloc (.cells #[.int .i64 p, .int .i64 k, .int .i8 b, .int .i8 t] 24)).alloc (.cells #[.int .i64 v, .int .i64 u, .int .i64 a] 33))).cell? ⟨w.heap.size, 2, none⟩ = some (.int .i8 b) := by simp
  have q03 : (((w.alloc (.cells #[.int .i64 p, .int .i64 k, .int .i8 b, .int .i8 t] 24)).alloc (.cells #[.int .i64 v, .int .i64 u, .int .i64 a] 33))).cell? ⟨w.heap.size, 3, none⟩ = some (.int .i8 t) := by simp
  have q10 : (((w.alloc (.cells #[.int .i64 p, .int .i64 k, .int .i8 b, .int .i8 t] 24)).alloc (.cells #[.int .i64 v, .int .i64 u, .int .i64 a] 33))).cell? ⟨w.heap.size + 1, 0, none⟩ = some (.int .i64 v) := by simp
  have q11 : (((w.alloc (.cells #[.int .i64 p, .int .i64 k, .int .i8 b, .int .i8 t] 24)).alloc (.cells #[.int .i64 v, .int .i64 u, .int .i64 a] 33))).cell? ⟨w.heap.size + 1, 1, none⟩ = some (.int .i64 u) := by simp
  have q12 : (((w.alloc (.cells #[.int .i64 p, .int .i64 k, .int .i8 b, .int .i8 t] 24)).alloc (.cells #[.int .i64 v, .int .i64 u, .int .i64 a] 33))).cell? ⟨w.heap.size + 1, 2, none⟩ = some (.int .i64 a) := by simp
  go_enter Tryd.func9, Tryd.ntmps9
  go_wp2_with fail
  generalize ((w.alloc (.cells #[.int .i64 p, .int .i64 k, .int .i8 b, .int .i8 t] 24)).alloc (.cells #[.int .i64 v, .int .i64 u, .int .i64 a] 33)) = W at *
  have Qq00 := Lib.hid q00
  have Qq01 := Lib.hid q01
  have Qq02 := Lib.hid q02
  have Qq03 := Lib.hid q03
  have Qq10 := Lib.hid q10
  have Qq11 := Lib.hid q11
  have Qq12 := Lib.hid q12
  refine wp_region_phases 9 (clB W V0 V1 V2) .p0 (by kernel_rfl) (by kernel_rfl) ⟨⟨_, below_drew1 _⟩, rfl⟩ ?_
  apply Exists.intro
  refine ⟨fun ph => ?_, ?_⟩
  · skip
    simp only [List.take_succ_cons, List.take_zero]
    have n0 := phB_nonempty W V0 V1 V2 ph
    have fq00 := fun (x : WIn (phB W V0 V1 V2 ph)) => inCellP q00 x
    have fq01 := fun (x : WIn (phB W V0 V1 V2 ph)) => inCellP q01 x
    have fq02 := fun (x : WIn (phB W V0 V1 V2 ph)) => inCellP q02 x
    have fq03 := fun (x : WIn (phB W V0 V1 V2 ph)) => inCellP q03 x
    have fq10 := fun (x : WIn (phB W V0 V1 V2 ph)) => inCellP q10 x
    have fq11 := fun (x : WIn (phB W V0 V1 V2 ph)) => inCellP q11 x
    have fq12 := fun (x : WIn (phB W V0 V1 V2 ph)) => inCellP q12 x
    repeat (go_big_quiet_step (first | (go_at_call 14; exact inCallP _ (Hd.out _)) | (go_at_call 18; first | exact inCallP _ (Hb.out _)) | (go_at_call 28; exact inCallP _ (Hsp.out _))))
    exact wpQuiet_nil rfl
  · skip
    simp only [List.drop_succ_cons, List.drop_zero]
    refine tail_bath (T := 26) (u := .int .i64 C) rfl (fun w' => ?rA) (fun q => rfl) (fun q w' hw' => ?rS) (fun q => rfl) (fun q w' => ?rZ) (fun j => ?_)
    case rA => first | rfl | kernel_rfl | (go_simp; done) | simp [go_sem]
    case rS =>
      obtain ⟨g0, g1, g2, h0, h1, h2⟩ := hw'
      first | (go_simp; done) | (simp [go_sem, g0, g1, g2, h0, h1, h2]; done)
    case rZ => first | rfl | (go_simp; done) | simp [go_sem]
    rintro _ ⟨y0, rfl⟩
    have Y0 := y0.ok
    generalize y0.w = W1 at *
    obtain ⟨ky0, X1⟩ := Y0
    simp [Act.put]
    have k1 := k0.trans (ky0.mono k0.size)
    have q00 := below_cellOf ky0 Qq00.out (Nat.le_refl _)
    have q01 := below_cellOf ky0 Qq01.out (Nat.le_refl _)
    have q02 := below_cellOf ky0 Qq02.out (Nat.le_refl _)
    have q03 := below_cellOf ky0 Qq03.out (Nat.le_refl _)
    have q10 := below_cellOf ky0 Qq10.out (Nat.le_refl _)
    have q11 := below_cellOf ky0 Qq11.out (Nat.le_refl _)
    have q12 := below_cellOf ky0 Qq12.out (Nat.le_refl _)
    have hE1 := hE.below k1 (Nat.le_refl _)
    have hix := fun (V : World) (hV : Below W1.heap.size W1 V) => Him.out V (hE1.below hV (Nat.le_refl _))
    have Hix := Lib.hid hix; clear hix
    clear hE hE1
    go_wp2_with fail
    refine wp_region_phases 9 (clB W1 V0 V1 V2) .p0 (by kernel_rfl) (by kernel_rfl) ⟨⟨_, below_drew1 _⟩, rfl⟩ ?_
    apply Exists.intro
    refine ⟨fun ph => ?_, ?_⟩
    · skip
      simp only [List.take_succ_cons, List.take_zero]
      have n0 := phB_nonempty W1 V0 V1 V2 ph
      have fq00 := fun (x : WIn (phB W1 V0 V1 V2 ph)) => inCellP q00 x
      have fq01 := fun (x : WIn (phB W1 V0 V1 V2 ph)) => inCellP q01 x
      have fq02 := fun (x : WIn (phB W1 V0 V1 V2 ph)) => inCellP q02 x
      have fq03 := fun (x : WIn (phB W1 V0 V1 V2 ph)) => inCellP q03 x
      have fq10 := fun (x : WIn (phB W1 V0 V1 V2 ph)) => inCellP q10 x
      have fq11 := fun (x : WIn (phB W1 V0 V1 V2 ph)) => inCellP q11 x
      have fq12 := fun (x : WIn (phB W1 V0 V1 V2 ph)) => inCellP q12 x
      have Hiy := Lib.hid (fun (x : WIn (phB W1 V0 V1 V2 ph)) => Hix.out x.w x.ok.bel)
      repeat (go_big_quiet_step (first | (go_at_call 14; exact inCallP _ (Hd.out _)) | (go_at_call 18; first | exact inCallP _ (Hb.out _)) | (go_at_call 29; exact inCallP _ (Hiy.out _))))
      exact wpQuiet_nil rfl
    · skip
      simp only [List.drop_succ_cons, List.drop_zero]
      refine tail_bath (T := 26) (u := .int .i64 C) rfl (fun w' => ?rA) (fun q => rfl) (fun q w' hw' => ?rS) (fun q => rfl) (fun q w' => ?rZ) (fun j => ?_)
      case rA => first | rfl | kernel_rfl | (go_simp; done) | simp [go_sem]
      case rS =>
        obtain ⟨g0, g1, g2, h0, h1, h2⟩ := hw'
        first | (go_simp; done) | (simp [go_sem, g0, g1, g2, h0, h1, h2]; done)
      case rZ => first | rfl | (go_simp; done) | simp [go_sem]
      rintro _ ⟨y1, rfl⟩
      have Y1 := y1.ok
      generalize y1.w = W2 at *
      obtain ⟨ky1, X2⟩ := Y1
      simp [Act.put]
      have X1 := X1.below ky1 (Nat.le_refl _)
      have k2 := k1.trans (ky1.mono k1.size)
      obtain ⟨x0, x1, x2, _, _, _⟩ := X1
      obtain ⟨y0, y1, y2, _, _, _⟩ := X2
      go_wp2_with fail
      refine (eqBath_same _ _ _ _).mono ?_; rintro e w4 ⟨rfl, hb4⟩
      go_wp2_with fail
      go_ret
      exact ⟨rfl, k2.trans (hb4.mono k2.size)⟩
end Go.Proofs.YtkeeecaicoaljaaDoor

/-
  The walk of the law FnExactMixBaths: it returns true for every argument. Condition: the listed variables hold what the row lists.
-/
import Derived.Test.YtkeeecaicoaljaaDoorMix
import Derived.Test.YtkeeecaicoaljaaDoorEnv
namespace Go.Proofs.YtkeeecaicoaljaaDoor
open Go.RowKit

set_option maxRecDepth 100000 in
set_option maxHeartbeats 2000000 in
theorem walk_FnExactMixBaths (p k b t : Int) (_hp : -9223372036854775808 ≤ p) (_hp1 : p ≤ 9223372036854775807) (_hk : -9223372036854775808 ≤ k) (_hk1 : k ≤ 9223372036854775807) (hb : -128 ≤ b) (hb1 : b ≤ 127) (ht : -128 ≤ t) (ht1 : t ≤ 127) (v u a : Int) (_hv0 : -9223372036854775808 ≤ v) (_hv1 : v ≤ 9223372036854775807) (_hu0 : -9223372036854775808 ≤ u) (_hu1 : u ≤ 9223372036854775807) (_ha0 : -9223372036854775808 ≤ a) (_ha1 : a ≤ 9223372036854775807) (v1 u1 a1 : Int) (_hv10 : -9223372036854775808 ≤ v1) (_hv11 : v1 ≤ 9223372036854775807) (_hu10 : -9223372036854775808 ≤ u1) (_hu11 : u1 ≤ 9223372036854775807) (_ha10 : -9223372036854775808 ≤ a1) (_ha11 : a1 ≤ 9223372036854775807) (w : World) (hL : laidMetH Tryd.prog Rows.fnExactMixBathsRow.laid w) :
    Calls Tryd.prog 11 #[devV p k b t, batV v u a, batV v1 u1 a1] w fun e w' => e = .returned (.bool true) ∧ Below w.heap.size w w' := by
  obtain ⟨z, hE⟩ := errEnv_of_row hL (by kernel_rfl) (by kernel_rfl)
  have hsp := fun W => specMixBaths_any (p := p) (k := k) (b := b) (t := t) (v := v) (u := u) (a := a) (v1 := v1) (u1 := u1) (a1 := a1) hb hb1 ht ht1 W
  have him := fun (W : World) (hE : ErrEnv z W) => MixBaths_any (p := p) (k := k) (b := b) (t := t) (v := v) (u := u) (a := a) (v1 := v1) (u1 := u1) (a1 := a1) z hb hb1 ht ht1 W hE
  unfold BathCode at him
  generalize ifC (mixC p k b t v u a v1 u1 a1) (v + v1) = V0 at hsp him
  generalize ifC (mixC p k b t v u a v1 u1 a1) (u + u1) = V1 at hsp him
  generalize ifC (mixC p k b t v u a v1 u1 a1) (mixA v a v1 a1) = V2 at hsp him
  generalize mixC p k b t v u a v1 u1 a1 = C at hsp him
  have Hsp := Lib.hid hsp; clear hsp
  have Him := Lib.hid him; clear him
  have Hd := Lib.hid (fun W => toDeveloper_any p k b t W)
  have Hb := Lib.hid (fun W => toBath_any v u a W)
  have Hb1 := Lib.hid (fun W => toBath_any v1 u1 a1 W)
  have k0 : Below w.heap.size w (((w.alloc (.cells #[.int .i64 p, .int .i64 k, .int .i8 b, .int .i8 t] 24)).alloc (.cells #[.int .i64 v, .int .i64 u, .int .i64 a] 33)).alloc (.cells #[.int .i64 v1, .int .i64 u1, .int .i64 a1] 33)) := by
    repeat (first | exact Below.refl _ _ | (refine Below.alloc ?_ (by first | omega | (simp; done) | (simp; omega)) _))
  have q00 : ((((w.alloc (.cells #[.int .i64 p, .int .i64 k, .int .i8 b, .int .i8 t] 24)).alloc (.cells #[.int .i64 v, .int .i64 u, .int .i64 a] 33)).alloc (.cells #[.int .i64 v1, .int .i64 u1, .int .i64 a1] 33))).cell? ⟨w.heap.size, 0, none⟩ = some (.int .i64 p) := (((DvAt.newAt w _ rfl 24 p k b t).alloc _).alloc _).c0
  have q01 : ((((w.alloc (.cells #[.int .i64 p, .int .i64 k, .int .i8 b, .int .i8 t] 24)).alloc (.cells #[.int .i64 v, .int .i64 u, .int .i64 a] 33)).alloc (.cells #[.int .i64 v1, .int .i64 u1, .int .i64 a1] 33))).cell? ⟨w.heap.size, 1, none⟩ = some (.int .i64 k) := (((DvAt.newAt w _ rfl 24 p k b t).alloc _).alloc _).c1
  have q02 : ((((w.alloc (.cells #[.int .i64 p, .int .i64 k, .int .i8 b, .int .i8 t] 24)).alloc (.cells #[.int .i64 v, .int .i64 u, .int .i64 a] 33)).alloc (.cells #[.int .i64 v1, .int .i64 u1, .int .i64 a1] 33))).cell? ⟨w.heap.size, 2, none⟩ = some (.int .i8 b) := (((DvAt.newAt w _ rfl 24 p k b t).alloc _).alloc _).c2
  have q03 : ((((w.alloc (.cells #[.int .i64 p, .int .i64 k, .int .i8 b, .int .i8 t] 24)).alloc (.cells #[.int .i64 v, .int .i64 u, .int .i64 a] 33)).alloc (.cells #[.int .i64 v1, .int .i64 u1, .int .i64 a1] 33))).cell? ⟨w.heap.size, 3, none⟩ = some (.int .i8 t) := (((DvAt.newAt w _ rfl 24 p k b t).alloc _).alloc _).c3
  have q10 : ((((w.alloc (.cells #[.int .i64 p, .int .i64 k, .int .i8 b, .int .i8 t] 24)).alloc (.cells #[.int .i64 v, .int .i64 u, .int .i64 a] 33)).alloc (.cells #[.int .i64 v1, .int .i64 u1, .int .i64 a1] 33))).cell? ⟨w.heap.size + 1, 0, none⟩ = some (.int .i64 v) := ((BtAt.newAt (w.alloc (.cells #[.int .i64 p, .int .i64 k, .int .i8 b, .int .i8 t] 24)) _ (by simp) 33 v u a).alloc _).c0
  have q11 : ((((w.alloc (.cells #[.int .i64 p, .int .i64 k, .int .i8 b, .int .i8 t] 24)).alloc (.cells #[.int .i64 v, .int .i64 u, .int .i64 a] 33)).alloc (.cells #[.int .i64 v1, .int .i64 u1, .int .i64 a1] 33))).cell? ⟨w.heap.size + 1, 1, none⟩ = some (.int .i64 u) := ((BtAt.newAt (w.alloc (.cells #[.int .i64 p, .int .i64 k, .int .i8 b, .int .i8 t] 24)) _ (by simp) 33 v u a).alloc _).c1
  have q12 : ((((w.alloc (.cells #[.int .i64 p, .int .i64 k, .int .i8 b, .int .i8 t] 24)).alloc (.cells #[.int .i64 v, .int .i64 u, .int .i64 a] 33)).alloc (.cells #[.int .i64 v1, .int .i64 u1, .int .i64 a1] 33))).cell? ⟨w.heap.size + 1, 2, none⟩ = some (.int .i64 a) := ((BtAt.newAt (w.alloc (.cells #[.int .i64 p, .int .i64 k, .int .i8 b, .int .i8 t] 24)) _ (by simp) 33 v u a).alloc _).c2
  have q20 : ((((w.alloc (.cells #[.int .i64 p, .int .i64 k, .int .i8 b, .int .i8 t] 24)).alloc (.cells #[.int .i64 v, .int .i64 u, .int .i64 a] 33)).alloc (.cells #[.int .i64 v1, .int .i64 u1, .int .i64 a1] 33))).cell? ⟨w.heap.size + 2, 0, none⟩ = some (.int .i64 v1) := (BtAt.newAt ((w.alloc (.cells #[.int .i64 p, .int .i64 k, .int .i8 b, .int .i8 t] 24)).alloc (.cells #[.int .i64 v, .int .i64 u, .int .i64 a] 33)) _ (by simp) 33 v1 u1 a1).c0
  have q21 : ((((w.alloc (.cells #[.int .i64 p, .int .i64 k, .int .i8 b, .int .i8 t] 24)).alloc (.cells #[.int .i64 v, .int .i64 u, .int .i64 a] 33)).alloc (.cells #[.int .i64 v1, .int .i64 u1, .int .i64 a1] 33))).cell? ⟨w.heap.size + 2, 1, none⟩ = some (.int .i64 u1) := (BtAt.newAt ((w.alloc (.cells #[.int .i64 p, .int .i64 k, .int .i8 b, .int .i8 t] 24)).alloc (.cells #[.int .i64 v, .int .i64 u, .int .i64 a] 33)) _ (by simp) 33 v1 u1 a1).c1
  have q22 : ((((w.alloc (.cells #[.int .i64 p, .int .i64 k, .int .i8 b, .int .i8 t] 24)).alloc (.cells #[.int .i64 v, .int .i64 u, .int .i64 a] 33)).alloc (.cells #[.int .i64 v1, .int .i64 u1, .int .i64 a1] 33))).cell? ⟨w.heap.size + 2, 2, none⟩ = some (.int .i64 a1) := (BtAt.newAt ((w.alloc (.cells #[.int .i64 p, .int .i64 k, .int .i8 b, .int .i8 t] 24)).alloc (.cells #[.int .i64 v, .int .i64 u, .int .i64 a] 33)) _ (by simp) 33 v1 u1 a1).c2
  go_enter Tryd.func11, Tryd.ntmps11
  go_wp2_with fail
  generalize (((w.alloc (.cells #[.int .i64 p, .int .i64 k, .int .i8 b, .int .i8 t] 24)).alloc (.cells #[.int .i64 v, .int .i64 u, .int .i64 a] 33)).alloc (.cells #[.int .i64 v1, .int .i64 u1, .int .i64 a1] 33)) = W at *
  have Qq00 := Lib.hid q00
  have Qq01 := Lib.hid q01
  have Qq02 := Lib.hid q02
  have Qq03 := Lib.hid q03
  have Qq10 := Lib.hid q10
  have Qq11 := Lib.hid q11
  have Qq12 := Lib.hid q12
  have Qq20 := Lib.hid q20
  have Qq21 := Lib.hid q21
  have Qq22 := Lib.hid q22
  refine wp_region_phases 10 (clB W V0 V1 V2) .p0 (by kernel_rfl) (by kernel_rfl) ⟨⟨_, below_drew1 _⟩, rfl⟩ ?_
  apply Exists.intro
  refine ⟨fun ph => ?_, ?_⟩
  · skip
    simp only [List.take_succ_cons, List.take_zero]
    have n0 := phB_nonempty W V0 V1 V2 ph
    have fq00 := fun (x : WIn (phB W V0 V1 V2 ph)) => inCellP q00 x
    have fq01 := fun (x : WIn (phB W V0 V1 V2 ph)) => inCellP q01 x
    have fq02 := fun (x : WIn (phB W V0 V1 V2 ph)) => inCellP q02 x
    have fq03 := fun (x : WIn (phB W V0 V1 V2 ph)) => inCellP q03 x
    have fq10 := fun (x : WIn (phB W V0 V1 V2 ph)) => inCellP q10 x
    have fq11 := fun (x : WIn (phB W V0 V1 V2 ph)) => inCellP q11 x
    have fq12 := fun (x : WIn (phB W V0 V1 V2 ph)) => inCellP q12 x
    have fq20 := fun (x : WIn (phB W V0 V1 V2 ph)) => inCellP q20 x
    have fq21 := fun (x : WIn (phB W V0 V1 V2 ph)) => inCellP q21 x
    have fq22 := fun (x : WIn (phB W V0 V1 V2 ph)) => inCellP q22 x
    repeat (go_big_quiet_step (first | (go_at_call 14; exact inCallP _ (Hd.out _)) | (go_at_call 18; first | with_reducible exact inCallP _ (Hb.out _) | with_reducible exact inCallP _ (Hb1.out _)) | (go_at_call 32; exact inCallP _ (Hsp.out _))))
    exact wpQuiet_nil rfl
  · skip
    simp only [List.drop_succ_cons, List.drop_zero]
    refine tail_bath (T := 26) (u := .int .i64 C) rfl (fun w' => ?rA) (fun q => rfl) (fun q w' hw' => ?rS) (fun q => rfl) (fun q w' => ?rZ) (fun j => ?_)
    case rA => first | rfl | kernel_rfl | (go_simp; done) | simp [go_sem]
    case rS =>
      obtain ⟨g0, g1, g2, h0, h1, h2⟩ := hw'
      first | (go_simp; done) | (simp [go_sem, g0, g1, g2, h0, h1, h2]; done)
    case rZ => first | rfl | (go_simp; done) | simp [go_sem]
    rintro _ ⟨y0, rfl⟩
    have Y0 := y0.ok
    generalize y0.w = W1 at *
    obtain ⟨ky0, X1⟩ := Y0
    simp [Act.put]
    have k1 := k0.trans (ky0.mono k0.size)
    have q00 := below_cellOf ky0 Qq00.out (Nat.le_refl _)
    have q01 := below_cellOf ky0 Qq01.out (Nat.le_refl _)
    have q02 := below_cellOf ky0 Qq02.out (Nat.le_refl _)
    have q03 := below_cellOf ky0 Qq03.out (Nat.le_refl _)
    have q10 := below_cellOf ky0 Qq10.out (Nat.le_refl _)
    have q11 := below_cellOf ky0 Qq11.out (Nat.le_refl _)
    have q12 := below_cellOf ky0 Qq12.out (Nat.le_refl _)
    have q20 := below_cellOf ky0 Qq20.out (Nat.le_refl _)
    have q21 := below_cellOf ky0 Qq21.out (Nat.le_refl _)
    have q22 := below_cellOf ky0 Qq22.out (Nat.le_refl _)
    have hE1 := hE.below k1 (Nat.le_refl _)
    have hix := fun (V : World) (hV : Below W1.heap.size W1 V) => Him.out V (hE1.below hV (Nat.le_refl _))
    have Hix := Lib.hid hix; clear hix
    clear hE hE1
    go_wp2_with fail
    refine wp_region_phases 10 (clB W1 V0 V1 V2) .p0 (by kernel_rfl) (by kernel_rfl) ⟨⟨_, below_drew1 _⟩, rfl⟩ ?_
    apply Exists.intro
    refine ⟨fun ph => ?_, ?_⟩
    · skip
      simp only [List.take_succ_cons, List.take_zero]
      have n0 := phB_nonempty W1 V0 V1 V2 ph
      have fq00 := fun (x : WIn (phB W1 V0 V1 V2 ph)) => inCellP q00 x
      have fq01 := fun (x : WIn (phB W1 V0 V1 V2 ph)) => inCellP q01 x
      have fq02 := fun (x : WIn (phB W1 V0 V1 V2 ph)) => inCellP q02 x
      have fq03 := fun (x : WIn (phB W1 V0 V1 V2 ph)) => inCellP q03 x
      have fq10 := fun (x : WIn (phB W1 V0 V1 V2 ph)) => inCellP q10 x
      have fq11 := fun (x : WIn (phB W1 V0 V1 V2 ph)) => inCellP q11 x
      have fq12 := fun (x : WIn (phB W1 V0 V1 V2 ph)) => inCellP q12 x
      have fq20 := fun (x : WIn (phB W1 V0 V1 V2 ph)) => inCellP q20 x
      have fq21 := fun (x : WIn (phB W1 V0 V1 V2 ph)) => inCellP q21 x
      have fq22 := fun (x : WIn (phB W1 V0 V1 V2 ph)) => inCellP q22 x
      have Hiy := Lib.hid (fun (x : WIn (phB W1 V0 V1 V2 ph)) => Hix.out x.w x.ok.bel)
      repeat (go_big_quiet_step (first | (go_at_call 14; exact inCallP _ (Hd.out _)) | (go_at_call 18; first | with_reducible exact inCallP _ (Hb.out _) | with_reducible exact inCallP _ (Hb1.out _)) | (go_at_call 33; exact inCallP _ (Hiy.out _))))
      exact wpQuiet_nil rfl
    · skip
      simp only [List.drop_succ_cons, List.drop_zero]
      refine tail_bath (T := 26) (u := .int .i64 C) rfl (fun w' => ?rA) (fun q => rfl) (fun q w' hw' => ?rS) (fun q => rfl) (fun q w' => ?rZ) (fun j => ?_)
      case rA => first | rfl | kernel_rfl | (go_simp; done) | simp [go_sem]
      case rS =>
        obtain ⟨g0, g1, g2, h0, h1, h2⟩ := hw'
        first | (go_simp; done) | (simp [go_sem, g0, g1, g2, h0, h1, h2]; done)
      case rZ => first | rfl | (go_simp; done) | simp [go_sem]
      rintro _ ⟨y1, rfl⟩
      have Y1 := y1.ok
      generalize y1.w = W2 at *
      obtain ⟨ky1, X2⟩ := Y1
      simp [Act.put]
      have X1 := X1.below ky1 (Nat.le_refl _)
      have k2 := k1.trans (ky1.mono k1.size)
      obtain ⟨x0, x1, x2, _, _, _⟩ := X1
      obtain ⟨y0, y1, y2, _, _, _⟩ := X2
      go_wp2_with fail
      refine (eqBath_same _ _ _ _).mono ?_; rintro e w4 ⟨rfl, hb4⟩
      go_wp2_with fail
      go_ret
      exact ⟨rfl, k2.trans (hb4.mono k2.size)⟩
end Go.Proofs.YtkeeecaicoaljaaDoor

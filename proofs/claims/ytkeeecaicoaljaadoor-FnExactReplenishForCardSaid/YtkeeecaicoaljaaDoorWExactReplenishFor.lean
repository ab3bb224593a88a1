/-
  The walk of the law FnExactReplenishFor: it returns true for every argument. Condition: the listed variables hold what the row lists.
-/
import Derived.Test.YtkeeecaicoaljaaDoorSearch
import Derived.Test.YtkeeecaicoaljaaDoorEnv
namespace Go.Proofs.YtkeeecaicoaljaaDoor
open Go.RowKit

set_option maxRecDepth 100000 in
set_option maxHeartbeats 2000000 in
theorem walk_FnExactReplenishFor (p k b t : Int) (_hp : -9223372036854775808 ≤ p) (_hp1 : p ≤ 9223372036854775807) (_hk : -9223372036854775808 ≤ k) (_hk1 : k ≤ 9223372036854775807) (hb : -128 ≤ b) (hb1 : b ≤ 127) (ht : -128 ≤ t) (ht1 : t ≤ 127) (v u a : Int) (_hv0 : -9223372036854775808 ≤ v) (_hv1 : v ≤ 9223372036854775807) (_hu0 : -9223372036854775808 ≤ u) (_hu1 : u ≤ 9223372036854775807) (_ha0 : -9223372036854775808 ≤ a) (_ha1 : a ≤ 9223372036854775807) (i2 : Int) (_hi20 : -9223372036854775808 ≤ i2) (_hi21 : i2 ≤ 9223372036854775807) (w : World) (hL : laidMetH Tryd.prog Rows.fnExactReplenishForRow.laid w) :
    Calls Tryd.prog 10 #[devV p k b t, batV v u a, .int .i64 i2] w fun e w' => e = .returned (.bool true) ∧ Below w.heap.size w w' := by
  obtain ⟨z, hE⟩ := errEnv_of_row hL (by kernel_rfl) (by kernel_rfl)
  have hsp := fun W => specReplenishFor_any (p := p) (k := k) (b := b) (t := t) (v := v) (u := u) (a := a) i2 hb hb1 ht ht1 W
  have him := fun (W : World) (hE : ErrEnv z W) => ReplenishFor_any (p := p) (k := k) (b := b) (t := t) (v := v) (u := u) (a := a) z i2 hb hb1 ht ht1 W hE
  generalize forR p k b t v u a i2 = R at hsp him
  generalize forC p k b t v u a i2 = C at hsp him
  have Hsp := Lib.hid hsp; clear hsp
  have Him := Lib.hid him; clear him
  have Hd := Lib.hid (fun W => toDeveloper_any p k b t W)
  have Hb := Lib.hid (fun W => toBath_any v u a W)
  have k0 : Below w.heap.size w ((w.alloc (.cells #[.int .i64 p, .int .i64 k, .int .i8 b, .int .i8 t] 24)).alloc (.cells #[.int .i64 v, .int .i64 u, .int .i64 a] 33)) := by
    repeat (first | exact Below.refl _ _ | (refine Below.alloc ?_ (by first | omega | (simp; done) | (simp; omega)) _))
  have q00 : (((w.alloc (.cells #[.int .i64 p, .int .i64 k, .int .i8 b, .int .i8 t] 24)).alloc (.cells #[.int .i64 v, .int .i64 u, .int .i64 a] 33))).cell? ⟨w.heap.size, 0, none⟩ = some (.int .i64 p) := by simp
  have q01 : (((w.alloc (.cells #[.int .i64 p, .int .i64 k, .int .i8 b, .int .i8 t] 24)).alloc (.cells #[.int .i64 v, .int .i64 u, .int .i64 a] 33))).cell? ⟨w.heap.size, 1, none⟩ = some (.int .i64 k) := by simp
  have q02 : (((w.alloc (.cells #[.int .i64 p, .int .i64 k, .int .i8 b, .int .i8 t] 24)).alloc (.cells #[.int .i64 v, .int .i64 u, .int .i64 a] 33))).cell? ⟨w.heap.size, 2, none⟩ = some (.int .i8 b) := by simp
  have q03 : (((w.alloc (.cells #[.int .i64 p, .int .i64 k, .int .i8 b, .int .i8 t] 24)).alloc (.cells #[.int .i64 v, .int .i64 u, .int .i64 a] 33))).cell? ⟨w.heap.size, 3, none⟩ = some (.int .i8 t) := by simp
  have q10 : (((w.alloc (.cells #[.int .i64 p, .int .i64 k, .int .i8 b, .int .i8 t] 24)).alloc (.cells #[.int .i64 v, .int .i64 u, .int .i64 a] 33))).cell? ⟨w.heap.size + 1, 0, none⟩ = some (.int .i64 v) := by simp
  have q11 : (((w.alloc (.cells #[.int .i64 p, .int .i64 k, .int .i8 b, .int .i8 t] 24)).alloc (.cells #[.int .i64 v, .int .i64 u, .int .i64 a] 33))).cell? ⟨w.heap.size + 1, 1, none⟩ = some (.int .i64 u) := by simp
  have q12 : (((w.alloc (.cells #[.int .i64 p, .int .i64 k, .int .i8 b, .int .i8 t] 24)).alloc (.cells #[.int .i64 v, .int .i64 u, .int .i64 a] 33))).cell? ⟨w.heap.size + 1, 2, none⟩ = some (.int .i64 a) := by simp
  go_enter Tryd.func10, Tryd.ntmps10
  go_wp2_with fail
  generalize ((w.alloc (.cells #[.int .i64 p, .int .i64 k, .int .i8 b, .int .i8 t] 24)).alloc (.cells #[.int .i64 v, .int .i64 u, .int .i64 a] 33)) = W at *
  have Qq00 := Lib.hid q00
  have Qq01 := Lib.hid q01
  have Qq02 := Lib.hid q02
  have Qq03 := Lib.hid q03
  have Qq10 := Lib.hid q10
  have Qq11 := Lib.hid q11
  have Qq12 := Lib.hid q12
  refine wp_region_quietD (Below W.heap.size W) (by kernel_rfl) (by kernel_rfl) (below_drew1 _) ?_
  have n0 := below_nonempty W
  have fq00 := inCell q00
  have fq01 := inCell q01
  have fq02 := inCell q02
  have fq03 := inCell q03
  have fq10 := inCell q10
  have fq11 := inCell q11
  have fq12 := inCell q12
  repeat (go_big_quiet_step (first | (go_at_call 14; exact inCall _ (Hd.out _)) | (go_at_call 18; first | exact inCall _ (Hb.out _)) | (go_at_call 30; exact inCall _ (Hsp.out _))))
  refine wpQuiet_nil ?_
  rintro _ ⟨y0, rfl⟩
  have k1 := k0.trans (y0.ok.mono k0.size)
  have q00 := below_cellOf y0.ok Qq00.out (Nat.le_refl _)
  have q01 := below_cellOf y0.ok Qq01.out (Nat.le_refl _)
  have q02 := below_cellOf y0.ok Qq02.out (Nat.le_refl _)
  have q03 := below_cellOf y0.ok Qq03.out (Nat.le_refl _)
  have q10 := below_cellOf y0.ok Qq10.out (Nat.le_refl _)
  have q11 := below_cellOf y0.ok Qq11.out (Nat.le_refl _)
  have q12 := below_cellOf y0.ok Qq12.out (Nat.le_refl _)
  clear fq00 fq01 fq02 fq03 fq10 fq11 fq12 n0
  generalize y0.w = W1 at *
  have hE1 := hE.below k1 (Nat.le_refl _)
  have hix := fun (x : WIn (Below W1.heap.size W1)) => Him.out x.w (hE1.below x.ok (Nat.le_refl _)) 
  have Hix := Lib.hid hix; clear hix
  clear hE hE1
  go_wp2_with fail
  refine wp_region_quietD (Below W1.heap.size W1) (by kernel_rfl) (by kernel_rfl) (below_drew1 _) ?_
  have n1 := below_nonempty W1
  have fq00 := inCell q00
  have fq01 := inCell q01
  have fq02 := inCell q02
  have fq03 := inCell q03
  have fq10 := inCell q10
  have fq11 := inCell q11
  have fq12 := inCell q12
  repeat (go_big_quiet_step (first | (go_at_call 14; exact inCall _ (Hd.out _)) | (go_at_call 18; first | exact inCall _ (Hb.out _)) | (go_at_call 31; exact inCall _ (Hix.out _))))
  refine wpQuiet_nil ?_
  rintro _ ⟨y1, rfl⟩
  go_wp2
  go_ret
  exact ⟨rfl, k1.trans (y1.ok.mono k1.size)⟩
end Go.Proofs.YtkeeecaicoaljaaDoor

/-
  The walk of the law FnExactValidDeveloper: it returns true for every argument. No condition.
-/
import Derived.Test.YtkeeecaicoaljaaBath2
namespace Go.Proofs.Ytkeeecaicoaljaa
open Go.RowKit

set_option maxRecDepth 100000 in
set_option maxHeartbeats 1000000 in
theorem walk_FnExactValidDeveloper (p k b t : Int) (_hp : -9223372036854775808 ≤ p) (_hp1 : p ≤ 9223372036854775807) (_hk : -9223372036854775808 ≤ k) (_hk1 : k ≤ 9223372036854775807) (hb : -128 ≤ b) (hb' : b ≤ 127) (ht : -128 ≤ t) (ht' : t ≤ 127) (w : World) :
    Calls Try.prog 3 #[devV p k b t] w fun e w' => e = .returned (.bool true) ∧ Below w.heap.size w w' := by
  have hsp := fun W => specValidDeveloper_any p k b t hb hb' ht ht' W
  have him := fun W => ValidDeveloper_any p k b t hb hb' ht ht' W
  generalize devOk p k b t = C at hsp him
  have Hsp := Lib.hid hsp; clear hsp
  have Him := Lib.hid him; clear him
  have Hd := Lib.hid (fun W => toDeveloper_any p k b t W)
  have k0 : Below w.heap.size w (w.alloc (.cells #[.int .i64 p, .int .i64 k, .int .i8 b, .int .i8 t] 24)) := (Below.refl _ _).alloc (Nat.le_refl _) _
  have q0 : (w.alloc (.cells #[.int .i64 p, .int .i64 k, .int .i8 b, .int .i8 t] 24)).cell? ⟨w.heap.size, 0, none⟩ = some (.int .i64 p) := by simp
  have q1 : (w.alloc (.cells #[.int .i64 p, .int .i64 k, .int .i8 b, .int .i8 t] 24)).cell? ⟨w.heap.size, 1, none⟩ = some (.int .i64 k) := by simp
  have q2 : (w.alloc (.cells #[.int .i64 p, .int .i64 k, .int .i8 b, .int .i8 t] 24)).cell? ⟨w.heap.size, 2, none⟩ = some (.int .i8 b) := by simp
  have q3 : (w.alloc (.cells #[.int .i64 p, .int .i64 k, .int .i8 b, .int .i8 t] 24)).cell? ⟨w.heap.size, 3, none⟩ = some (.int .i8 t) := by simp
  go_enter Try.func3, Try.ntmps3
  go_wp2_with fail
  refine (Hd.out _).mono ?_; rintro e w1 ⟨rfl, hb1⟩
  have k1 := k0.trans (hb1.mono k0.size)
  go_wp2_with fail
  refine (Hsp.out _).mono ?_; rintro e w2 ⟨rfl, hb2⟩
  have hb12 := hb1.trans (hb2.mono hb1.size)
  have k2 := k1.trans (hb2.mono k1.size)
  have q0 := below_cellOf hb12 q0 (Nat.le_refl _)
  have q1 := below_cellOf hb12 q1 (Nat.le_refl _)
  have q2 := below_cellOf hb12 q2 (Nat.le_refl _)
  have q3 := below_cellOf hb12 q3 (Nat.le_refl _)
  go_wp2_with fail
  refine (Hd.out _).mono ?_; rintro e w3 ⟨rfl, hb3⟩
  have k3 := k2.trans (hb3.mono k2.size)
  go_wp2_with fail
  refine (Him.out _).mono ?_; rintro e w4 ⟨rfl, hb4⟩
  go_wp2_with fail
  go_ret
  exact ⟨rfl, k3.trans (hb4.mono k3.size)⟩
end Go.Proofs.Ytkeeecaicoaljaa

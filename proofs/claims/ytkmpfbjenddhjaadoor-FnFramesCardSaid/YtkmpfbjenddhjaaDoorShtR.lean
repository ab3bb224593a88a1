/-
  The rows of a sheet, and the places of its frames: what both sides' functions return. Condition: at most 1048576 frames of int16 numbers.
-/
import Derived.Test.YtkmpfbjenddhjaaDoorSht
namespace Go.Proofs.YtkmpfbjenddhjaaDoor
open Go.RowKit

/-- What RowsOf returns. -/
def rowsT (X : Int) (n : Nat) (g : Nat → Nat → Int) : Array Value := if shtB X n g = true then #[.int .i64 (((n : Int) + X - 1).tdiv X), .int .i64 0] else #[.int .i64 0, .int .i64 1]
theorem tdiv_bd {a X : Int} (ha : 0 ≤ a) (hX : 1 ≤ X) : 0 ≤ a.tdiv X ∧ a.tdiv X ≤ a := by
  rw [Int.tdiv_eq_ediv_of_nonneg ha]
  exact ⟨Int.ediv_nonneg ha (by omega), Int.ediv_le_self _ ha⟩

set_option maxHeartbeats 1000000 in
theorem rows_any (X : Int) (A : Option Addr) (n cap : Nat) (h1 : 1 ≤ X) (h2 : X ≤ 12) (h3 : n ≤ 12) (w : World) :
    Calls Tryd.prog 39 #[.agg #[.int .i8 X, .slice A n cap]] w fun e w' => e = .returned (.int .i64 (((n : Int) + X - 1).tdiv X)) ∧ Below w.heap.size w w' := by
  have k0 := (Below.refl w.heap.size w).alloc (Nat.le_refl _) (.cells #[.int .i8 X, .slice A n cap] 29)
  have hbd := tdiv_bd (a := (n : Int) + X - 1) (X := X) (by omega) h1
  have b1 := hbd.1
  have b2 := hbd.2
  have b3 : ¬ X = 0 := by omega
  clear hbd
  go_enter Tryd.func39, Tryd.ntmps39
  go_wp2_with fail
  go_ret
  exact ⟨rfl, k0⟩

set_option maxRecDepth 100000 in
set_option maxHeartbeats 1000000 in
theorem RowsOf_any (X : Int) (A : Option Addr) (n cap : Nat) (g : Nat → Nat → Int) (hn : n ≤ 1048576) (hX : -128 ≤ X ∧ X ≤ 127) (w : World) (hr : PrsIn w A n g) :
    Calls Tryd.prog 17 #[.agg #[.int .i8 X, .slice A n cap]] w fun e w' => e = .returned (.tuple (rowsT X n g)) ∧ Below w.heap.size w w' := by
  have k0 := (Below.refl w.heap.size w).alloc (Nat.le_refl _) (.cells #[.int .i8 X, .slice A n cap] 29)
  have hq := ValidSheet_any X A n cap g hn hX _ (hr.below k0 (Nat.le_refl _))
  have d0 : (w.alloc (.cells #[.int .i8 X, .slice A n cap] 29)).cell? ⟨w.heap.size, 0, none⟩ = some (.int .i8 X) := by simp
  have d1 : (w.alloc (.cells #[.int .i8 X, .slice A n cap] 29)).cell? ⟨w.heap.size, 1, none⟩ = some (.slice A n cap) := by simp
  clear hr
  unfold rowsT
  rcases hv : shtB X n g with _ | _
  · rw [hv] at hq
    rw [if_neg (by decide)]
    have Hq := Lib.hid hq; clear hq hv
    go_enter Tryd.func17, Tryd.ntmps17
    go_wp2_with fail
    refine Hq.out.mono ?_; rintro e w2 ⟨rfl, hb2⟩
    have k2 := k0.trans (hb2.mono k0.size)
    clear d0 d1
    go_wp2_with fail
    go_ret2
    exact ⟨rfl, k2⟩
  · have hv' := shtB_iff.1 hv
    have hrw := fun W => rows_any X A n cap hv'.1.1 hv'.1.2 hv'.2.1 W
    clear hv'
    generalize ((n : Int) + X - 1).tdiv X = R at *
    rw [hv] at hq
    rw [if_pos rfl]
    have Hq := Lib.hid hq; clear hq hv
    have Hrw := Lib.hid hrw; clear hrw
    go_enter Tryd.func17, Tryd.ntmps17
    go_wp2_with fail
    refine Hq.out.mono ?_; rintro e w2 ⟨rfl, hb2⟩
    have k2 := k0.trans (hb2.mono k0.size)
    have e0 := below_cellOf hb2 d0 (Nat.le_refl _)
    have e1 := below_cellOf hb2 d1 (Nat.le_refl _)
    clear d0 d1 hb2
    go_wp2_with fail
    refine (Hrw.out _).mono ?_; rintro e w3 ⟨rfl, hb3⟩
    have k3 := k2.trans (hb3.mono k2.size)
    go_wp2_with fail
    go_ret2
    exact ⟨rfl, k3⟩
end Go.Proofs.YtkmpfbjenddhjaaDoor

/-
  Developers and baths: what the reference and the program say of whether they are valid; the laws' copying and comparing. No condition.
-/
import Derived.Test.YtkgjkjecfpmlnaaDoorBase
import Derived.Test.YtkgjkjecfpmlnaaDoorPlainBath
namespace Go.Proofs.YtkgjkjecfpmlnaaDoor
open Go.RowKit

/-- As values: a developer, a bath, both together. -/
abbrev devV (p k b t : Int) : Value := .agg #[.int .i64 p, .int .i64 k, .int .i8 b, .int .i8 t]
abbrev batV (v u a : Int) : Value := .agg #[.int .i64 v, .int .i64 u, .int .i64 a]
abbrev trayV (p k b t v u a : Int) : Value := .agg #[.int .i64 p, .int .i64 k, .int .i8 b, .int .i8 t, .int .i64 v, .int .i64 u, .int .i64 a]

/-- Are they valid? -/
def devOk (p k b t : Int) : Bool := inB p 100 100000 && (inB k 1 100000 && (inB b 10 40 && inB t 1 10))
def onScale (v u a : Int) : Bool := inB v 1 20000 && (inB u 0 100000000 && inB a 0 100000)
def bathOk (p k b t v u a : Int) : Bool := devOk p k b t && (onScale v u a && decide (1000 * u ≤ v * p))
theorem devOk_true {p k b t : Int} : devOk p k b t = true ↔ DOk p k b t := by
  simp only [devOk, Bool.and_eq_true, inB_true]
  exact ⟨fun ⟨⟨a, b⟩, ⟨c, d⟩, ⟨e, f⟩, g, h⟩ => ⟨a, b, c, d, e, f, g, h⟩, fun h => ⟨⟨h.p0, h.p1⟩, ⟨h.k0, h.k1⟩, ⟨h.b0, h.b1⟩, h.t0, h.t1⟩⟩
theorem bathOk_true {p k b t v u a : Int} : bathOk p k b t v u a = true ↔ BOk p k b t v u a := by
  simp only [bathOk, onScale, Bool.and_eq_true, inB_true, devOk_true, decide_eq_true_eq]
  exact ⟨fun ⟨h, ⟨⟨a, b⟩, ⟨c, d⟩, e, f⟩, g⟩ => { h with v0 := a, v1 := b, u0 := c, u1 := d, a0 := e, a1 := f, room := g }, fun h => ⟨h.toDOk, ⟨⟨h.v0, h.v1⟩, ⟨h.u0, h.u1⟩, h.a0, h.a1⟩, h.room⟩⟩

theorem below_drewB {B : Nat} {a w : World} (h : Below B a w) (n : Nat) : Below B a (w.drewN n) := ⟨h.os, h.tape, h.output, h.size, h.block⟩

section
variable {p k b t v u a : Int}

set_option maxHeartbeats 1000000 in
theorem l04Developer_any (p k b t : Int) (hb : -128 ≤ b) (hb' : b ≤ 127) (ht : -128 ≤ t) (ht' : t ≤ 127) (w : World) :
    Calls Tryd.prog 50 #[devV p k b t] w fun e w' => e = .returned (.bool (devOk p k b t)) ∧ Below w.heap.size w w' := by
  unfold devOk
  rcases h1 : inB p 100 100000 with _ | _
  · go_enter Tryd.func50, Tryd.ntmps50
    go_wp2_with (go_at_call 28; refine (l00In_any _ _ _ _).mono ?_; rintro e w' ⟨rfl, rfl⟩)
    go_ret
    exact ⟨by simp [*], (Below.refl _ _).alloc (Nat.le_refl _) _⟩
  · rcases h2 : inB k 1 100000 with _ | _
    · go_enter Tryd.func50, Tryd.ntmps50
      go_wp2_with (go_at_call 28; refine (l00In_any _ _ _ _).mono ?_; rintro e w' ⟨rfl, rfl⟩)
      go_ret
      exact ⟨by simp [*], (Below.refl _ _).alloc (Nat.le_refl _) _⟩
    · rcases h3 : inB b 10 40 with _ | _
      all_goals
        go_enter Tryd.func50, Tryd.ntmps50
        go_wp2_with (go_at_call 28; refine (l00In_any _ _ _ _).mono ?_; rintro e w' ⟨rfl, rfl⟩)
        go_ret
        exact ⟨by simp [*], (Below.refl _ _).alloc (Nat.le_refl _) _⟩

set_option maxHeartbeats 1000000 in
theorem ValidDeveloper_any (p k b t : Int) (hb : -128 ≤ b) (hb' : b ≤ 127) (ht : -128 ≤ t) (ht' : t ≤ 127) (w : World) :
    Calls Tryd.prog 73 #[devV p k b t] w fun e w' => e = .returned (.bool (devOk p k b t)) ∧ Below w.heap.size w w' := by
  unfold devOk
  rcases h1 : inB p 100 100000 with _ | _
  · go_enter Tryd.func73, Tryd.ntmps73
    go_wp2_with (go_at_call 46; refine (inRange_any _ _ _ _).mono ?_; rintro e w' ⟨rfl, rfl⟩)
    go_ret
    exact ⟨by simp [*], (Below.refl _ _).alloc (Nat.le_refl _) _⟩
  · rcases h2 : inB k 1 100000 with _ | _
    · go_enter Tryd.func73, Tryd.ntmps73
      go_wp2_with (go_at_call 46; refine (inRange_any _ _ _ _).mono ?_; rintro e w' ⟨rfl, rfl⟩)
      go_ret
      exact ⟨by simp [*], (Below.refl _ _).alloc (Nat.le_refl _) _⟩
    · rcases h3 : inB b 10 40 with _ | _
      all_goals
        go_enter Tryd.func73, Tryd.ntmps73
        go_wp2_with (go_at_call 46; refine (inRange_any _ _ _ _).mono ?_; rintro e w' ⟨rfl, rfl⟩)
        go_ret
        exact ⟨by simp [*], (Below.refl _ _).alloc (Nat.le_refl _) _⟩

/-! ### BATHS -/
set_option maxHeartbeats 1000000 in
theorem isOnScale_any (v u a : Int) (w : World) :
    Calls Tryd.prog 74 #[batV v u a] w fun e w' => e = .returned (.bool (onScale v u a)) ∧ Below w.heap.size w w' := by
  unfold onScale
  rcases h1 : inB v 1 20000 with _ | _
  · go_enter Tryd.func74, Tryd.ntmps74
    go_wp2_with (go_at_call 46; refine (inRange_any _ _ _ _).mono ?_; rintro e w' ⟨rfl, rfl⟩)
    go_ret
    exact ⟨by simp [*], (Below.refl _ _).alloc (Nat.le_refl _) _⟩
  · rcases h2 : inB u 0 100000000 with _ | _
    all_goals
      go_enter Tryd.func74, Tryd.ntmps74
      go_wp2_with (go_at_call 46; refine (inRange_any _ _ _ _).mono ?_; rintro e w' ⟨rfl, rfl⟩)
      go_ret
      exact ⟨by simp [*], (Below.refl _ _).alloc (Nat.le_refl _) _⟩

set_option maxHeartbeats 1000000 in
theorem capacityOf_any (p k b t v u a : Int) (hc : 0 ≤ v * p) (hc' : v * p ≤ 2000000000) (w : World) :
    Calls Tryd.prog 67 #[devV p k b t, batV v u a] w fun e w' => e = .returned (.int .i64 (v * p)) ∧ Below w.heap.size w w' := by
  go_enter Tryd.func67, Tryd.ntmps67
  go_wp2
  go_ret
  exact ⟨rfl, by repeat (first | exact Below.refl _ _ | assumption | apply Below.drew | apply below_drewB | (refine Below.alloc ?_ (by first | omega | (simp; done) | (simp; omega)) _) | (refine Below.setCell ?_ (by first | omega | (simp; done) | (simp; omega)) _))⟩

end
end Go.Proofs.YtkgjkjecfpmlnaaDoor

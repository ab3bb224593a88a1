/-
  Deeds in a tray: what the program's functions return, by a type switch over an interface. Condition: its errors, and its table of times.
-/
import Derived.Test.YtkgjkjecfpmlnaaDoorDeedsS2
namespace Go.Proofs.YtkgjkjecfpmlnaaDoor
open Go.RowKit

/-- The codes of deeds in a valid tray. -/
def restA (p k b t v u a h : Int) : Int := if inB h 0 100000 = true then (if bathOk p k b t v u (a + h) = true then 0 else 4) else 2
def sheetA (p k b t v u a s : Int) : Int := if inB s 1 5000 = true then (if sheetB p k b t v u a s = true then 0 else 4) else 2
def fillA (v m : Int) : Int := if inB m 0 v = true then 0 else 2
theorem restC_eq {p k b t v u a h : Int} : restC p k b t v u a h = if bathOk p k b t v u a = true then restA p k b t v u a h else 1 := rfl
theorem sheetC_eq {p k b t v u a s : Int} : sheetC p k b t v u a s = if bathOk p k b t v u a = true then sheetA p k b t v u a s else 1 := rfl
theorem fillC_eq {p k b t v u a m : Int} : fillC p k b t v u a m = if bathOk p k b t v u a = true then fillA v m else 1 := rfl

/-- Deeds as values. -/
abbrev shtV (n : Int) : Value := .iface 74 (.agg #[.int .i64 n])
abbrev rstV (n : Int) : Value := .iface 102 (.agg #[.int .i64 n])
abbrev filV (n : Int) : Value := .iface 61 (.agg #[.int .i64 n])
theorem inv_sht (x y : Value) (w : World) : (invoke (.fn (.method "loop.example/g01301/impl.fitsIn") #[]) #[.iface 74 x, y]).run Tryd.prog w = .ok (.enter 68 #[x, y]) w := by kernel_rfl
theorem inv_rst (x y : Value) (w : World) : (invoke (.fn (.method "loop.example/g01301/impl.fitsIn") #[]) #[.iface 102 x, y]).run Tryd.prog w = .ok (.enter 92 #[x, y]) w := by kernel_rfl
theorem inv_fil (x y : Value) (w : World) : (invoke (.fn (.method "loop.example/g01301/impl.fitsIn") #[]) #[.iface 61 x, y]).run Tryd.prog w = .ok (.enter 91 #[x, y]) w := by kernel_rfl
theorem zSht : (Tryd.prog.info? 74).map (·.zero) = some (some (.agg #[.int .i64 0])) := by kernel_rfl
theorem zRst : (Tryd.prog.info? 102).map (·.zero) = some (some (.agg #[.int .i64 0])) := by kernel_rfl
theorem ta_ss (v : Value) (x : TypeId) (w : World) : (Instr.typeAssert (.iface 74 v) x 74 true).run Tryd.prog w = .ok (.tuple #[v, .bool true]) w := by
  simp [Instr.typeAssert, run_underlying Tryd.underlying74]
theorem ta_rr (v : Value) (x : TypeId) (w : World) : (Instr.typeAssert (.iface 102 v) x 102 true).run Tryd.prog w = .ok (.tuple #[v, .bool true]) w := by
  simp [Instr.typeAssert, run_underlying Tryd.underlying102]
theorem ta_ff (v : Value) (x : TypeId) (w : World) : (Instr.typeAssert (.iface 61 v) x 61 true).run Tryd.prog w = .ok (.tuple #[v, .bool true]) w := by
  simp [Instr.typeAssert, run_underlying Tryd.underlying61]
theorem ta_rs (v : Value) (x : TypeId) (w : World) : (Instr.typeAssert (.iface 102 v) x 74 true).run Tryd.prog w = .ok (.tuple #[.agg #[.int .i64 0], .bool false]) w := by
  obtain ⟨j, hj, hz⟩ := Option.map_eq_some_iff.1 zSht
  simp [Instr.typeAssert, run_underlying Tryd.underlying74, zeroValue, typeInfo, hj, hz]
theorem ta_fs (v : Value) (x : TypeId) (w : World) : (Instr.typeAssert (.iface 61 v) x 74 true).run Tryd.prog w = .ok (.tuple #[.agg #[.int .i64 0], .bool false]) w := by
  obtain ⟨j, hj, hz⟩ := Option.map_eq_some_iff.1 zSht
  simp [Instr.typeAssert, run_underlying Tryd.underlying74, zeroValue, typeInfo, hj, hz]
theorem ta_fr (v : Value) (x : TypeId) (w : World) : (Instr.typeAssert (.iface 61 v) x 102 true).run Tryd.prog w = .ok (.tuple #[.agg #[.int .i64 0], .bool false]) w := by
  obtain ⟨j, hj, hz⟩ := Option.map_eq_some_iff.1 zRst
  simp [Instr.typeAssert, run_underlying Tryd.underlying102, zeroValue, typeInfo, hj, hz]

section
variable {p k b t v u a : Int}

set_option maxHeartbeats 1000000 in
theorem shtFits_any (n : Int) (w : World) :
    Calls Tryd.prog 68 #[.agg #[.int .i64 n], trayV p k b t v u a] w fun e w' => e = .returned (.bool (inB n 1 5000)) ∧ Below w.heap.size w w' := by
  go_enter Tryd.func68, Tryd.ntmps68
  go_wp2_with fail
  refine (inRange_any _ _ _ _).mono ?_; rintro e w2 ⟨rfl, rfl⟩
  go_wp2_with fail
  go_ret
  exact ⟨rfl, below_2 _ _ _⟩

set_option maxHeartbeats 1000000 in
theorem rstFits_any (n : Int) (w : World) :
    Calls Tryd.prog 92 #[.agg #[.int .i64 n], trayV p k b t v u a] w fun e w' => e = .returned (.bool (inB n 0 100000)) ∧ Below w.heap.size w w' := by
  go_enter Tryd.func92, Tryd.ntmps92
  go_wp2_with fail
  refine (inRange_any _ _ _ _).mono ?_; rintro e w2 ⟨rfl, rfl⟩
  go_wp2_with fail
  go_ret
  exact ⟨rfl, by first | exact below_2 _ _ _ | exact (Below.refl _ _).alloc (Nat.le_refl _) _⟩

set_option maxHeartbeats 1000000 in
theorem filFits_any (n : Int) (w : World) :
    Calls Tryd.prog 91 #[.agg #[.int .i64 n], trayV p k b t v u a] w fun e w' => e = .returned (.bool (inB n 0 v)) ∧ Below w.heap.size w w' := by
  go_enter Tryd.func91, Tryd.ntmps91
  go_wp2_with fail
  refine (inRange_any _ _ _ _).mono ?_; rintro e w2 ⟨rfl, rfl⟩
  go_wp2_with fail
  go_ret
  exact ⟨rfl, below_2 _ _ _⟩

set_option maxRecDepth 100000 in
set_option maxHeartbeats 1000000 in
theorem isSlowerThan_any (z : Ers) (th : Int) (h0 : 0 ≤ th) (h1 : th ≤ 36) (h : BOk p k b t v u a) (w : World) (hT : TimEnv w) (hE : ErrEnv z w) :
    Calls Tryd.prog 56 #[trayV p k b t v u a, .int .i64 th] w fun e w' => e = .returned (.bool (decide (th < slw (strn p k v u a)))) ∧ Below w.heap.size w w' := by
  have hst := fun W => strength_any h W
  have hsb := h.strn_bd
  have k0 : Below w.heap.size w (w.alloc (.cells #[.int .i64 p, .int .i64 k, .int .i8 b, .int .i8 t, .int .i64 v, .int .i64 u, .int .i64 a] 82)) := (Below.refl _ _).alloc (Nat.le_refl _) _
  have hsl := fun W hT hE => slowerBy_any z (strn p k v u a) W hT hE
  have hb37 := slw_bd (strn p k v u a)
  have ne := errNeB
  have nn := nilNeB
  unfold slwR slwC at hsl
  rw [inB_true.2 hsb] at hsl
  simp only [if_true] at hsl
  clear h hsb
  generalize strn p k v u a = S at *
  by_cases h37 : slw S = 37
  · rw [if_pos h37, if_pos h37] at hsl
    rw [h37]
    have Hst := Lib.hid hst; clear hst
    have Hsl := Lib.hid hsl; clear hsl
    clear nn h37 hb37
    go_enter Tryd.func56, Tryd.ntmps56
    go_wp2_with fail
    refine (Hst.out _).mono ?_; rintro e w1 ⟨rfl, hb1⟩
    have k1 := k0.trans (hb1.mono k0.size)
    go_wp2_with fail
    refine (Hsl.out _ (hT.below k1 (Nat.le_refl _)) (hE.below k1 (Nat.le_refl _))).mono ?_; rintro e w2 ⟨x, hx, rfl, hb2⟩
    obtain ⟨ad, rfl⟩ := isCode_err hx (by decide)
    go_wp2_with fail
    go_ret
    exact ⟨ret_bool (by simp; omega), k1.trans (hb2.mono k1.size)⟩
  · rw [if_neg h37, if_neg h37] at hsl
    have Hst := Lib.hid hst; clear hst
    have Hsl := Lib.hid hsl; clear hsl
    generalize slw S = K at *
    clear ne
    go_enter Tryd.func56, Tryd.ntmps56
    go_wp2_with fail
    refine (Hst.out _).mono ?_; rintro e w1 ⟨rfl, hb1⟩
    have k1 := k0.trans (hb1.mono k0.size)
    go_wp2_with fail
    refine (Hsl.out _ (hT.below k1 (Nat.le_refl _)) (hE.below k1 (Nat.le_refl _))).mono ?_; rintro e w2 ⟨x, hx, rfl, hb2⟩
    obtain rfl := isCode_zero hx rfl
    go_wp2_with fail
    go_ret
    exact ⟨rfl, k1.trans (hb2.mono k1.size)⟩

set_option maxRecDepth 100000 in
set_option maxHeartbeats 2000000 in
theorem replenished_any (m : Int) (h : BOk p k b t v u a) (hm : 0 ≤ m) (hm' : m ≤ v) (w : World) :
    Calls Tryd.prog 62 #[trayV p k b t v u a, .int .i64 m] w fun e w' => e = .returned (trayV p k b t v (left u v m) (left a v m)) ∧ Below w.heap.size w w' := by
  have hv0 := h.v0
  have hv1 := h.v1
  have hu0 := h.u0
  have hu1 := h.u1
  have ha0 := h.a0
  have ha1 := h.a1
  obtain ⟨mu0, mu1⟩ := left_mid (x := u) (v := v) (m := m) hu0 (by omega) hv0 hv1 hm hm'
  obtain ⟨ma0, ma1⟩ := left_mid (x := a) (v := v) (m := m) ha0 (by omega) hv0 hv1 hm hm'
  clear h
  unfold left
  generalize hU : u * (v - m) = U at *
  generalize hA : a * (v - m) = A at *
  go_enter Tryd.func62, Tryd.ntmps62
  go_wp2_with fail
  obtain ⟨c0, c1, c2, c3, c4, c5, c6, _⟩ := (TrAt.newAt (w.alloc (.cells #[.int .i64 p, .int .i64 k, .int .i8 b, .int .i8 t, .int .i64 v, .int .i64 u, .int .i64 a] 82)) (w.heap.size + 1) (by simp) 82 p k b t v (U / v) (A / v)).alloc (.cells #[.int .i64 p, .int .i64 k, .int .i8 b, .int .i8 t, .int .i64 v, .int .i64 (U / v), .int .i64 (A / v)] 82)
  refine bodyPost_ret (v := trayV p k b t v (U / v) (A / v)) (by simp [results, Tryd.results62, go_sem, c0, c1, c2, c3, c4, c5, c6]) rfl ⟨rfl, ?_⟩
  repeat (first | exact Below.refl _ _ | assumption | apply Below.drew | apply below_drewB | (refine Below.alloc ?_ (by first | omega | (simp; done) | (simp; omega)) _) | (refine Below.setCell ?_ (by first | omega | (simp; done) | (simp; omega)) _))

end
end Go.Proofs.YtkgjkjecfpmlnaaDoor

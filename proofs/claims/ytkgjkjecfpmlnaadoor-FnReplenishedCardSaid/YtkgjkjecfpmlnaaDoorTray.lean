/-
  A tray of a developer and a bath; the strength of a bath, and times in it: what the reference and the program return. Condition of the program's: its table of times, and its errors.
-/
import Derived.Test.YtkgjkjecfpmlnaaDoorStrong
import Derived.StillTailTactics
import Derived.Deep.RegionWith
namespace Go.Proofs.YtkgjkjecfpmlnaaDoor
open Go.RowKit

theorem errNeB (x : Addr) (w : World) : (binOp .neq 50 (errV x) .nilIface).run Tryd.prog w = .ok (.bool true) w := by kernel_rfl
theorem nilNeB (w : World) : (binOp .neq 50 .nilIface .nilIface).run Tryd.prog w = .ok (.bool false) w := by kernel_rfl
theorem isCode_zero {z : Ers} {v : Value} {c : Int} (h : IsCode z v c) (e : c = 0) : v = .nilIface := by
  cases h <;> first | rfl | omega
theorem isCode_err {z : Ers} {v : Value} {c : Int} (h : IsCode z v c) (e : c ≠ 0) : ∃ x, v = errV x := by
  cases h <;> first | exact ⟨_, rfl⟩ | omega
theorem ErrEnv.drewB {s : Ers} {w : World} (h : ErrEnv s w) : ErrEnv s w.drew := h.below (B := w.heap.size) ((Below.refl _ _).drew) (Nat.le_refl _)

set_option maxHeartbeats 1000000 in
theorem codedBath_any {s : Ers} {x : Value} {c : Int} (h : IsCode s x c) (v u a : Int) (w : World) (hE : ErrEnv s w) :
    Calls Tryd.prog 31 #[batV v u a, x] w fun e w' => e = .returned (.tuple #[batV v u a, .int .i64 c]) ∧ Below w.heap.size w w' := by
  go_enter Tryd.func31, Tryd.ntmps31
  have hk : ∀ W, Below w.heap.size w W → Calls Tryd.prog 38 #[x] W fun e w' => e = .returned (.int .i64 c) ∧ W = w' := fun W hb => codeOf_any h W (hE.below hb (Nat.le_refl _))
  have Hk := Lib.hid hk; clear hk
  go_wp2_with fail
  go_region_with (go_at_call 38; refine (Hk.out _ ?_).mono ?_; (repeat (first | exact Below.refl _ _ | apply Below.drew | (refine Below.alloc ?_ (by simp) _) | (refine Below.setCell ?_ (by simp) _))); rintro e w' ⟨rfl, rfl⟩)
  all_goals
    go_wp2
    refine bodyPost_ret (v := .tuple #[batV v u a, .int .i64 c]) (by simp [results, Tryd.results31, go_sem]) rfl ⟨rfl, ?_⟩
    repeat (first | exact Below.refl _ _ | apply Below.drew | (refine Below.alloc ?_ (by simp) _) | (refine Below.setCell ?_ (by simp) _))

section
variable {p k b t v u a : Int}

set_option maxRecDepth 100000 in
set_option maxHeartbeats 1000000 in
theorem trayOf_yes (h : BOk p k b t v u a) (w : World) :
    Calls Tryd.prog 45 #[devV p k b t, batV v u a] w fun e w' => e = .returned (.tuple #[trayV p k b t v u a, .nilIface]) ∧ Below w.heap.size w w' := by
  have hv := fun W => trayValid_any p k b t v u a (by have := h.b0; omega) (by have := h.b1; omega) (by have := h.t0; omega) (by have := h.t1; omega) W
  rw [bathOk_true.2 h] at hv
  have Hv := Lib.hid hv; clear hv
  go_enter Tryd.func45, Tryd.ntmps45
  go_wp2_with fail
  refine (Hv.out _).mono ?_; rintro e w1 ⟨rfl, hb1⟩
  obtain ⟨hc1, hf1⟩ := bcell hb1
  have hz1 : w.heap.size + 3 < w1.heap.size := by have := hb1.size; simp at this; omega
  have k1 : Below w.heap.size w w1 := by
    refine Below.trans ?_ (hb1.mono (by simp; omega))
    repeat (first | exact Below.refl _ _ | apply Below.drew | (refine Below.alloc ?_ (by first | omega | (simp; done) | (simp; omega)) _))
  have D1 : TrAt w1 (w.heap.size + 1 + 1) 0 0 0 0 0 0 0 := TrAt.below ((TrAt.newAt _ _ (by simp) _ _ _ _ _ _ _ _).alloc _) hb1 (Nat.le_refl _)
  go_wp2_with fail
  obtain ⟨W2, e2, D2, k2⟩ := D1.stored k1 (by omega) p k b t v u a
  rw [← e2]
  clear e2 hc1 hf1 D1 k1 hb1
  obtain ⟨c0, c1, c2, c3, c4, c5, c6⟩ := D2
  exact bodyPost_ret (v := .tuple #[trayV p k b t v u a, .nilIface]) (by simp [results, Tryd.results45, go_sem, c0, c1, c2, c3, c4, c5, c6]) rfl ⟨rfl, k2⟩

set_option maxRecDepth 100000 in
set_option maxHeartbeats 1000000 in
theorem trayOf_no (z : Ers) (hb : -128 ≤ b) (hb' : b ≤ 127) (ht : -128 ≤ t) (ht' : t ≤ 127) (h : bathOk p k b t v u a = false) (w : World) (hE : ErrEnv z w) :
    Calls Tryd.prog 45 #[devV p k b t, batV v u a] w fun e w' => e = .returned (.tuple #[trayV 0 0 0 0 0 0 0, errV z.einvalid]) ∧ Below w.heap.size w w' := by
  have hv := fun W => trayValid_any p k b t v u a hb hb' ht ht' W
  rw [h] at hv
  have Hv := Lib.hid hv; clear hv h
  have ce := hE.c_einvalid
  have lt_i := cell_ltB ce
  have k00 : Below w.heap.size w (((w.alloc (.cells #[.int .i64 p, .int .i64 k, .int .i8 b, .int .i8 t] 26)).alloc (.cells #[.int .i64 v, .int .i64 u, .int .i64 a] 28)).alloc (.cells #[.int .i64 0, .int .i64 0, .int .i8 0, .int .i8 0, .int .i64 0, .int .i64 0, .int .i64 0] 82)) := by
    repeat (first | exact Below.refl _ _ | apply Below.drew | (refine Below.alloc ?_ (by first | omega | (simp; done) | (simp; omega)) _))
  have ce0 := below_cellOf k00 ce (Nat.le_refl _)
  clear k00
  clear hE
  go_enter Tryd.func45, Tryd.ntmps45
  go_wp2_with fail
  refine (Hv.out _).mono ?_; rintro e w1 ⟨rfl, hb1⟩
  obtain ⟨hc1, hf1⟩ := bcell hb1
  have hz1 : w.heap.size + 3 < w1.heap.size := by have := hb1.size; simp at this; omega
  have k1 : Below w.heap.size w w1 := by
    refine Below.trans ?_ (hb1.mono (by simp; omega))
    repeat (first | exact Below.refl _ _ | apply Below.drew | (refine Below.alloc ?_ (by first | omega | (simp; done) | (simp; omega)) _))
  have D1 : TrAt w1 (w.heap.size + 1 + 1) 0 0 0 0 0 0 0 := TrAt.below ((TrAt.newAt _ _ (by simp) _ _ _ _ _ _ _ _).alloc _) hb1 (Nat.le_refl _)
  have ce1 := below_cellOf k1 ce (Nat.le_refl _)
  go_wp2_with fail
  go_region
  all_goals
    go_wp2
    obtain ⟨W2, e2, D2, k2⟩ := D1.stored k1 (by omega) 0 0 0 0 0 0 0
    rw [← e2]
    clear e2 hc1 hf1 D1 k1 hb1
    obtain ⟨c0, c1, c2, c3, c4, c5, c6⟩ := D2.below (Below.refl W2.heap.size W2).drew (Nat.le_refl _)
    exact bodyPost_ret (v := .tuple #[trayV 0 0 0 0 0 0 0, errV z.einvalid]) (by simp [results, Tryd.results45, go_sem, c0, c1, c2, c3, c4, c5, c6]) rfl ⟨rfl, k2.drew⟩

/-! ### STRENGTHS -/
def strR (p k b t v u a : Int) : Int := if bathOk p k b t v u a = true then strn p k v u a else 0
def okC (p k b t v u a : Int) : Int := if bathOk p k b t v u a = true then 0 else 1

set_option maxRecDepth 100000 in
set_option maxHeartbeats 1000000 in
theorem specStrengthOf_any (hb : -128 ≤ b) (hb' : b ≤ 127) (ht : -128 ≤ t) (ht' : t ≤ 127) (w : World) :
    Calls Tryd.prog 20 #[devV p k b t, batV v u a] w fun e w' => e = .returned (.tuple #[.int .i64 (strR p k b t v u a), .int .i64 (okC p k b t v u a)]) ∧ Below w.heap.size w w' := by
  have hok := fun W => l04Ok_any (p := p) (k := k) (b := b) (t := t) (v := v) (u := u) (a := a) hb hb' ht ht' W
  have hB0 := below_2 w (.cells #[.int .i64 p, .int .i64 k, .int .i8 b, .int .i8 t] 26) (.cells #[.int .i64 v, .int .i64 u, .int .i64 a] 28)
  have D0 := DBAt.new w 26 28 p k b t v u a
  unfold strR okC
  rcases h1 : bathOk p k b t v u a with _ | _
  · simp only [Bool.false_eq_true, if_false]
    rw [h1] at hok
    have Hok := Lib.hid hok; clear hok h1 D0
    go_enter Tryd.func20, Tryd.ntmps20
    go_wp2_with fail
    refine (Hok.out _).mono ?_; rintro e w1 ⟨rfl, hb1⟩
    go_wp2_with fail
    go_ret2
    exact ⟨rfl, hB0.trans (hb1.mono hB0.size)⟩
  · simp only [if_true]
    have h := bathOk_true.1 h1
    have hst := fun W => l04Strength_any h W
    rw [h1] at hok
    have Hok := Lib.hid hok; clear hok h1
    have Hst := Lib.hid hst; clear hst h
    go_enter Tryd.func20, Tryd.ntmps20
    go_wp2_with fail
    refine (Hok.out _).mono ?_; rintro e w1 ⟨rfl, hb1⟩
    have k1 := hB0.trans (hb1.mono hB0.size)
    obtain ⟨c0, c1, c2, c3, c4, c5, c6⟩ := D0.below hb1 (Nat.le_refl _)
    clear D0 hB0 hb1
    go_wp2_with fail
    refine (Hst.out _).mono ?_; rintro e w2 ⟨rfl, hb2⟩
    go_wp2_with fail
    go_ret2
    exact ⟨rfl, k1.trans (hb2.mono k1.size)⟩

set_option maxRecDepth 100000 in
set_option maxHeartbeats 1000000 in
theorem strengthOf_any (z : Ers) (hb : -128 ≤ b) (hb' : b ≤ 127) (ht : -128 ≤ t) (ht' : t ≤ 127) (w : World) (hE : ErrEnv z w) :
    Calls Tryd.prog 33 #[devV p k b t, batV v u a] w (Coded z (.int .i64 (strR p k b t v u a)) (okC p k b t v u a) w.heap.size w) := by
  have hB0 := below_2 w (.cells #[.int .i64 p, .int .i64 k, .int .i8 b, .int .i8 t] 26) (.cells #[.int .i64 v, .int .i64 u, .int .i64 a] 28)
  have ne := errNeB
  have nn := nilNeB
  unfold strR okC
  rcases h1 : bathOk p k b t v u a with _ | _
  · simp only [Bool.false_eq_true, if_false]
    have hto := trayOf_no z hb hb' ht ht' h1 _ (hE.below hB0 (Nat.le_refl _))
    have Hto := Lib.hid hto; clear hto h1
    clear nn
    go_enter Tryd.func33, Tryd.ntmps33
    go_wp2_with fail
    refine Hto.out.mono ?_; rintro e w1 ⟨rfl, hb1⟩
    have k1 := hB0.trans (hb1.mono hB0.size)
    go_wp2_with fail
    go_ret2
    exact ⟨_, .einvalid, rfl, k1.alloc k1.size _⟩
  · simp only [if_true]
    have h := bathOk_true.1 h1
    have hto := fun W => trayOf_yes h W
    have hst := fun W => strength_any h W
    have Hto := Lib.hid hto; clear hto h1
    have Hst := Lib.hid hst; clear hst h
    clear ne
    go_enter Tryd.func33, Tryd.ntmps33
    go_wp2_with fail
    refine (Hto.out _).mono ?_; rintro e w1 ⟨rfl, hb1⟩
    have k1 := hB0.trans (hb1.mono hB0.size)
    have k1' := k1.alloc k1.size (.cells #[.int .i64 p, .int .i64 k, .int .i8 b, .int .i8 t, .int .i64 v, .int .i64 u, .int .i64 a] 82)
    go_wp2_with fail
    refine (Hst.out _).mono ?_; rintro e w2 ⟨rfl, hb2⟩
    go_wp2_with fail
    go_ret2
    exact ⟨_, .ok, rfl, k1'.trans (hb2.mono k1'.size)⟩

set_option maxHeartbeats 400000 in
theorem StrengthOf_any (z : Ers) (hb : -128 ≤ b) (hb' : b ≤ 127) (ht : -128 ≤ t) (ht' : t ≤ 127) (w : World) (hE : ErrEnv z w) :
    Calls Tryd.prog 10 #[devV p k b t, batV v u a] w fun e w' => e = .returned (.tuple #[.int .i64 (strR p k b t v u a), .int .i64 (okC p k b t v u a)]) ∧ Below w.heap.size w w' := by
  have hB0 := below_2 w (.cells #[.int .i64 p, .int .i64 k, .int .i8 b, .int .i8 t] 26) (.cells #[.int .i64 v, .int .i64 u, .int .i64 a] 28)
  have hst := strengthOf_any (p := p) (k := k) (b := b) (t := t) (v := v) (u := u) (a := a) z hb hb' ht ht' _ (hE.below hB0 (Nat.le_refl _))
  have Hst := Lib.hid hst; clear hst
  go_enter Tryd.func10, Tryd.ntmps10
  go_wp2_with fail
  refine Hst.out.mono ?_; rintro e w1 ⟨x, hx, rfl, hb1⟩
  have k1 := hB0.trans (hb1.mono hB0.size)
  go_wp2_with fail
  refine (codedInt_any hx _ _ (hE.below k1 (Nat.le_refl _))).mono ?_; rintro e w2 ⟨rfl, rfl⟩
  go_wp2_with fail
  go_ret2
  exact ⟨rfl, k1⟩

end
end Go.Proofs.YtkgjkjecfpmlnaaDoor

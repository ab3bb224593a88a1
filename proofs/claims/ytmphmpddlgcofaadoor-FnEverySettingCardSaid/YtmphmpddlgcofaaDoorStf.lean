/-
  Settings for placements: what both sides return, for every setting, number and placement. Condition of the program's: its variables hold their own errors.
-/
import Derived.Test.YtmphmpddlgcofaaDoorMore2
import Derived.Test.YtmphmpddlgcofaaDoorPlcI
import Derived.Test.YtmphmpddlgcofaaDoorQuietTail
namespace Go.Proofs.YtmphmpddlgcofaaDoor
open Go.RowKit

/-- The error that stands for a code. -/
def errOf (s : Ers) (c : Int) : Value := if c = 0 then .nilIface else if c = 1 then errV s.einvalid else if c = 2 then errV s.erange else if c = 3 then errV s.elimit else if c = 4 then errV s.estate else if c = 5 then errV s.esyntax else errV s.enotfound
theorem errOf_code {s : Ers} {v : Value} {c : Int} (h : IsCode s v c) : v = errOf s c ∧ IsCode s (errOf s c) c := by
  cases h
  · exact ⟨rfl, .ok⟩
  · exact ⟨rfl, .einvalid⟩
  · exact ⟨rfl, .erange⟩
  · exact ⟨rfl, .elimit⟩
  · exact ⟨rfl, .estate⟩
  · exact ⟨rfl, .esyntax⟩
  · exact ⟨rfl, .enotfound⟩
theorem moreC_or (a b c t : Int) : moreC a b c t = 0 ∨ moreC a b c t = 1 ∨ moreC a b c t = 2 ∨ moreC a b c t = 6 := by
  unfold moreC
  split
  · split
    · split
      · exact .inl rfl
      · exact .inr (.inr (.inr rfl))
    · exact .inr (.inr (.inl rfl))
  · exact .inr (.inl rfl)
theorem errOf_more {s : Ers} (a b c t : Int) : IsCode s (errOf s (moreC a b c t)) (moreC a b c t) := by
  rcases moreC_or a b c t with e | e | e | e <;> rw [e]
  · exact .ok
  · exact .einvalid
  · exact .erange
  · exact .enotfound
theorem moreV_setS (a b c t : Int) : ∃ x y z, moreV a b c t = setV x y z := by
  unfold moreV
  split
  · exact ⟨_, _, _, rfl⟩
  · exact ⟨_, _, _, rfl⟩
/-- Both boxes and the result's. -/
structure StAt (w : World) (g : Nat) (a b c r z : Int) : Prop where
  s0 : w.cell? ⟨g, 0, none⟩ = some (.int .i8 a)
  s1 : w.cell? ⟨g, 1, none⟩ = some (.int .i8 b)
  s2 : w.cell? ⟨g, 2, none⟩ = some (.int .i8 c)
  p0 : w.cell? ⟨g + 1, 0, none⟩ = some (.int .i8 r)
  p1 : w.cell? ⟨g + 1, 1, none⟩ = some (.int .i8 z)
  r0 : w.cell? ⟨g + 1 + 1, 0, none⟩ = some (.int .i8 0)
  r1 : w.cell? ⟨g + 1 + 1, 1, none⟩ = some (.int .i8 0)
  r2 : w.cell? ⟨g + 1 + 1, 2, none⟩ = some (.int .i8 0)
  fz : ∀ o, w.frozen? ⟨g + 1 + 1, o, none⟩ = false
theorem StAt.lt {w : World} {g : Nat} {a b c r z : Int} (h : StAt w g a b c r z) : g + 1 + 1 < w.heap.size := World.block_lt_of_cell? w _ h.r0
theorem StAt.below {w w' : World} {g : Nat} {a b c r z : Int} {B : Nat} (h : StAt w g a b c r z) (hb : Below B w w') (hB : w.heap.size ≤ B) : StAt w' g a b c r z :=
  ⟨below_cellOf hb h.s0 hB, below_cellOf hb h.s1 hB, below_cellOf hb h.s2 hB, below_cellOf hb h.p0 hB, below_cellOf hb h.p1 hB, below_cellOf hb h.r0 hB, below_cellOf hb h.r1 hB, below_cellOf hb h.r2 hB, fun o => (hb.frozen (p := ⟨g + 1 + 1, o, none⟩) (by have := h.lt; show g + 1 + 1 < B; omega)).trans (h.fz o)⟩
theorem new3 (W : World) {g : Nat} (hg : g = W.heap.size) (x y z : Value) (T : TypeId) :
    ((W.alloc (.cells #[x, y, z] T)).cell? ⟨g, 0, none⟩ = some x ∧ (W.alloc (.cells #[x, y, z] T)).cell? ⟨g, 1, none⟩ = some y ∧ (W.alloc (.cells #[x, y, z] T)).cell? ⟨g, 2, none⟩ = some z) ∧ ∀ o, (W.alloc (.cells #[x, y, z] T)).frozen? ⟨g, o, none⟩ = false := by
  subst hg
  exact ⟨⟨by simp, by simp, by simp⟩, fun o => by simp⟩
theorem StAt.new (w : World) (T1 T2 T3 : TypeId) (a b c r z : Int) : StAt (((w.alloc (.cells #[.int .i8 a, .int .i8 b, .int .i8 c] T1)).alloc (.cells #[.int .i8 r, .int .i8 z] T2)).alloc (.cells #[.int .i8 0, .int .i8 0, .int .i8 0] T3)) w.heap.size a b c r z := by
  have h := new3 ((w.alloc (.cells #[.int .i8 a, .int .i8 b, .int .i8 c] T1)).alloc (.cells #[.int .i8 r, .int .i8 z] T2)) (g := w.heap.size + 1 + 1) (by simp) (.int .i8 0) (.int .i8 0) (.int .i8 0) T3
  have hb := (Below.refl ((w.alloc (.cells #[.int .i8 a, .int .i8 b, .int .i8 c] T1)).alloc (.cells #[.int .i8 r, .int .i8 z] T2)).heap.size _).alloc (Nat.le_refl _) (.cells #[.int .i8 0, .int .i8 0, .int .i8 0] T3)
  exact ⟨below_cellOf hb (by simp) (Nat.le_refl _), below_cellOf hb (by simp) (Nat.le_refl _), below_cellOf hb (by simp) (Nat.le_refl _), below_cellOf hb (by simp) (Nat.le_refl _), below_cellOf hb (by simp) (Nat.le_refl _), h.1.1, h.1.2.1, h.1.2.2, h.2⟩
/-- The code, and the setting. -/
def stC (a b c m r z : Int) : Int := if okS a b c = true then (if plcB r z = true then (if inB m 0 60 = true then moreC a b c (3 * (z - 5) + m - r) else 2) else 1) else 1
def stV (a b c m r z : Int) : Value := if okS a b c = true then (if plcB r z = true then (if inB m 0 60 = true then moreV a b c (3 * (z - 5) + m - r) else setV 0 0 0) else setV 0 0 0) else setV 0 0 0
theorem stV_set (a b c m r z : Int) : ∃ x y k, stV a b c m r z = setV x y k := by
  unfold stV
  split
  · split
    · split
      · exact moreV_setS _ _ _ _
      · exact ⟨_, _, _, rfl⟩
    · exact ⟨_, _, _, rfl⟩
  · exact ⟨_, _, _, rfl⟩

set_option maxRecDepth 100000 in
set_option maxHeartbeats 2000000 in
theorem specSettingFor_any (a b c m r z : Int) (ha : -128 ≤ a) (ha' : a ≤ 127) (hb : -128 ≤ b) (hb' : b ≤ 127) (hc : -128 ≤ c) (hc' : c ≤ 127) (hr : -128 ≤ r) (hr' : r ≤ 127) (hz : -128 ≤ z) (hz' : z ≤ 127) (w : World) :
    Calls Tryd.prog 46 #[setV a b c, .int .i64 m, plcV r z] w fun e w' => e = .returned (.tuple #[stV a b c m r z, .int .i64 (stC a b c m r z)]) ∧ Below w.heap.size w w' := by
  have k0 : Below w.heap.size w (((w.alloc (.cells #[.int .i8 a, .int .i8 b, .int .i8 c] 66)).alloc (.cells #[.int .i8 r, .int .i8 z] 25)).alloc (.cells #[.int .i8 0, .int .i8 0, .int .i8 0] 66)) := by (repeat (first | exact Below.refl _ _ | assumption | apply Below.drew | apply below_drewL | apply below_drewP | (refine Below.alloc ?_ (by first | omega | (simp; done) | (simp; omega)) _) | (refine Below.setCell ?_ (by first | omega | (simp; done) | (simp; omega)) _)))
  have K0 := Lib.hid k0; clear k0
  have S0 := Lib.hid (StAt.new w 66 25 66 a b c r z)
  have ho := fun W => l01Ok_any a b c ha ha' hb hb' hc hc' W
  have hp := fun W => l06Placement_any r z hr hr' hz hz' W
  have hm := fun W => l06Reading_any m W
  unfold stC stV
  rcases h1 : okS a b c with _ | _
  · simp only [Bool.false_eq_true, if_false]
    rw [h1] at ho
    have Ho := Lib.hid ho; clear ho hp hm h1
    go_enter Tryd.func46, Tryd.ntmps46
    go_wp2_with fail
    refine (Ho.out _).mono ?_; rintro e w1 ⟨rfl, hb1⟩
    have k1 := K0.out.trans (hb1.mono K0.out.size)
    have T1 := Lib.hid (S0.out.below hb1 (Nat.le_refl _))
    clear hb1
    have s0 := T1.out.s0
    have s1 := T1.out.s1
    have s2 := T1.out.s2
    have p0 := T1.out.p0
    have p1 := T1.out.p1
    have r0 := T1.out.r0
    have r1 := T1.out.r1
    have r2 := T1.out.r2
    have fz := T1.out.fz
    go_wp2_with fail
    refine bodyPost_ret (v := .tuple #[setV 0 0 0, .int .i64 1]) (by simp [results, Tryd.results46, go_sem, r0, r1, r2]) rfl ⟨rfl, ?_⟩
    (repeat (first | exact Below.refl _ _ | assumption | apply Below.drew | apply below_drewL | apply below_drewP | (refine Below.alloc ?_ (by first | omega | (simp; done) | (simp; omega)) _) | (refine Below.setCell ?_ (by first | omega | (simp; done) | (simp; omega)) _)))
  rw [h1] at ho
  have Ho := Lib.hid ho; clear ho
  rcases h2 : plcB r z with _ | _
  · simp only [Bool.false_eq_true, if_false, if_true]
    rw [h2] at hp
    have Hp := Lib.hid hp; clear hp hm h1 h2
    go_enter Tryd.func46, Tryd.ntmps46
    go_wp2_with fail
    refine (Ho.out _).mono ?_; rintro e w1 ⟨rfl, hb1⟩
    have k1 := K0.out.trans (hb1.mono K0.out.size)
    have T1 := Lib.hid (S0.out.below hb1 (Nat.le_refl _))
    clear hb1
    have s0 := T1.out.s0
    have s1 := T1.out.s1
    have s2 := T1.out.s2
    have p0 := T1.out.p0
    have p1 := T1.out.p1
    have r0 := T1.out.r0
    have r1 := T1.out.r1
    have r2 := T1.out.r2
    have fz := T1.out.fz
    go_wp2_with fail
    refine (Hp.out _).mono ?_; rintro e w2 ⟨rfl, hb2⟩
    have k2 := k1.trans (hb2.mono k1.size)
    have T2 := Lib.hid (T1.out.below hb2 (Nat.le_refl _))
    clear hb2 k1
    clear s0 s1 s2 p0 p1 r0 r1 r2 fz
    have s0 := T2.out.s0
    have s1 := T2.out.s1
    have s2 := T2.out.s2
    have p0 := T2.out.p0
    have p1 := T2.out.p1
    have r0 := T2.out.r0
    have r1 := T2.out.r1
    have r2 := T2.out.r2
    have fz := T2.out.fz
    go_wp2_with fail
    refine bodyPost_ret (v := .tuple #[setV 0 0 0, .int .i64 1]) (by simp [results, Tryd.results46, go_sem, r0, r1, r2]) rfl ⟨rfl, ?_⟩
    (repeat (first | exact Below.refl _ _ | assumption | apply Below.drew | apply below_drewL | apply below_drewP | (refine Below.alloc ?_ (by first | omega | (simp; done) | (simp; omega)) _) | (refine Below.setCell ?_ (by first | omega | (simp; done) | (simp; omega)) _)))
  have bp := plcB_bd h2
  rw [h2] at hp
  have Hp := Lib.hid hp; clear hp h2
  rcases h3 : inB m 0 60 with _ | _
  · simp only [Bool.false_eq_true, if_false, if_true]
    rw [h3] at hm
    have Hm := Lib.hid hm; clear hm h1 h3
    go_enter Tryd.func46, Tryd.ntmps46
    go_wp2_with fail
    refine (Ho.out _).mono ?_; rintro e w1 ⟨rfl, hb1⟩
    have k1 := K0.out.trans (hb1.mono K0.out.size)
    have T1 := Lib.hid (S0.out.below hb1 (Nat.le_refl _))
    clear hb1
    have s0 := T1.out.s0
    have s1 := T1.out.s1
    have s2 := T1.out.s2
    have p0 := T1.out.p0
    have p1 := T1.out.p1
    have r0 := T1.out.r0
    have r1 := T1.out.r1
    have r2 := T1.out.r2
    have fz := T1.out.fz
    go_wp2_with fail
    refine (Hp.out _).mono ?_; rintro e w2 ⟨rfl, hb2⟩
    have k2 := k1.trans (hb2.mono k1.size)
    have T2 := Lib.hid (T1.out.below hb2 (Nat.le_refl _))
    clear hb2 k1
    clear s0 s1 s2 p0 p1 r0 r1 r2 fz
    have s0 := T2.out.s0
    have s1 := T2.out.s1
    have s2 := T2.out.s2
    have p0 := T2.out.p0
    have p1 := T2.out.p1
    have r0 := T2.out.r0
    have r1 := T2.out.r1
    have r2 := T2.out.r2
    have fz := T2.out.fz
    go_wp2_with fail
    refine (Hm.out _).mono ?_; rintro e w3 ⟨rfl, rfl⟩
    go_wp2_with fail
    refine bodyPost_ret (v := .tuple #[setV 0 0 0, .int .i64 2]) (by simp [results, Tryd.results46, go_sem, r0, r1, r2]) rfl ⟨rfl, ?_⟩
    (repeat (first | exact Below.refl _ _ | assumption | apply Below.drew | apply below_drewL | apply below_drewP | (refine Below.alloc ?_ (by first | omega | (simp; done) | (simp; omega)) _) | (refine Below.setCell ?_ (by first | omega | (simp; done) | (simp; omega)) _)))
  · simp only [if_true]
    have bm := inB_true.1 h3
    rw [h3] at hm
    have Hm := Lib.hid hm; clear hm h1 h3
    have hq := fun W => specMoreLight_any a b c (3 * (z - 5) + m - r) ha ha' hb hb' hc hc' W
    obtain ⟨X, Y, Z, hv⟩ := moreV_setS a b c (3 * (z - 5) + m - r)
    rw [hv] at hq ⊢
    generalize moreC a b c (3 * (z - 5) + m - r) = C at *
    have Hq := Lib.hid hq; clear hq hv
    go_enter Tryd.func46, Tryd.ntmps46
    go_wp2_with fail
    refine (Ho.out _).mono ?_; rintro e w1 ⟨rfl, hb1⟩
    have k1 := K0.out.trans (hb1.mono K0.out.size)
    have T1 := Lib.hid (S0.out.below hb1 (Nat.le_refl _))
    clear hb1
    have s0 := T1.out.s0
    have s1 := T1.out.s1
    have s2 := T1.out.s2
    have p0 := T1.out.p0
    have p1 := T1.out.p1
    have r0 := T1.out.r0
    have r1 := T1.out.r1
    have r2 := T1.out.r2
    have fz := T1.out.fz
    go_wp2_with fail
    refine (Hp.out _).mono ?_; rintro e w2 ⟨rfl, hb2⟩
    have k2 := k1.trans (hb2.mono k1.size)
    have T2 := Lib.hid (T1.out.below hb2 (Nat.le_refl _))
    clear hb2 k1
    clear s0 s1 s2 p0 p1 r0 r1 r2 fz
    have s0 := T2.out.s0
    have s1 := T2.out.s1
    have s2 := T2.out.s2
    have p0 := T2.out.p0
    have p1 := T2.out.p1
    have r0 := T2.out.r0
    have r1 := T2.out.r1
    have r2 := T2.out.r2
    have fz := T2.out.fz
    go_wp2_with fail
    refine (Hm.out _).mono ?_; rintro e w3 ⟨rfl, rfl⟩
    go_wp2_with fail
    refine (Hq.out _).mono ?_; rintro e w4 ⟨rfl, hb4⟩
    have k4 := k2.trans (hb4.mono k2.size)
    have T4 := Lib.hid (T2.out.below hb4 (Nat.le_refl _))
    clear hb4 k2
    clear s0 s1 s2 p0 p1 r0 r1 r2 fz
    have s0 := T4.out.s0
    have s1 := T4.out.s1
    have s2 := T4.out.s2
    have p0 := T4.out.p0
    have p1 := T4.out.p1
    have r0 := T4.out.r0
    have r1 := T4.out.r1
    have r2 := T4.out.r2
    have fz := T4.out.fz
    go_wp2_with fail
    refine bodyPost_ret (v := .tuple #[setV X Y Z, .int .i64 C]) (by simp [results, Tryd.results46, go_sem, r0, r1, r2]) rfl ⟨rfl, ?_⟩
    (repeat (first | exact Below.refl _ _ | assumption | apply Below.drew | apply below_drewL | apply below_drewP | (refine Below.alloc ?_ (by first | omega | (simp; done) | (simp; omega)) _) | (refine Below.setCell ?_ (by first | omega | (simp; done) | (simp; omega)) _)))

set_option maxRecDepth 100000 in
set_option maxHeartbeats 2000000 in
theorem settingFor_any (s : Ers) (a b c m r z : Int) (ha : -128 ≤ a) (ha' : a ≤ 127) (hb : -128 ≤ b) (hb' : b ≤ 127) (hc : -128 ≤ c) (hc' : c ≤ 127) (hr : -128 ≤ r) (hr' : r ≤ 127) (hz : -128 ≤ z) (hz' : z ≤ 127) (w : World) (hE : ErrEnv s w) :
    Calls Tryd.prog 91 #[setV a b c, .int .i64 m, plcV r z] w (CodedP s (stV a b c m r z) (stC a b c m r z) w.heap.size w) := by
  have k0 : Below w.heap.size w (((w.alloc (.cells #[.int .i8 a, .int .i8 b, .int .i8 c] 66)).alloc (.cells #[.int .i8 r, .int .i8 z] 25)).alloc (.cells #[.int .i8 0, .int .i8 0, .int .i8 0] 66)) := by (repeat (first | exact Below.refl _ _ | assumption | apply Below.drew | apply below_drewL | apply below_drewP | (refine Below.alloc ?_ (by first | omega | (simp; done) | (simp; omega)) _) | (refine Below.setCell ?_ (by first | omega | (simp; done) | (simp; omega)) _)))
  have K0 := Lib.hid k0; clear k0
  have S0 := Lib.hid (StAt.new w 66 25 66 a b c r z)
  have ho := fun W => implValid_any a b c ha ha' hb hb' hc hc' W
  have hp := fun W => isPlacement_any r z hr hr' hz hz' W
  have hm := fun W => isReading_any m W
  have HE := Lib.hid hE; clear hE
  unfold stC stV
  rcases h1 : okS a b c with _ | _
  · simp only [Bool.false_eq_true, if_false]
    rw [h1] at ho
    have Ho := Lib.hid ho; clear ho hp hm h1
    go_enter Tryd.func91, Tryd.ntmps91
    go_wp2_with fail
    refine (Ho.out _).mono ?_; rintro e w1 ⟨rfl, hb1⟩
    have k1 := K0.out.trans (hb1.mono K0.out.size)
    have T1 := Lib.hid (S0.out.below hb1 (Nat.le_refl _))
    clear hb1
    have s0 := T1.out.s0
    have s1 := T1.out.s1
    have s2 := T1.out.s2
    have p0 := T1.out.p0
    have p1 := T1.out.p1
    have r0 := T1.out.r0
    have r1 := T1.out.r1
    have r2 := T1.out.r2
    have fz := T1.out.fz
    have ce := (HE.out.below k1 (Nat.le_refl _)).c_einvalid
    have lt_e := cell_lt (HE.out).c_einvalid
    go_wp2_with fail
    go_region
    all_goals
      go_wp2
      refine bodyPost_ret (v := .tuple #[setV 0 0 0, errV s.einvalid]) (by simp [results, Tryd.results91, go_sem, r0, r1, r2]) rfl ⟨_, .einvalid, rfl, ?_⟩
      (repeat (first | exact Below.refl _ _ | assumption | apply Below.drew | apply below_drewL | apply below_drewP | (refine Below.alloc ?_ (by first | omega | (simp; done) | (simp; omega)) _) | (refine Below.setCell ?_ (by first | omega | (simp; done) | (simp; omega)) _)))
  rw [h1] at ho
  have Ho := Lib.hid ho; clear ho
  rcases h2 : plcB r z with _ | _
  · simp only [Bool.false_eq_true, if_false, if_true]
    rw [h2] at hp
    have Hp := Lib.hid hp; clear hp hm h1 h2
    go_enter Tryd.func91, Tryd.ntmps91
    go_wp2_with fail
    refine (Ho.out _).mono ?_; rintro e w1 ⟨rfl, hb1⟩
    have k1 := K0.out.trans (hb1.mono K0.out.size)
    have T1 := Lib.hid (S0.out.below hb1 (Nat.le_refl _))
    clear hb1
    have s0 := T1.out.s0
    have s1 := T1.out.s1
    have s2 := T1.out.s2
    have p0 := T1.out.p0
    have p1 := T1.out.p1
    have r0 := T1.out.r0
    have r1 := T1.out.r1
    have r2 := T1.out.r2
    have fz := T1.out.fz
    go_wp2_with fail
    refine (Hp.out _).mono ?_; rintro e w2 ⟨rfl, hb2⟩
    have k2 := k1.trans (hb2.mono k1.size)
    have T2 := Lib.hid (T1.out.below hb2 (Nat.le_refl _))
    clear hb2 k1
    clear s0 s1 s2 p0 p1 r0 r1 r2 fz
    have s0 := T2.out.s0
    have s1 := T2.out.s1
    have s2 := T2.out.s2
    have p0 := T2.out.p0
    have p1 := T2.out.p1
    have r0 := T2.out.r0
    have r1 := T2.out.r1
    have r2 := T2.out.r2
    have fz := T2.out.fz
    have ce := (HE.out.below k2 (Nat.le_refl _)).c_einvalid
    have lt_e := cell_lt (HE.out).c_einvalid
    go_wp2_with fail
    go_region
    all_goals
      go_wp2
      refine bodyPost_ret (v := .tuple #[setV 0 0 0, errV s.einvalid]) (by simp [results, Tryd.results91, go_sem, r0, r1, r2]) rfl ⟨_, .einvalid, rfl, ?_⟩
      (repeat (first | exact Below.refl _ _ | assumption | apply Below.drew | apply below_drewL | apply below_drewP | (refine Below.alloc ?_ (by first | omega | (simp; done) | (simp; omega)) _) | (refine Below.setCell ?_ (by first | omega | (simp; done) | (simp; omega)) _)))
  have bp := plcB_bd h2
  rw [h2] at hp
  have Hp := Lib.hid hp; clear hp h2
  rcases h3 : inB m 0 60 with _ | _
  · simp only [Bool.false_eq_true, if_false, if_true]
    rw [h3] at hm
    have Hm := Lib.hid hm; clear hm h1 h3
    go_enter Tryd.func91, Tryd.ntmps91
    go_wp2_with fail
    refine (Ho.out _).mono ?_; rintro e w1 ⟨rfl, hb1⟩
    have k1 := K0.out.trans (hb1.mono K0.out.size)
    have T1 := Lib.hid (S0.out.below hb1 (Nat.le_refl _))
    clear hb1
    have s0 := T1.out.s0
    have s1 := T1.out.s1
    have s2 := T1.out.s2
    have p0 := T1.out.p0
    have p1 := T1.out.p1
    have r0 := T1.out.r0
    have r1 := T1.out.r1
    have r2 := T1.out.r2
    have fz := T1.out.fz
    go_wp2_with fail
    refine (Hp.out _).mono ?_; rintro e w2 ⟨rfl, hb2⟩
    have k2 := k1.trans (hb2.mono k1.size)
    have T2 := Lib.hid (T1.out.below hb2 (Nat.le_refl _))
    clear hb2 k1
    clear s0 s1 s2 p0 p1 r0 r1 r2 fz
    have s0 := T2.out.s0
    have s1 := T2.out.s1
    have s2 := T2.out.s2
    have p0 := T2.out.p0
    have p1 := T2.out.p1
    have r0 := T2.out.r0
    have r1 := T2.out.r1
    have r2 := T2.out.r2
    have fz := T2.out.fz
    go_wp2_with fail
    refine (Hm.out _).mono ?_; rintro e w3 ⟨rfl, rfl⟩
    have ce := (HE.out.below k2 (Nat.le_refl _)).c_erange
    have lt_e := cell_lt (HE.out).c_erange
    go_wp2_with fail
    go_region
    all_goals
      go_wp2
      refine bodyPost_ret (v := .tuple #[setV 0 0 0, errV s.erange]) (by simp [results, Tryd.results91, go_sem, r0, r1, r2]) rfl ⟨_, .erange, rfl, ?_⟩
      (repeat (first | exact Below.refl _ _ | assumption | apply Below.drew | apply below_drewL | apply below_drewP | (refine Below.alloc ?_ (by first | omega | (simp; done) | (simp; omega)) _) | (refine Below.setCell ?_ (by first | omega | (simp; done) | (simp; omega)) _)))
  · simp only [if_true]
    have bm := inB_true.1 h3
    rw [h3] at hm
    have Hm := Lib.hid hm; clear hm h1 h3
    have hq := fun W (hW : ErrEnv s W) => (moreLight_any s a b c (3 * (z - 5) + m - r) ha ha' hb hb' hc hc' W hW).mono fun e w' ⟨v, hv, he, hbb⟩ => (show e = Ending.returned (.tuple #[moreV a b c (3 * (z - 5) + m - r), errOf s (moreC a b c (3 * (z - 5) + m - r))]) ∧ Below W.heap.size W w' from ⟨by rw [he, (errOf_code hv).1], hbb⟩)
    have hcd := errOf_more (s := s) a b c (3 * (z - 5) + m - r)
    obtain ⟨X, Y, Z, hv⟩ := moreV_setS a b c (3 * (z - 5) + m - r)
    rw [hv] at hq ⊢
    generalize moreC a b c (3 * (z - 5) + m - r) = C at *
    generalize errOf s C = V at *
    have Hq := Lib.hid hq; clear hq hv
    have hmt := fun W => moreThirds_any r z hz hz' W
    have Hmt := Lib.hid hmt; clear hmt
    have e1 : IntKind.i64.wrap (3 * (z - 5) + m) = 3 * (z - 5) + m := IntWalk.i64_in _ (by omega)
    have e2 : IntKind.i64.wrap (3 * (z - 5) + m - r) = 3 * (z - 5) + m - r := IntWalk.i64_in _ (by omega)
    have e3 : IntKind.i64.wrap r = r := IntWalk.i64_in _ (by omega)
    go_enter Tryd.func91, Tryd.ntmps91
    go_wp2_with fail
    refine (Ho.out _).mono ?_; rintro e w1 ⟨rfl, hb1⟩
    have k1 := K0.out.trans (hb1.mono K0.out.size)
    have T1 := Lib.hid (S0.out.below hb1 (Nat.le_refl _))
    clear hb1
    have s0 := T1.out.s0
    have s1 := T1.out.s1
    have s2 := T1.out.s2
    have p0 := T1.out.p0
    have p1 := T1.out.p1
    have r0 := T1.out.r0
    have r1 := T1.out.r1
    have r2 := T1.out.r2
    have fz := T1.out.fz
    go_wp2_with fail
    refine (Hp.out _).mono ?_; rintro e w2 ⟨rfl, hb2⟩
    have k2 := k1.trans (hb2.mono k1.size)
    have T2 := Lib.hid (T1.out.below hb2 (Nat.le_refl _))
    clear hb2 k1
    clear s0 s1 s2 p0 p1 r0 r1 r2 fz
    have s0 := T2.out.s0
    have s1 := T2.out.s1
    have s2 := T2.out.s2
    have p0 := T2.out.p0
    have p1 := T2.out.p1
    have r0 := T2.out.r0
    have r1 := T2.out.r1
    have r2 := T2.out.r2
    have fz := T2.out.fz
    go_wp2_with fail
    refine (Hm.out _).mono ?_; rintro e w3 ⟨rfl, rfl⟩
    go_wp2_with fail
    refine wp_region_quiet_tail 12 (fun w' => ∃ x : WIn (Below w2.heap.size w2), w' = x.w) (by kernel_rfl) (by kernel_rfl) ⟨⟨_, below_drew1 _⟩, rfl⟩ ?_
    simp only [List.take_succ_cons, List.take_zero, List.drop_succ_cons, List.drop_zero]
    have n0 := below_nonempty w2
    have u0 := fun (x : WIn (Below w2.heap.size w2)) => inCell s0 x
    have u1 := fun (x : WIn (Below w2.heap.size w2)) => inCell s1 x
    have u2 := fun (x : WIn (Below w2.heap.size w2)) => inCell s2 x
    have u3 := fun (x : WIn (Below w2.heap.size w2)) => inCell p0 x
    have u4 := fun (x : WIn (Below w2.heap.size w2)) => inCell p1 x
    have hqq := fun (x : WIn (Below w2.heap.size w2)) => Hq.out x.w ((HE.out.below k2 (Nat.le_refl _)).below x.ok (Nat.le_refl _))
    have Hqq := Lib.hid hqq; clear hqq
    repeat (go_big_quiet_step (first | (go_at_call 89; exact inCall _ (Hmt.out _)) | (go_at_call 92; exact inCall _ (Hqq.out _))))
    refine wpQuiet_nil ?_
    rintro _ ⟨⟨w4, hb4⟩, rfl⟩
    have k4 := k2.trans (Below.mono hb4 k2.size)
    have T4 := Lib.hid (T2.out.below hb4 (Nat.le_refl _))
    clear e1 e2 e3 u0 u1 u2 u3 u4 n0 hb4 k2
    clear s0 s1 s2 p0 p1 r0 r1 r2 fz
    have s0 := T4.out.s0
    have s1 := T4.out.s1
    have s2 := T4.out.s2
    have p0 := T4.out.p0
    have p1 := T4.out.p1
    have r0 := T4.out.r0
    have r1 := T4.out.r1
    have r2 := T4.out.r2
    have fz := T4.out.fz
    go_wp2
    refine bodyPost_ret (v := .tuple #[setV X Y Z, V]) (by simp [results, Tryd.results91, go_sem, r0, r1, r2]) rfl ⟨_, hcd, rfl, ?_⟩
    (repeat (first | exact Below.refl _ _ | assumption | apply Below.drew | apply below_drewL | apply below_drewP | (refine Below.alloc ?_ (by first | omega | (simp; done) | (simp; omega)) _) | (refine Below.setCell ?_ (by first | omega | (simp; done) | (simp; omega)) _)))

set_option maxRecDepth 100000 in
set_option maxHeartbeats 2000000 in
theorem SettingFor_any (s : Ers) (a b c m r z : Int) (ha : -128 ≤ a) (ha' : a ≤ 127) (hb : -128 ≤ b) (hb' : b ≤ 127) (hc : -128 ≤ c) (hc' : c ≤ 127) (hr : -128 ≤ r) (hr' : r ≤ 127) (hz : -128 ≤ z) (hz' : z ≤ 127) (w : World) (hE : ErrEnv s w) :
    Calls Tryd.prog 44 #[setV a b c, .int .i64 m, plcV r z] w fun e w' => e = .returned (.tuple #[stV a b c m r z, .int .i64 (stC a b c m r z)]) ∧ Below w.heap.size w w' := by
  have k0 : Below w.heap.size w (((w.alloc (.cells #[.int .i8 a, .int .i8 b, .int .i8 c] 66)).alloc (.cells #[.int .i8 r, .int .i8 z] 25)).alloc (.cells #[.int .i8 0, .int .i8 0, .int .i8 0] 66)) := by (repeat (first | exact Below.refl _ _ | assumption | apply Below.drew | apply below_drewL | apply below_drewP | (refine Below.alloc ?_ (by first | omega | (simp; done) | (simp; omega)) _) | (refine Below.setCell ?_ (by first | omega | (simp; done) | (simp; omega)) _)))
  have K0 := Lib.hid k0; clear k0
  have S0 := Lib.hid (StAt.new w 66 25 66 a b c r z)
  have hk := fun W h => settingFor_any s a b c m r z ha ha' hb hb' hc hc' hr hr' hz hz' W h
  obtain ⟨X, Y, Z, hv⟩ := stV_set a b c m r z
  rw [hv] at hk ⊢
  generalize stC a b c m r z = C at *
  have Hk := Lib.hid hk; clear hk hv
  have HE := Lib.hid hE; clear hE
  go_enter Tryd.func44, Tryd.ntmps44
  go_wp2_with fail
  refine (Hk.out _ (HE.out.below K0.out (Nat.le_refl _))).mono ?_; rintro e w1 ⟨v, hv, rfl, hb1⟩
  have k1 := K0.out.trans (hb1.mono K0.out.size)
  have T1 := Lib.hid (S0.out.below hb1 (Nat.le_refl _))
  clear hb1
  go_wp2_with fail
  refine (codedSet_any hv _ _ _ _ (HE.out.below k1 (Nat.le_refl _))).mono ?_; rintro e w2 ⟨rfl, hb2⟩
  have k2 := k1.trans (hb2.mono k1.size)
  have T2 := Lib.hid (T1.out.below hb2 (Nat.le_refl _))
  clear hb2 k1
  have r0 := T2.out.r0
  have r1 := T2.out.r1
  have r2 := T2.out.r2
  have fz := T2.out.fz
  go_wp2_with fail
  refine bodyPost_ret (v := .tuple #[setV X Y Z, .int .i64 C]) (by simp [results, Tryd.results44, go_sem, r0, r1, r2]) rfl ⟨rfl, ?_⟩
  (repeat (first | exact Below.refl _ _ | assumption | apply Below.drew | apply below_drewL | apply below_drewP | (refine Below.alloc ?_ (by first | omega | (simp; done) | (simp; omega)) _) | (refine Below.setCell ?_ (by first | omega | (simp; done) | (simp; omega)) _)))
end Go.Proofs.YtmphmpddlgcofaaDoor

/-
  Placements made and moved: what both sides return, for every placement and number. Condition of the program's: its variables hold their own errors.
-/
import Derived.Test.YtaanboedhabheaaDoorPlcI
import Derived.RegionTactic
import Derived.Deep.RegionWith
import Derived.StillTailTactics
namespace Go.Proofs.YtaanboedhabheaaDoor
open Go.RowKit

theorem errNeP (x : Addr) (w : World) : (binOp .neq 70 (errV x) .nilIface).run Tryd.prog w = .ok (.bool true) w := by kernel_rfl
theorem nilNeP (w : World) : (binOp .neq 70 .nilIface .nilIface).run Tryd.prog w = .ok (.bool false) w := by kernel_rfl

/-- The code of a reading and a zone. -/
def plC (x z : Int) : Int := if plcB x z = true then 0 else 2
def smC (r z t : Int) : Int := if plcB r z = true then (if inB t 0 10 = true then (if inB (r + 3 * (t - z)) 0 60 = true then 0 else 6) else 2) else 1

theorem cell_lt2 {w : World} {b o : Nat} {v : Value} (h : w.cell? ⟨b, o, none⟩ = some v) : b < w.heap.size := by
  rcases Nat.lt_or_ge b w.heap.size with h' | h'
  · exact h'
  · simp [World.cell?, Array.getElem?_eq_none h'] at h

set_option maxHeartbeats 1000000 in
theorem isValid64_any (x z : Int) (w : World) :
    Calls Tryd.prog 90 #[.agg #[.int .i64 x, .int .i64 z]] w fun e w' => e = .returned (.bool (plcB x z)) ∧ Below w.heap.size w w' := by
  have ha := fun W => isReading_any x W
  have hb := fun W => isZone_any z W
  unfold plcB
  generalize inB x 0 60 = A at *
  generalize inB z 0 10 = B at *
  rcases A with _ | _
  · have Ha := Lib.hid ha; clear ha hb
    go_enter Tryd.func90, Tryd.ntmps90
    go_wp2_with fail
    refine (Ha.out _).mono ?_; rintro e w1 ⟨rfl, rfl⟩
    go_wp2_with fail
    go_ret
    exact ⟨rfl, by (repeat (first | exact Below.refl _ _ | assumption | apply Below.drew | apply below_drewL | apply below_drewP | (refine Below.alloc ?_ (by first | omega | (simp; done) | (simp; omega)) _) | (refine Below.setCell ?_ (by first | omega | (simp; done) | (simp; omega)) _)))⟩
  · have Ha := Lib.hid ha; have Hb := Lib.hid hb; clear ha hb
    go_enter Tryd.func90, Tryd.ntmps90
    go_wp2_with fail
    refine (Ha.out _).mono ?_; rintro e w1 ⟨rfl, rfl⟩
    go_wp2_with fail
    refine (Hb.out _).mono ?_; rintro e w1 ⟨rfl, rfl⟩
    go_wp2_with fail
    go_ret
    exact ⟨rfl, by (repeat (first | exact Below.refl _ _ | assumption | apply Below.drew | apply below_drewL | apply below_drewP | (refine Below.alloc ?_ (by first | omega | (simp; done) | (simp; omega)) _) | (refine Below.setCell ?_ (by first | omega | (simp; done) | (simp; omega)) _)))⟩

set_option maxHeartbeats 1000000 in
theorem narrowed64_any (x z : Int) (hx : 0 ≤ x ∧ x ≤ 60) (hz : 0 ≤ z ∧ z ≤ 10) (w : World) :
    Calls Tryd.prog 91 #[.agg #[.int .i64 x, .int .i64 z]] w fun e w' => e = .returned (plcV x z) ∧ Below w.heap.size w w' := by
  go_enter Tryd.func91, Tryd.ntmps91
  go_wp2
  refine bodyPost_ret (v := plcV x z) (by simp [results, Tryd.results91, go_sem]) rfl ⟨rfl, ?_⟩
  (repeat (first | exact Below.refl _ _ | assumption | apply Below.drew | apply below_drewL | apply below_drewP | (refine Below.alloc ?_ (by first | omega | (simp; done) | (simp; omega)) _) | (refine Below.setCell ?_ (by first | omega | (simp; done) | (simp; omega)) _)))

set_option maxHeartbeats 1000000 in
theorem codedPlc_any {s : Ers} {v : Value} {c : Int} (h : IsCode s v c) (x z : Int) (w : World) (hE : ErrEnv s w) :
    Calls Tryd.prog 66 #[plcV x z, v] w fun e w' => e = .returned (.tuple #[plcV x z, .int .i64 c]) ∧ Below w.heap.size w w' := by
  have hk : ∀ W, Below w.heap.size w W → Calls Tryd.prog 65 #[v] W fun e w' => e = .returned (.int .i64 c) ∧ W = w' := fun W hb => codeOf_any h W (hE.below hb (Nat.le_refl _))
  have Hk := Lib.hid hk; clear hk
  go_enter Tryd.func66, Tryd.ntmps66
  go_wp2_with fail
  go_region_with (go_at_call 65; refine (Hk.out _ ?_).mono ?_; (repeat (first | exact Below.refl _ _ | apply Below.drew | (refine Below.alloc ?_ (by simp) _) | (refine Below.setCell ?_ (by simp) _))); rintro e w' ⟨rfl, rfl⟩)
  all_goals
    go_wp2
    refine bodyPost_ret (v := .tuple #[plcV x z, .int .i64 c]) (by simp [results, Tryd.results66, go_sem]) rfl ⟨rfl, ?_⟩
    (repeat (first | exact Below.refl _ _ | assumption | apply Below.drew | apply below_drewL | apply below_drewP | (refine Below.alloc ?_ (by first | omega | (simp; done) | (simp; omega)) _) | (refine Below.setCell ?_ (by first | omega | (simp; done) | (simp; omega)) _)))

set_option maxHeartbeats 1000000 in
theorem specPlaceFor_any (x z : Int) (w : World) :
    Calls Tryd.prog 33 #[.int .i64 x, .int .i64 z] w fun e w' => e = .returned (.tuple #[plcV (ifS (plC x z) x) (ifS (plC x z) z), .int .i64 (plC x z)]) ∧ Below w.heap.size w w' := by
  have ha := fun W => l06Reading_any x W
  have hb := fun W => l00In_any z 0 10 W
  unfold plC plcB
  rcases h1 : inB x 0 60 with _ | _
  · simp only [Bool.false_and, Bool.false_eq_true, if_false, ifS_2]
    rw [h1] at ha
    have Ha := Lib.hid ha; clear ha hb h1
    go_enter Tryd.func33, Tryd.ntmps33
    go_wp2_with fail
    refine (Ha.out _).mono ?_; rintro e w1 ⟨rfl, rfl⟩
    go_wp2_with fail
    refine bodyPost_ret (v := .tuple #[plcV 0 0, .int .i64 2]) (by simp [results, Tryd.results33, go_sem]) rfl ⟨rfl, ?_⟩
    (repeat (first | exact Below.refl _ _ | assumption | apply Below.drew | apply below_drewL | apply below_drewP | (refine Below.alloc ?_ (by first | omega | (simp; done) | (simp; omega)) _) | (refine Below.setCell ?_ (by first | omega | (simp; done) | (simp; omega)) _)))
  rw [h1] at ha
  rcases h2 : inB z 0 10 with _ | _
  · simp only [Bool.and_false, Bool.false_eq_true, if_false, ifS_2]
    rw [h2] at hb
    have Ha := Lib.hid ha; have Hb := Lib.hid hb; clear ha hb h1 h2
    go_enter Tryd.func33, Tryd.ntmps33
    go_wp2_with fail
    refine (Ha.out _).mono ?_; rintro e w1 ⟨rfl, rfl⟩
    go_wp2_with fail
    refine (Hb.out _).mono ?_; rintro e w1 ⟨rfl, rfl⟩
    go_wp2_with fail
    refine bodyPost_ret (v := .tuple #[plcV 0 0, .int .i64 2]) (by simp [results, Tryd.results33, go_sem]) rfl ⟨rfl, ?_⟩
    (repeat (first | exact Below.refl _ _ | assumption | apply Below.drew | apply below_drewL | apply below_drewP | (refine Below.alloc ?_ (by first | omega | (simp; done) | (simp; omega)) _) | (refine Below.setCell ?_ (by first | omega | (simp; done) | (simp; omega)) _)))
  · simp only [Bool.and_self, if_true, ifS_0]
    have bx := inB_true.1 h1
    have bz := inB_true.1 h2
    rw [h2] at hb
    have Ha := Lib.hid ha; have Hb := Lib.hid hb; clear ha hb h1 h2
    go_enter Tryd.func33, Tryd.ntmps33
    go_wp2_with fail
    refine (Ha.out _).mono ?_; rintro e w1 ⟨rfl, rfl⟩
    go_wp2_with fail
    refine (Hb.out _).mono ?_; rintro e w1 ⟨rfl, rfl⟩
    go_wp2_with fail
    refine bodyPost_ret (v := .tuple #[plcV x z, .int .i64 0]) (by simp [results, Tryd.results33, go_sem]) rfl ⟨rfl, ?_⟩
    (repeat (first | exact Below.refl _ _ | assumption | apply Below.drew | apply below_drewL | apply below_drewP | (refine Below.alloc ?_ (by first | omega | (simp; done) | (simp; omega)) _) | (refine Below.setCell ?_ (by first | omega | (simp; done) | (simp; omega)) _)))

set_option maxHeartbeats 1000000 in
theorem placeFor_any (s : Ers) (x z : Int) (w : World) (hE : ErrEnv s w) :
    Calls Tryd.prog 67 #[.int .i64 x, .int .i64 z] w (CodedP s (plcV (ifS (plC x z) x) (ifS (plC x z) z)) (plC x z) w.heap.size w) := by
  have hv := fun W => isValid64_any x z W
  have k0 : Below w.heap.size w ((w.alloc (.cells #[.int .i8 0, .int .i8 0] 37)).alloc (.cells #[.int .i64 x, .int .i64 z] 121)) := ((Below.refl _ _).alloc (Nat.le_refl _) _).alloc (by simp) _
  have K0 := Lib.hid k0; clear k0
  unfold plC
  rcases h1 : plcB x z with _ | _
  · simp only [Bool.false_eq_true, if_false, ifS_2]
    rw [h1] at hv
    have Hv := Lib.hid hv; clear hv h1
    have cr := hE.c_erange
    have lt_r := cell_lt2 cr
    go_enter Tryd.func67, Tryd.ntmps67
    go_wp2_with fail
    refine (Hv.out _).mono ?_; rintro e w1 ⟨rfl, hb1⟩
    obtain ⟨hc1, hf1⟩ := bcell hb1
    have hz1 : w.heap.size + 1 < w1.heap.size := by have := hb1.size; simp at this; omega
    have hy1 : w.heap.size < w1.heap.size := by omega
    have k1 := K0.out.trans (hb1.mono K0.out.size)
    have d0 : w1.cell? ⟨w.heap.size, 0, none⟩ = some (.int .i8 0) := below_cellOf hb1 (by simp) (Nat.le_refl _)
    have d1 : w1.cell? ⟨w.heap.size, 1, none⟩ = some (.int .i8 0) := below_cellOf hb1 (by simp) (Nat.le_refl _)
    have ce1 := below_cellOf k1 cr (Nat.le_refl _)
    have ce0 := below_cellOf K0.out cr (Nat.le_refl _)
    go_wp2_with fail
    go_region
    all_goals
      go_wp2
      refine bodyPost_ret (v := .tuple #[plcV 0 0, errV s.erange]) (by simp [results, Tryd.results67, go_sem, d0, d1]) rfl ⟨_, .erange, rfl, ?_⟩
      (repeat (first | exact Below.refl _ _ | assumption | apply Below.drew | apply below_drewL | apply below_drewP | (refine Below.alloc ?_ (by first | omega | (simp; done) | (simp; omega)) _) | (refine Below.setCell ?_ (by first | omega | (simp; done) | (simp; omega)) _)))
  · simp only [if_true, ifS_0]
    have b := plcB_bd h1
    rw [h1] at hv
    have hn := fun W => narrowed64_any x z b.1 b.2 W
    have Hv := Lib.hid hv; have Hn := Lib.hid hn; clear hv hn h1 hE
    go_enter Tryd.func67, Tryd.ntmps67
    go_wp2_with fail
    refine (Hv.out _).mono ?_; rintro e w1 ⟨rfl, hb1⟩
    obtain ⟨hc1, hf1⟩ := bcell hb1
    have hz1 : w.heap.size + 1 < w1.heap.size := by have := hb1.size; simp at this; omega
    have hy1 : w.heap.size < w1.heap.size := by omega
    have k1 := K0.out.trans (hb1.mono K0.out.size)
    go_wp2_with fail
    refine (Hn.out _).mono ?_; rintro e w2 ⟨rfl, hb2⟩
    obtain ⟨hc2, hf2⟩ := bcell hb2
    have hz2 : w.heap.size + 1 < w2.heap.size := by have := hb2.size; omega
    have hy2 : w.heap.size < w2.heap.size := by omega
    have k2 := k1.trans (hb2.mono k1.size)
    have d0 : w1.cell? ⟨w.heap.size, 0, none⟩ = some (.int .i8 0) := below_cellOf hb1 (by simp) (Nat.le_refl _)
    have d1 : w1.cell? ⟨w.heap.size, 1, none⟩ = some (.int .i8 0) := below_cellOf hb1 (by simp) (Nat.le_refl _)
    have g0 := below_cellOf hb2 d0 (Nat.le_refl _)
    have g1 := below_cellOf hb2 d1 (Nat.le_refl _)
    go_wp2_with fail
    refine bodyPost_ret (v := .tuple #[plcV x z, .nilIface]) (by simp [results, Tryd.results67, go_sem, g0, g1]) rfl ⟨_, .ok, rfl, ?_⟩
    (repeat (first | exact Below.refl _ _ | assumption | apply Below.drew | apply below_drewL | apply below_drewP | (refine Below.alloc ?_ (by first | omega | (simp; done) | (simp; omega)) _) | (refine Below.setCell ?_ (by first | omega | (simp; done) | (simp; omega)) _)))

set_option maxHeartbeats 1000000 in
theorem PlaceFor_any (s : Ers) (x z : Int) (w : World) (hE : ErrEnv s w) :
    Calls Tryd.prog 34 #[.int .i64 x, .int .i64 z] w fun e w' => e = .returned (.tuple #[plcV (ifS (plC x z) x) (ifS (plC x z) z), .int .i64 (plC x z)]) ∧ Below w.heap.size w w' := by
  have k0 : Below w.heap.size w (w.alloc (.cells #[.int .i8 0, .int .i8 0] 37)) := by (repeat (first | exact Below.refl _ _ | assumption | apply Below.drew | apply below_drewL | apply below_drewP | (refine Below.alloc ?_ (by first | omega | (simp; done) | (simp; omega)) _) | (refine Below.setCell ?_ (by first | omega | (simp; done) | (simp; omega)) _)))
  have hk := fun W h => placeFor_any s x z W h
  generalize ifS (plC x z) x = X at *
  generalize ifS (plC x z) z = Z at *
  generalize plC x z = C at *
  have Hk := Lib.hid hk; clear hk
  have HE := Lib.hid hE; clear hE
  have K0 := Lib.hid k0; clear k0
  go_enter Tryd.func34, Tryd.ntmps34
  go_wp2_with fail
  refine (Hk.out _ (HE.out.below K0.out (Nat.le_refl _))).mono ?_; rintro e w1 ⟨v, hv, rfl, hb1⟩
  obtain ⟨hc1, hf1⟩ := bcell hb1
  have hz1 : w.heap.size < w1.heap.size := by have := hb1.size; simp at this; omega
  have k1 := K0.out.trans (hb1.mono K0.out.size)
  go_wp2_with fail
  refine (codedPlc_any hv _ _ _ (HE.out.below k1 (Nat.le_refl _))).mono ?_; rintro e w2 ⟨rfl, hb2⟩
  obtain ⟨hc2, hf2⟩ := bcell hb2
  have hz2 : w.heap.size < w2.heap.size := by have := hb2.size; omega
  have k2 := k1.trans (hb2.mono k1.size)
  go_wp2_with fail
  refine bodyPost_ret (v := .tuple #[plcV X Z, .int .i64 C]) (by simp [results, Tryd.results34, go_sem, hc2, hc1, hz1]) rfl ⟨rfl, ?_⟩
  (repeat (first | exact Below.refl _ _ | assumption | apply Below.drew | apply below_drewL | apply below_drewP | (refine Below.alloc ?_ (by first | omega | (simp; done) | (simp; omega)) _) | (refine Below.setCell ?_ (by first | omega | (simp; done) | (simp; omega)) _)))

set_option maxHeartbeats 1000000 in
theorem specSamePlacing_any (r z t : Int) (hr : -128 ≤ r) (hr' : r ≤ 127) (hz : -128 ≤ z) (hz' : z ≤ 127) (w : World) :
    Calls Tryd.prog 36 #[plcV r z, .int .i64 t] w fun e w' => e = .returned (.tuple #[plcV (ifS (smC r z t) (r + 3 * (t - z))) (ifS (smC r z t) t), .int .i64 (smC r z t)]) ∧ Below w.heap.size w w' := by
  have k0 : Below w.heap.size w ((w.alloc (.cells #[.int .i8 r, .int .i8 z] 37)).alloc (.cells #[.int .i8 0, .int .i8 0] 37)) := by (repeat (first | exact Below.refl _ _ | assumption | apply Below.drew | apply below_drewL | apply below_drewP | (refine Below.alloc ?_ (by first | omega | (simp; done) | (simp; omega)) _) | (refine Below.setCell ?_ (by first | omega | (simp; done) | (simp; omega)) _)))
  have K0 := Lib.hid k0; clear k0
  have hp := fun W => l06Placement_any r z hr hr' hz hz' W
  have ht := fun W => l00In_any t 0 10 W
  have hn := fun W => l06Reading_any (r + 3 * (t - z)) W
  unfold smC
  rcases h1 : plcB r z with _ | _
  · simp only [Bool.false_eq_true, if_false, ifS_1]
    rw [h1] at hp
    have Hp := Lib.hid hp; clear hp ht h1
    go_enter Tryd.func36, Tryd.ntmps36
    go_wp2_with fail
    refine (Hp.out _).mono ?_; rintro e w1 ⟨rfl, hb1⟩
    obtain ⟨hc1, hf1⟩ := bcell hb1
    have hz1 : w.heap.size + 1 < w1.heap.size := by have := hb1.size; simp at this; omega
    have k1 := K0.out.trans (hb1.mono K0.out.size)
    go_wp2_with fail
    refine bodyPost_ret (v := .tuple #[plcV 0 0, .int .i64 1]) (by simp [results, Tryd.results36, go_sem, hc1]) rfl ⟨rfl, ?_⟩
    (repeat (first | exact Below.refl _ _ | assumption | apply Below.drew | apply below_drewL | apply below_drewP | (refine Below.alloc ?_ (by first | omega | (simp; done) | (simp; omega)) _) | (refine Below.setCell ?_ (by first | omega | (simp; done) | (simp; omega)) _)))
  have b := plcB_bd h1
  rw [h1] at hp
  have Hp := Lib.hid hp; clear hp h1
  rcases h2 : inB t 0 10 with _ | _
  · simp only [Bool.false_eq_true, if_false, if_true, ifS_2]
    rw [h2] at ht
    have Ht := Lib.hid ht; clear ht h2
    go_enter Tryd.func36, Tryd.ntmps36
    go_wp2_with fail
    refine (Hp.out _).mono ?_; rintro e w1 ⟨rfl, hb1⟩
    obtain ⟨hc1, hf1⟩ := bcell hb1
    have hz1 : w.heap.size + 1 < w1.heap.size := by have := hb1.size; simp at this; omega
    have k1 := K0.out.trans (hb1.mono K0.out.size)
    go_wp2_with fail
    refine (Ht.out _).mono ?_; rintro e w2 ⟨rfl, rfl⟩
    go_wp2_with fail
    refine bodyPost_ret (v := .tuple #[plcV 0 0, .int .i64 2]) (by simp [results, Tryd.results36, go_sem, hc1]) rfl ⟨rfl, ?_⟩
    (repeat (first | exact Below.refl _ _ | assumption | apply Below.drew | apply below_drewL | apply below_drewP | (refine Below.alloc ?_ (by first | omega | (simp; done) | (simp; omega)) _) | (refine Below.setCell ?_ (by first | omega | (simp; done) | (simp; omega)) _)))
  have bt := inB_true.1 h2
  rw [h2] at ht
  have Ht := Lib.hid ht; clear ht
  rcases h3 : inB (r + 3 * (t - z)) 0 60 with _ | _
  · simp only [Bool.false_eq_true, if_false, if_true, ifS_6]
    rw [h3] at hn
    have Hn := Lib.hid hn; clear hn h2 h3
    go_enter Tryd.func36, Tryd.ntmps36
    go_wp2_with fail
    refine (Hp.out _).mono ?_; rintro e w1 ⟨rfl, hb1⟩
    obtain ⟨hc1, hf1⟩ := bcell hb1
    have hz1 : w.heap.size + 1 < w1.heap.size := by have := hb1.size; simp at this; omega
    have k1 := K0.out.trans (hb1.mono K0.out.size)
    go_wp2_with fail
    refine (Ht.out _).mono ?_; rintro e w2 ⟨rfl, rfl⟩
    go_wp2_with fail
    refine (Hn.out _).mono ?_; rintro e w3 ⟨rfl, rfl⟩
    go_wp2_with fail
    refine bodyPost_ret (v := .tuple #[plcV 0 0, .int .i64 6]) (by simp [results, Tryd.results36, go_sem, hc1]) rfl ⟨rfl, ?_⟩
    (repeat (first | exact Below.refl _ _ | assumption | apply Below.drew | apply below_drewL | apply below_drewP | (refine Below.alloc ?_ (by first | omega | (simp; done) | (simp; omega)) _) | (refine Below.setCell ?_ (by first | omega | (simp; done) | (simp; omega)) _)))
  · simp only [if_true, ifS_0]
    have bn := inB_true.1 h3
    rw [h3] at hn
    have Hn := Lib.hid hn; clear hn h2 h3
    go_enter Tryd.func36, Tryd.ntmps36
    go_wp2_with fail
    refine (Hp.out _).mono ?_; rintro e w1 ⟨rfl, hb1⟩
    obtain ⟨hc1, hf1⟩ := bcell hb1
    have hz1 : w.heap.size + 1 < w1.heap.size := by have := hb1.size; simp at this; omega
    have k1 := K0.out.trans (hb1.mono K0.out.size)
    go_wp2_with fail
    refine (Ht.out _).mono ?_; rintro e w2 ⟨rfl, rfl⟩
    go_wp2_with fail
    refine (Hn.out _).mono ?_; rintro e w3 ⟨rfl, rfl⟩
    go_wp2_with fail
    refine bodyPost_ret (v := .tuple #[plcV (r + 3 * (t - z)) t, .int .i64 0]) (by simp [results, Tryd.results36, go_sem, hc1]) rfl ⟨rfl, ?_⟩
    (repeat (first | exact Below.refl _ _ | assumption | apply Below.drew | apply below_drewL | apply below_drewP | (refine Below.alloc ?_ (by first | omega | (simp; done) | (simp; omega)) _) | (refine Below.setCell ?_ (by first | omega | (simp; done) | (simp; omega)) _)))

set_option maxHeartbeats 1000000 in
theorem samePlacing_any (s : Ers) (r z t : Int) (hr : -128 ≤ r) (hr' : r ≤ 127) (hz : -128 ≤ z) (hz' : z ≤ 127) (w : World) (hE : ErrEnv s w) :
    Calls Tryd.prog 68 #[plcV r z, .int .i64 t] w (CodedP s (plcV (ifS (smC r z t) (r + 3 * (t - z))) (ifS (smC r z t) t)) (smC r z t) w.heap.size w) := by
  have k0 : Below w.heap.size w ((w.alloc (.cells #[.int .i8 r, .int .i8 z] 37)).alloc (.cells #[.int .i8 0, .int .i8 0] 37)) := by (repeat (first | exact Below.refl _ _ | assumption | apply Below.drew | apply below_drewL | apply below_drewP | (refine Below.alloc ?_ (by first | omega | (simp; done) | (simp; omega)) _) | (refine Below.setCell ?_ (by first | omega | (simp; done) | (simp; omega)) _)))
  have K0 := Lib.hid k0; clear k0
  have hp := fun W => isPlacement_any r z hr hr' hz hz' W
  have ht := fun W => isZone_any t W
  have HE := Lib.hid hE; clear hE
  have ne := errNeP
  have nn := nilNeP
  unfold smC
  rcases h1 : plcB r z with _ | _
  · simp only [Bool.false_eq_true, if_false, ifS_1]
    rw [h1] at hp
    have Hp := Lib.hid hp; clear hp ht h1
    go_enter Tryd.func68, Tryd.ntmps68
    go_wp2_with fail
    refine (Hp.out _).mono ?_; rintro e w1 ⟨rfl, hb1⟩
    obtain ⟨hc1, hf1⟩ := bcell hb1
    have hz1 : w.heap.size + 1 < w1.heap.size := by have := hb1.size; simp at this; omega
    have k1 := K0.out.trans (hb1.mono K0.out.size)
    have ce := (HE.out.below k1 (Nat.le_refl _)).c_einvalid
    have lt_c := cell_lt2 ce
    have lt_e := cell_lt2 (HE.out).c_einvalid
    have ce0 := (HE.out.below K0.out (Nat.le_refl _)).c_einvalid
    have ceb := (HE.out).c_einvalid
    go_wp2_with fail
    go_region
    all_goals
      go_wp2
      refine bodyPost_ret (v := .tuple #[plcV 0 0, errV s.einvalid]) (by simp [results, Tryd.results68, go_sem, hc1]) rfl ⟨_, .einvalid, rfl, ?_⟩
      (repeat (first | exact Below.refl _ _ | assumption | apply Below.drew | apply below_drewL | apply below_drewP | (refine Below.alloc ?_ (by first | omega | (simp; done) | (simp; omega)) _) | (refine Below.setCell ?_ (by first | omega | (simp; done) | (simp; omega)) _)))
  have b := plcB_bd h1
  rw [h1] at hp
  have Hp := Lib.hid hp; clear hp h1
  rcases h2 : inB t 0 10 with _ | _
  · simp only [Bool.false_eq_true, if_false, if_true, ifS_2]
    rw [h2] at ht
    have Ht := Lib.hid ht; clear ht h2
    go_enter Tryd.func68, Tryd.ntmps68
    go_wp2_with fail
    refine (Hp.out _).mono ?_; rintro e w1 ⟨rfl, hb1⟩
    obtain ⟨hc1, hf1⟩ := bcell hb1
    have hz1 : w.heap.size + 1 < w1.heap.size := by have := hb1.size; simp at this; omega
    have k1 := K0.out.trans (hb1.mono K0.out.size)
    go_wp2_with fail
    refine (Ht.out _).mono ?_; rintro e w2 ⟨rfl, rfl⟩
    have ce := (HE.out.below k1 (Nat.le_refl _)).c_erange
    have lt_c := cell_lt2 ce
    have lt_e := cell_lt2 (HE.out).c_erange
    have ce0 := (HE.out.below K0.out (Nat.le_refl _)).c_erange
    have ceb := (HE.out).c_erange
    go_wp2_with fail
    go_region
    all_goals
      go_wp2
      refine bodyPost_ret (v := .tuple #[plcV 0 0, errV s.erange]) (by simp [results, Tryd.results68, go_sem, hc1]) rfl ⟨_, .erange, rfl, ?_⟩
      (repeat (first | exact Below.refl _ _ | assumption | apply Below.drew | apply below_drewL | apply below_drewP | (refine Below.alloc ?_ (by first | omega | (simp; done) | (simp; omega)) _) | (refine Below.setCell ?_ (by first | omega | (simp; done) | (simp; omega)) _)))
  have bt := inB_true.1 h2
  rw [h2] at ht
  have Ht := Lib.hid ht; clear ht
  rcases h3 : inB (r + 3 * (t - z)) 0 60 with _ | _
  · simp only [Bool.false_eq_true, if_false, if_true, ifS_6]
    have hq := fun W h => placeFor_any s (r + 3 * (t - z)) t W h
    rw [show plC (r + 3 * (t - z)) t = 2 by simp [plC, plcB, h3], ifS_2, ifS_2] at hq
    have Hq := Lib.hid hq; clear hq h2 h3
    go_enter Tryd.func68, Tryd.ntmps68
    go_wp2_with fail
    refine (Hp.out _).mono ?_; rintro e w1 ⟨rfl, hb1⟩
    obtain ⟨hc1, hf1⟩ := bcell hb1
    have hz1 : w.heap.size + 1 < w1.heap.size := by have := hb1.size; simp at this; omega
    have k1 := K0.out.trans (hb1.mono K0.out.size)
    go_wp2_with fail
    refine (Ht.out _).mono ?_; rintro e w2 ⟨rfl, rfl⟩
    go_wp2_with fail
    refine (Hq.out _ (HE.out.below k1 (Nat.le_refl _))).mono ?_; rintro e w3 ⟨v, hv, rfl, hb3⟩
    cases hv
    obtain ⟨hc3, hf3⟩ := bcell hb3
    have hz3 : w.heap.size + 1 < w3.heap.size := by have := hb3.size; omega
    have k3 := k1.trans (hb3.mono k1.size)
    have d0 : w1.cell? ⟨w.heap.size + 1, 0, none⟩ = some (.int .i8 0) := below_cellOf hb1 (by simp) (Nat.le_refl _)
    have d1 : w1.cell? ⟨w.heap.size + 1, 1, none⟩ = some (.int .i8 0) := below_cellOf hb1 (by simp) (Nat.le_refl _)
    have g0 := below_cellOf hb3 d0 (Nat.le_refl _)
    have g1 := below_cellOf hb3 d1 (Nat.le_refl _)
    clear d0 d1
    have ce := (HE.out.below k3 (Nat.le_refl _)).c_enotfound
    have lt_c := cell_lt2 ce
    have lt_e := cell_lt2 (HE.out).c_enotfound
    have ce0 := (HE.out.below K0.out (Nat.le_refl _)).c_enotfound
    have ceb := (HE.out).c_enotfound
    go_wp2_with fail
    go_region
    all_goals
      go_wp2
      refine bodyPost_ret (v := .tuple #[plcV 0 0, errV s.enotfound]) (by simp [results, Tryd.results68, go_sem, g0, g1, hz3]) rfl ⟨_, .enotfound, rfl, ?_⟩
      (repeat (first | exact Below.refl _ _ | assumption | apply Below.drew | apply below_drewL | apply below_drewP | (refine Below.alloc ?_ (by first | omega | (simp; done) | (simp; omega)) _) | (refine Below.setCell ?_ (by first | omega | (simp; done) | (simp; omega)) _)))
  · simp only [if_true, ifS_0]
    have bn := inB_true.1 h3
    have hq := fun W h => placeFor_any s (r + 3 * (t - z)) t W h
    rw [show plC (r + 3 * (t - z)) t = 0 by simp [plC, plcB, h2, h3], ifS_0, ifS_0] at hq
    have Hq := Lib.hid hq; clear hq h2 h3
    go_enter Tryd.func68, Tryd.ntmps68
    go_wp2_with fail
    refine (Hp.out _).mono ?_; rintro e w1 ⟨rfl, hb1⟩
    obtain ⟨hc1, hf1⟩ := bcell hb1
    have hz1 : w.heap.size + 1 < w1.heap.size := by have := hb1.size; simp at this; omega
    have k1 := K0.out.trans (hb1.mono K0.out.size)
    go_wp2_with fail
    refine (Ht.out _).mono ?_; rintro e w2 ⟨rfl, rfl⟩
    go_wp2_with fail
    refine (Hq.out _ (HE.out.below k1 (Nat.le_refl _))).mono ?_; rintro e w3 ⟨v, hv, rfl, hb3⟩
    cases hv
    obtain ⟨hc3, hf3⟩ := bcell hb3
    have hz3 : w.heap.size + 1 < w3.heap.size := by have := hb3.size; omega
    have k3 := k1.trans (hb3.mono k1.size)
    have d0 : w1.cell? ⟨w.heap.size + 1, 0, none⟩ = some (.int .i8 0) := below_cellOf hb1 (by simp) (Nat.le_refl _)
    have d1 : w1.cell? ⟨w.heap.size + 1, 1, none⟩ = some (.int .i8 0) := below_cellOf hb1 (by simp) (Nat.le_refl _)
    have g0 := below_cellOf hb3 d0 (Nat.le_refl _)
    have g1 := below_cellOf hb3 d1 (Nat.le_refl _)
    clear d0 d1
    go_wp2_with fail
    refine bodyPost_ret (v := .tuple #[plcV (r + 3 * (t - z)) t, .nilIface]) (by simp [results, Tryd.results68, go_sem, g0, g1, hz3]) rfl ⟨_, .ok, rfl, ?_⟩
    (repeat (first | exact Below.refl _ _ | assumption | apply Below.drew | apply below_drewL | apply below_drewP | (refine Below.alloc ?_ (by first | omega | (simp; done) | (simp; omega)) _) | (refine Below.setCell ?_ (by first | omega | (simp; done) | (simp; omega)) _)))

set_option maxHeartbeats 1000000 in
theorem SamePlacing_any (s : Ers) (r z t : Int) (hr : -128 ≤ r) (hr' : r ≤ 127) (hz : -128 ≤ z) (hz' : z ≤ 127) (w : World) (hE : ErrEnv s w) :
    Calls Tryd.prog 37 #[plcV r z, .int .i64 t] w fun e w' => e = .returned (.tuple #[plcV (ifS (smC r z t) (r + 3 * (t - z))) (ifS (smC r z t) t), .int .i64 (smC r z t)]) ∧ Below w.heap.size w w' := by
  have k0 : Below w.heap.size w ((w.alloc (.cells #[.int .i8 r, .int .i8 z] 37)).alloc (.cells #[.int .i8 0, .int .i8 0] 37)) := by (repeat (first | exact Below.refl _ _ | assumption | apply Below.drew | apply below_drewL | apply below_drewP | (refine Below.alloc ?_ (by first | omega | (simp; done) | (simp; omega)) _) | (refine Below.setCell ?_ (by first | omega | (simp; done) | (simp; omega)) _)))
  have hk := fun W h => samePlacing_any s r z t hr hr' hz hz' W h
  generalize ifS (smC r z t) (r + 3 * (t - z)) = X at *
  generalize ifS (smC r z t) t = Z at *
  generalize smC r z t = C at *
  have Hk := Lib.hid hk; clear hk
  have HE := Lib.hid hE; clear hE
  have K0 := Lib.hid k0; clear k0
  go_enter Tryd.func37, Tryd.ntmps37
  go_wp2_with fail
  refine (Hk.out _ (HE.out.below K0.out (Nat.le_refl _))).mono ?_; rintro e w1 ⟨v, hv, rfl, hb1⟩
  obtain ⟨hc1, hf1⟩ := bcell hb1
  have hz1 : w.heap.size + 1 < w1.heap.size := by have := hb1.size; simp at this; omega
  have k1 := K0.out.trans (hb1.mono K0.out.size)
  go_wp2_with fail
  refine (codedPlc_any hv _ _ _ (HE.out.below k1 (Nat.le_refl _))).mono ?_; rintro e w2 ⟨rfl, hb2⟩
  obtain ⟨hc2, hf2⟩ := bcell hb2
  have hz2 : w.heap.size + 1 < w2.heap.size := by have := hb2.size; omega
  have k2 := k1.trans (hb2.mono k1.size)
  go_wp2_with fail
  refine bodyPost_ret (v := .tuple #[plcV X Z, .int .i64 C]) (by simp [results, Tryd.results37, go_sem, hc2, hc1, hz1]) rfl ⟨rfl, ?_⟩
  (repeat (first | exact Below.refl _ _ | assumption | apply Below.drew | apply below_drewL | apply below_drewP | (refine Below.alloc ?_ (by first | omega | (simp; done) | (simp; omega)) _) | (refine Below.setCell ?_ (by first | omega | (simp; done) | (simp; omega)) _)))

end Go.Proofs.YtaanboedhabheaaDoor

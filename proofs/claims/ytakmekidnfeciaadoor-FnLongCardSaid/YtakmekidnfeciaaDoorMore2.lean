/-
  More light on a setting: the program's functions, for every setting and number. Condition: its variables hold their own errors.
-/
import Derived.Test.YtakmekidnfeciaaDoorMore
namespace Go.Proofs.YtakmekidnfeciaaDoor
open Go.RowKit

/-- What a function of the program's own gives back: a value, and an error that stands for a code. -/
def CodedV (s : Ers) (x : Value) (c : Int) (B : Nat) (w : World) (e : Ending) (w' : World) : Prop := ∃ v, IsCode s v c ∧ e = .returned (.tuple #[x, v]) ∧ Below B w w'

theorem cell_lt {w : World} {b o : Nat} {v : Value} (h : w.cell? ⟨b, o, none⟩ = some v) : b < w.heap.size := by
  rcases Nat.lt_or_ge b w.heap.size with h' | h'
  · exact h'
  · simp [World.cell?, Array.getElem?_eq_none h'] at h

set_option maxHeartbeats 400000 in
theorem settingOf_eq (x y z x' y' z' : Int) (hx : x = x') (hy : y = y') (hz : z = z') (bx : -128 ≤ x' ∧ x' ≤ 127) (bby : -128 ≤ y' ∧ y' ≤ 127) (bz : -128 ≤ z' ∧ z' ≤ 127) (w : World) :
    Calls Tryd.prog 105 #[.int .i64 x, .int .i64 y, .int .i64 z] w fun e w' => e = .returned (setV x' y' z') ∧ Below w.heap.size w w' := by
  subst hx; subst hy; subst hz
  go_enter Tryd.func105, Tryd.ntmps105
  go_wp2
  refine bodyPost_ret (v := setV x y z) (by simp [results, Tryd.results105, go_sem]) rfl ⟨rfl, ?_⟩
  repeat (first | exact Below.refl _ _ | assumption | apply Below.drew | apply below_drewN | (refine Below.alloc ?_ (by first | omega | (simp; done) | (simp; omega)) _) | (refine Below.setCell ?_ (by first | omega | (simp; done) | (simp; omega)) _))

set_option maxHeartbeats 1000000 in
theorem moreLight_any (s : Ers) (a b c t : Int) (ha : -128 ≤ a) (ha' : a ≤ 127) (hb : -128 ≤ b) (hb' : b ≤ 127) (hc : -128 ≤ c) (hc' : c ≤ 127) (w : World) (hE : ErrEnv s w) :
    Calls Tryd.prog 107 #[setV a b c, .int .i64 t] w (CodedV s (moreV a b c t) (moreC a b c t) w.heap.size w) := by
  have ce := hE.c_einvalid
  have lt_i := cell_lt ce
  rcases h1 : okS a b c with _ | _
  · obtain ⟨hC, hV⟩ := more_bad (t := t) h1
    rw [hC, hV]; clear hC hV
    go_enter Tryd.func107, Tryd.ntmps107
    go_wp2_with fail
    refine (implValid_any _ _ _ ha ha' hb hb' hc hc' _).mono ?_; rintro e w1 ⟨rfl, hb1⟩
    obtain ⟨hc1, hf1⟩ := bcell hb1
    have hz1 : w.heap.size + 1 < w1.heap.size := by have := hb1.size; simp at this; omega
    have k1 : Below w.heap.size w w1 := (((Below.refl _ _).alloc (Nat.le_refl _) _).alloc (by simp) _).trans (hb1.mono (by simp; omega))
    have ce1 := below_cellOf k1 ce (Nat.le_refl _)
    go_wp2_with fail
    go_region
    all_goals
      go_wp2
      refine bodyPost_ret (v := .tuple #[setV 0 0 0, errV s.einvalid]) (by simp [results, Tryd.results107, go_sem, hc1]) rfl ⟨_, .einvalid, rfl, ?_⟩
      repeat (first | exact Below.refl _ _ | assumption | apply Below.drew | apply below_drewN | (refine Below.alloc ?_ (by first | omega | (simp; done) | (simp; omega)) _) | (refine Below.setCell ?_ (by first | omega | (simp; done) | (simp; omega)) _))
  · have hok := okS_true.1 h1
    obtain ⟨⟨a0, a1⟩, ⟨b0, b1⟩, c0, c1⟩ := hok
    have cr := hE.c_erange
    have lt_r := cell_lt cr
    have cn := hE.c_enotfound
    have lt_n := cell_lt cn
    rcases h2 : inB t (-100) 100 with _ | _
    · obtain ⟨hC, hV⟩ := more_far h1 h2
      rw [hC, hV]; clear hC hV
      go_enter Tryd.func107, Tryd.ntmps107
      go_wp2_with fail
      refine (implValid_any _ _ _ ha ha' hb hb' hc hc' _).mono ?_; rintro e w1 ⟨rfl, hb1⟩
      obtain ⟨hc1, hf1⟩ := bcell hb1
      have hz1 : w.heap.size + 1 < w1.heap.size := by have := hb1.size; simp at this; omega
      have k1 : Below w.heap.size w w1 := (((Below.refl _ _).alloc (Nat.le_refl _) _).alloc (by simp) _).trans (hb1.mono (by simp; omega))
      have ce1 := below_cellOf k1 cr (Nat.le_refl _)
      go_wp2_with fail
      refine (inRange_any _ _ _ _).mono ?_; rintro e w2 ⟨rfl, rfl⟩
      go_wp2_with fail
      go_region
      all_goals
        go_wp2
        refine bodyPost_ret (v := .tuple #[setV 0 0 0, errV s.erange]) (by simp [results, Tryd.results107, go_sem, hc1]) rfl ⟨_, .erange, rfl, ?_⟩
        repeat (first | exact Below.refl _ _ | assumption | apply Below.drew | apply below_drewN | (refine Below.alloc ?_ (by first | omega | (simp; done) | (simp; omega)) _) | (refine Below.setCell ?_ (by first | omega | (simp; done) | (simp; omega)) _))
    · have bt := inB_true.1 h2
      have hS : moreS a t = max 0 (min 45 (a + t)) := rfl
      have hA : moreA a b t = b - (t - (moreS a t - a)) := rfl
      have HS := Lib.hid hS; clear hS
      have HA := Lib.hid hA; clear hA
      rcases h3 : inB (moreA a b t) 0 30 with _ | _
      · obtain ⟨hC, hV⟩ := more_no h1 h2 h3
        rw [hC, hV]; clear hC hV
        have hno := inB_false.1 h3
        have Hno := Lib.hid hno; clear hno h3
        have hcs : a + t < 0 ∨ (0 ≤ a + t ∧ a + t ≤ 45) ∨ 45 < a + t := by omega
        rcases hcs with hcs | hcs | hcs
        all_goals
          go_enter Tryd.func107, Tryd.ntmps107
          go_wp2_with fail
          refine (implValid_any _ _ _ ha ha' hb hb' hc hc' _).mono ?_; rintro e w1 ⟨rfl, hb1⟩
          obtain ⟨hc1, hf1⟩ := bcell hb1
          have hz1 : w.heap.size + 1 < w1.heap.size := by have := hb1.size; simp at this; omega
          have k1 : Below w.heap.size w w1 := (((Below.refl _ _).alloc (Nat.le_refl _) _).alloc (by simp) _).trans (hb1.mono (by simp; omega))
          have ce1 := below_cellOf k1 cn (Nat.le_refl _)
          go_wp2_with fail
          refine (inRange_any _ _ _ _).mono ?_; rintro e w2 ⟨rfl, rfl⟩
          go_wp2_with fail
          refine (inRange_no _ _ _ (by have := Hno.out; have := HS.out; have := HA.out; omega) _).mono ?_; rintro e w2 ⟨rfl, rfl⟩
          go_wp2_with fail
          go_region
          all_goals
            go_wp2
            refine bodyPost_ret (v := .tuple #[setV 0 0 0, errV s.enotfound]) (by simp [results, Tryd.results107, go_sem, hc1]) rfl ⟨_, .enotfound, rfl, ?_⟩
            repeat (first | exact Below.refl _ _ | assumption | apply Below.drew | apply below_drewN | (refine Below.alloc ?_ (by first | omega | (simp; done) | (simp; omega)) _) | (refine Below.setCell ?_ (by first | omega | (simp; done) | (simp; omega)) _))
      · obtain ⟨hC, hV⟩ := more_yes h1 h2 h3
        rw [hC, hV]; clear hC hV
        have hyes := inB_true.1 h3
        have bS := moreS_bd a t
        have hcs : a + t < 0 ∨ (0 ≤ a + t ∧ a + t ≤ 45) ∨ 45 < a + t := by omega
        rcases hcs with hcs | hcs | hcs
        all_goals
          go_enter Tryd.func107, Tryd.ntmps107
          go_wp2_with fail
          refine (implValid_any _ _ _ ha ha' hb hb' hc hc' _).mono ?_; rintro e w1 ⟨rfl, hb1⟩
          obtain ⟨hc1, hf1⟩ := bcell hb1
          have hz1 : w.heap.size + 1 < w1.heap.size := by have := hb1.size; simp at this; omega
          have k1 : Below w.heap.size w w1 := (((Below.refl _ _).alloc (Nat.le_refl _) _).alloc (by simp) _).trans (hb1.mono (by simp; omega))
          go_wp2_with fail
          refine (inRange_any _ _ _ _).mono ?_; rintro e w2 ⟨rfl, rfl⟩
          go_wp2_with fail
          refine (inRange_yes _ _ _ (by have := HS.out; have := HA.out; omega) _).mono ?_; rintro e w2 ⟨rfl, rfl⟩
          go_wp2_with fail
          refine (settingOf_eq _ _ _ (moreS a t) (moreA a b t) c (by have := HS.out; omega) (by have := HS.out; have := HA.out; omega) rfl (by omega) (by omega) (by omega) _).mono ?_; rintro e w3 ⟨rfl, hb3⟩
          obtain ⟨hc3, hf3⟩ := bcell hb3
          have hz3 : w.heap.size + 1 < w3.heap.size := by have := hb3.size; omega
          have k3 : Below w.heap.size w w3 := k1.trans (hb3.mono k1.size)
          go_wp2_with fail
          refine bodyPost_ret (v := .tuple #[setV (moreS a t) (moreA a b t) c, .nilIface]) (by simp [results, Tryd.results107, go_sem, hc3, hc1, hz1]) rfl ⟨_, .ok, rfl, ?_⟩
          repeat (first | exact Below.refl _ _ | assumption | apply Below.drew | apply below_drewN | (refine Below.alloc ?_ (by first | omega | (simp; done) | (simp; omega)) _) | (refine Below.setCell ?_ (by first | omega | (simp; done) | (simp; omega)) _))

/-! ### THE VALUE OF A SETTING -/
def valC (a b c : Int) : Int := if okS a b c = true then 0 else 1
def valR (a b c : Int) : Int := if okS a b c = true then a - b + c else 0

end Go.Proofs.YtakmekidnfeciaaDoor

/-
  More light on a setting: what the program's and the reference's functions return, for every setting and number. Condition of the program's: its variables hold their own errors.
-/
import Derived.Test.YtakmekidnfeciaaDoorSets
import Derived.Test.YtakmekidnfeciaaDoorErrs
import Derived.Test.YtakmekidnfeciaaDoorNum
import Derived.StillTailTactics
import Derived.Deep.RegionWith
namespace Go.Proofs.YtakmekidnfeciaaDoor
open Go.RowKit

theorem ErrEnv.drew {s : Ers} {w : World} (h : ErrEnv s w) : ErrEnv s w.drew := h.below (B := w.heap.size) ((Below.refl _ _).drew) (Nat.le_refl _)
theorem ErrEnv.setCell {s : Ers} {w w0 : World} (h : ErrEnv s w0) (hb : Below w0.heap.size w0 w) {p : Addr} (hp : w0.heap.size ≤ p.block) (u : Value) : ErrEnv s (w.setCell p u) := h.below (hb.setCell hp u) (Nat.le_refl _)

set_option maxHeartbeats 1000000 in
theorem codedSet_any {s : Ers} {v : Value} {c : Int} (h : IsCode s v c) (x y z : Int) (w : World) (hE : ErrEnv s w) :
    Calls Tryd.prog 81 #[setV x y z, v] w fun e w' => e = .returned (.tuple #[setV x y z, .int .i64 c]) ∧ Below w.heap.size w w' := by
  go_enter Tryd.func81, Tryd.ntmps81
  have hk : ∀ W, Below w.heap.size w W → Calls Tryd.prog 95 #[v] W fun e w' => e = .returned (.int .i64 c) ∧ W = w' := fun W hb => codeOf_any h W (hE.below hb (Nat.le_refl _))
  have Hk := Lib.hid hk; clear hk
  go_wp2_with fail
  go_region_with (go_at_call 95; refine (Hk.out _ ?_).mono ?_; (repeat (first | exact Below.refl _ _ | apply Below.drew | (refine Below.alloc ?_ (by simp) _) | (refine Below.setCell ?_ (by simp) _))); rintro e w' ⟨rfl, rfl⟩)
  all_goals
    go_wp2
    refine bodyPost_ret (v := .tuple #[setV x y z, .int .i64 c]) (by simp [results, Tryd.results81, go_sem]) rfl ⟨rfl, ?_⟩
    repeat (first | exact Below.refl _ _ | apply Below.drew | (refine Below.alloc ?_ (by simp) _) | (refine Below.setCell ?_ (by simp) _))

/-! ### MORE LIGHT -/
def moreS (a t : Int) : Int := max 0 (min 45 (a + t))
def moreA (a b t : Int) : Int := b - (t - (moreS a t - a))
theorem moreS_bd (a t : Int) : 0 ≤ moreS a t ∧ moreS a t ≤ 45 := by unfold moreS; omega

def moreB (a b t : Int) : Bool := inB (moreA a b t) 0 30
theorem moreB_true {a b t : Int} : moreB a b t = true ↔ 0 ≤ moreA a b t ∧ moreA a b t ≤ 30 := inB_true

set_option maxHeartbeats 1000000 in
theorem l01More_no (a b c t : Int) (ha : 0 ≤ a) (ha' : a ≤ 45) (hb : 0 ≤ b) (hb' : b ≤ 30) (_hc : 0 ≤ c) (_hc' : c ≤ 21) (ht : -100 ≤ t) (ht' : t ≤ 100) (h1 : inB (moreA a b t) 0 30 = false) (w : World) :
    Calls Tryd.prog 94 #[setV a b c, .int .i64 t] w fun e w' => e = .returned (.tuple #[setV 0 0 0, .bool false]) ∧ Below w.heap.size w w' := by
  have bS := moreS_bd a t
  rw [moreA] at h1
  have hmS : max 0 (min 45 (a + t)) = moreS a t := rfl
  generalize moreS a t = S at h1 hmS bS
  have HmS := Lib.hid hmS; clear hmS
  go_enter Tryd.func94, Tryd.ntmps94
  go_wp2_with fail
  refine (minI_any _ _ _).mono ?_; rintro e w1 ⟨rfl, rfl⟩
  go_wp2_with fail
  refine (maxI_any _ _ _).mono ?_; rintro e w1 ⟨rfl, rfl⟩
  rw [HmS.out]
  go_wp2_with (go_at_call 59; refine (l00In_any _ _ _ _).mono ?_; rintro e w' ⟨rfl, rfl⟩)
  refine bodyPost_ret (v := .tuple #[setV 0 0 0, .bool false]) (by simp [results, Tryd.results94, go_sem]) rfl ⟨rfl, ?_⟩
  repeat (first | exact Below.refl _ _ | apply Below.drew | apply below_drewN | (refine Below.alloc ?_ (by first | omega | (simp; done) | (simp; omega)) _) | (refine Below.setCell ?_ (by first | omega | (simp; done) | (simp; omega)) _))

set_option maxHeartbeats 1000000 in
theorem l01More_yes (a b c t : Int) (ha : 0 ≤ a) (ha' : a ≤ 45) (hb : 0 ≤ b) (hb' : b ≤ 30) (_hc : 0 ≤ c) (_hc' : c ≤ 21) (ht : -100 ≤ t) (ht' : t ≤ 100) (h1 : inB (moreA a b t) 0 30 = true) (w : World) :
    Calls Tryd.prog 94 #[setV a b c, .int .i64 t] w fun e w' => e = .returned (.tuple #[setV (moreS a t) (moreA a b t) c, .bool true]) ∧ Below w.heap.size w w' := by
  have bS := moreS_bd a t
  have bA := inB_true.1 h1
  rw [moreA] at h1 bA ⊢
  have hmS : max 0 (min 45 (a + t)) = moreS a t := rfl
  generalize moreS a t = S at h1 hmS bS bA ⊢
  have HmS := Lib.hid hmS; clear hmS
  go_enter Tryd.func94, Tryd.ntmps94
  go_wp2_with fail
  refine (minI_any _ _ _).mono ?_; rintro e w1 ⟨rfl, rfl⟩
  go_wp2_with fail
  refine (maxI_any _ _ _).mono ?_; rintro e w1 ⟨rfl, rfl⟩
  rw [HmS.out]
  go_wp2_with (go_at_call 59; refine (l00In_any _ _ _ _).mono ?_; rintro e w' ⟨rfl, rfl⟩)
  refine bodyPost_ret (v := .tuple #[setV S (b - (t - (S - a))) c, .bool true]) (by simp [results, Tryd.results94, go_sem]) rfl ⟨rfl, ?_⟩
  repeat (first | exact Below.refl _ _ | apply Below.drew | apply below_drewN | (refine Below.alloc ?_ (by first | omega | (simp; done) | (simp; omega)) _) | (refine Below.setCell ?_ (by first | omega | (simp; done) | (simp; omega)) _))

/-- The code of more light, and the setting. -/
def moreC (a b c t : Int) : Int := if okS a b c = true then (if inB t (-100) 100 = true then (if inB (moreA a b t) 0 30 = true then 0 else 6) else 2) else 1
def moreV (a b c t : Int) : Value := if moreC a b c t = 0 then setV (moreS a t) (moreA a b t) c else setV 0 0 0
theorem more_bad {a b c t : Int} (h : okS a b c = false) : moreC a b c t = 1 ∧ moreV a b c t = setV 0 0 0 := by
  have h1 : moreC a b c t = 1 := by simp [moreC, h]
  exact ⟨h1, by simp [moreV, h1]⟩
theorem more_far {a b c t : Int} (h : okS a b c = true) (h2 : inB t (-100) 100 = false) : moreC a b c t = 2 ∧ moreV a b c t = setV 0 0 0 := by
  have h1 : moreC a b c t = 2 := by simp [moreC, h, h2]
  exact ⟨h1, by simp [moreV, h1]⟩
theorem more_no {a b c t : Int} (h : okS a b c = true) (h2 : inB t (-100) 100 = true) (h3 : inB (moreA a b t) 0 30 = false) : moreC a b c t = 6 ∧ moreV a b c t = setV 0 0 0 := by
  have h1 : moreC a b c t = 6 := by simp [moreC, h, h2, h3]
  exact ⟨h1, by simp [moreV, h1]⟩
theorem more_yes {a b c t : Int} (h : okS a b c = true) (h2 : inB t (-100) 100 = true) (h3 : inB (moreA a b t) 0 30 = true) : moreC a b c t = 0 ∧ moreV a b c t = setV (moreS a t) (moreA a b t) c := by
  have h1 : moreC a b c t = 0 := by simp [moreC, h, h2, h3]
  exact ⟨h1, by simp [moreV, h1]⟩

set_option maxHeartbeats 1000000 in
theorem specMoreLight_any (a b c t : Int) (ha : -128 ≤ a) (ha' : a ≤ 127) (hb : -128 ≤ b) (hb' : b ≤ 127) (hc : -128 ≤ c) (hc' : c ≤ 127) (w : World) :
    Calls Tryd.prog 52 #[setV a b c, .int .i64 t] w fun e w' => e = .returned (.tuple #[moreV a b c t, .int .i64 (moreC a b c t)]) ∧ Below w.heap.size w w' := by
  rcases h1 : okS a b c with _ | _
  · obtain ⟨hC, hV⟩ := more_bad (t := t) h1
    rw [hC, hV]; clear hC hV
    go_enter Tryd.func52, Tryd.ntmps52
    go_wp2_with fail
    refine (l01Ok_any _ _ _ ha ha' hb hb' hc hc' _).mono ?_; rintro e w1 ⟨rfl, hb1⟩
    obtain ⟨hc1, hf1⟩ := bcell hb1
    have hz1 : w.heap.size + 1 < w1.heap.size := by have := hb1.size; simp at this; omega
    go_wp2_with fail
    refine bodyPost_ret (v := .tuple #[setV 0 0 0, .int .i64 1]) (by simp [results, Tryd.results52, go_sem, hc1]) rfl ⟨rfl, ?_⟩
    have k1 : Below w.heap.size w w1 := (((Below.refl _ _).alloc (Nat.le_refl _) _).alloc (by simp) _).trans (hb1.mono (by simp; omega))
    repeat (first | exact Below.refl _ _ | assumption | apply Below.drew | apply below_drewN | (refine Below.alloc ?_ (by first | omega | (simp; done) | (simp; omega)) _) | (refine Below.setCell ?_ (by first | omega | (simp; done) | (simp; omega)) _))
  · have hok := okS_true.1 h1
    obtain ⟨⟨a0, a1⟩, ⟨b0, b1⟩, c0, c1⟩ := hok
    rcases h2 : inB t (-100) 100 with _ | _
    · obtain ⟨hC, hV⟩ := more_far h1 h2
      rw [hC, hV]; clear hC hV
      go_enter Tryd.func52, Tryd.ntmps52
      go_wp2_with fail
      refine (l01Ok_any _ _ _ ha ha' hb hb' hc hc' _).mono ?_; rintro e w1 ⟨rfl, hb1⟩
      obtain ⟨hc1, hf1⟩ := bcell hb1
      have hz1 : w.heap.size + 1 < w1.heap.size := by have := hb1.size; simp at this; omega
      go_wp2_with fail
      refine (l00In_any _ _ _ _).mono ?_; rintro e w2 ⟨rfl, rfl⟩
      go_wp2_with fail
      refine bodyPost_ret (v := .tuple #[setV 0 0 0, .int .i64 2]) (by simp [results, Tryd.results52, go_sem, hc1]) rfl ⟨rfl, ?_⟩
      have k1 : Below w.heap.size w w1 := (((Below.refl _ _).alloc (Nat.le_refl _) _).alloc (by simp) _).trans (hb1.mono (by simp; omega))
      repeat (first | exact Below.refl _ _ | assumption | apply Below.drew | apply below_drewN | (refine Below.alloc ?_ (by first | omega | (simp; done) | (simp; omega)) _) | (refine Below.setCell ?_ (by first | omega | (simp; done) | (simp; omega)) _))
    · have bt := inB_true.1 h2
      rcases h3 : inB (moreA a b t) 0 30 with _ | _
      · obtain ⟨hC, hV⟩ := more_no h1 h2 h3
        rw [hC, hV]; clear hC hV
        go_enter Tryd.func52, Tryd.ntmps52
        go_wp2_with fail
        refine (l01Ok_any _ _ _ ha ha' hb hb' hc hc' _).mono ?_; rintro e w1 ⟨rfl, hb1⟩
        obtain ⟨hc1, hf1⟩ := bcell hb1
        have hz1 : w.heap.size + 1 < w1.heap.size := by have := hb1.size; simp at this; omega
        go_wp2_with fail
        refine (l00In_any _ _ _ _).mono ?_; rintro e w2 ⟨rfl, rfl⟩
        go_wp2_with fail
        refine (l01More_no _ _ _ _ a0 a1 b0 b1 c0 c1 bt.1 bt.2 h3 _).mono ?_; rintro e w3 ⟨rfl, hb3⟩
        obtain ⟨hc3, hf3⟩ := bcell hb3
        have hz3 : w.heap.size + 1 < w3.heap.size := by have := hb3.size; omega
        go_wp2_with fail
        refine bodyPost_ret (v := .tuple #[setV 0 0 0, .int .i64 6]) (by simp [results, Tryd.results52, go_sem, hc3, hz3, hc1, hz1]) rfl ⟨rfl, ?_⟩
        have k1 : Below w.heap.size w w1 := (((Below.refl _ _).alloc (Nat.le_refl _) _).alloc (by simp) _).trans (hb1.mono (by simp; omega))
        have k3 : Below w.heap.size w w3 := k1.trans (hb3.mono k1.size)
        repeat (first | exact Below.refl _ _ | assumption | apply Below.drew | apply below_drewN | (refine Below.alloc ?_ (by first | omega | (simp; done) | (simp; omega)) _) | (refine Below.setCell ?_ (by first | omega | (simp; done) | (simp; omega)) _))
      · obtain ⟨hC, hV⟩ := more_yes h1 h2 h3
        rw [hC, hV]; clear hC hV
        go_enter Tryd.func52, Tryd.ntmps52
        go_wp2_with fail
        refine (l01Ok_any _ _ _ ha ha' hb hb' hc hc' _).mono ?_; rintro e w1 ⟨rfl, hb1⟩
        obtain ⟨hc1, hf1⟩ := bcell hb1
        have hz1 : w.heap.size + 1 < w1.heap.size := by have := hb1.size; simp at this; omega
        go_wp2_with fail
        refine (l00In_any _ _ _ _).mono ?_; rintro e w2 ⟨rfl, rfl⟩
        go_wp2_with fail
        refine (l01More_yes _ _ _ _ a0 a1 b0 b1 c0 c1 bt.1 bt.2 h3 _).mono ?_; rintro e w3 ⟨rfl, hb3⟩
        obtain ⟨hc3, hf3⟩ := bcell hb3
        have hz3 : w.heap.size + 1 < w3.heap.size := by have := hb3.size; omega
        go_wp2_with fail
        refine bodyPost_ret (v := .tuple #[setV (moreS a t) (moreA a b t) c, .int .i64 0]) (by simp [results, Tryd.results52, go_sem, hc3, hz3, hc1, hz1]) rfl ⟨rfl, ?_⟩
        have k1 : Below w.heap.size w w1 := (((Below.refl _ _).alloc (Nat.le_refl _) _).alloc (by simp) _).trans (hb1.mono (by simp; omega))
        have k3 : Below w.heap.size w w3 := k1.trans (hb3.mono k1.size)
        repeat (first | exact Below.refl _ _ | assumption | apply Below.drew | apply below_drewN | (refine Below.alloc ?_ (by first | omega | (simp; done) | (simp; omega)) _) | (refine Below.setCell ?_ (by first | omega | (simp; done) | (simp; omega)) _))
end Go.Proofs.YtakmekidnfeciaaDoor

/-
  The corrected setting, by a table: what the program's and the reference's functions return, for every table of at most 1048576 entries and every setting. Condition of the program's: its variables hold their own errors.
-/
import Derived.Test.YtakmekidnfeciaaDoorExtra
import Derived.Test.YtakmekidnfeciaaDoorMore2
namespace Go.Proofs.YtakmekidnfeciaaDoor
open Go.RowKit

def corS (n : Nat) (fs es : Nat → Int) (a : Int) : Int := a + exA fs es a n
def corC (n : Nat) (fs es : Nat → Int) (a b c : Int) : Int := if validT n fs es = true then (if okS a b c = true then (if corS n fs es a ≤ 45 then 0 else 6) else 1) else 1
def corV (n : Nat) (fs es : Nat → Int) (a b c : Int) : Value := if corC n fs es a b c = 0 then setV (corS n fs es a) b c else setV 0 0 0
theorem cor_bad {n : Nat} {fs es : Nat → Int} {a b c : Int} (h : validT n fs es = false) : corC n fs es a b c = 1 ∧ corV n fs es a b c = setV 0 0 0 := by
  have h1 : corC n fs es a b c = 1 := by simp [corC, h]
  exact ⟨h1, by simp [corV, h1]⟩
theorem cor_off {n : Nat} {fs es : Nat → Int} {a b c : Int} (h : validT n fs es = true) (h2 : okS a b c = false) : corC n fs es a b c = 1 ∧ corV n fs es a b c = setV 0 0 0 := by
  have h1 : corC n fs es a b c = 1 := by simp [corC, h, h2]
  exact ⟨h1, by simp [corV, h1]⟩
theorem cor_no {n : Nat} {fs es : Nat → Int} {a b c : Int} (h : validT n fs es = true) (h2 : okS a b c = true) (h3 : ¬ corS n fs es a ≤ 45) : corC n fs es a b c = 6 ∧ corV n fs es a b c = setV 0 0 0 := by
  have h1 : corC n fs es a b c = 6 := by simp [corC, h, h2, h3]
  exact ⟨h1, by simp [corV, h1]⟩
theorem cor_yes {n : Nat} {fs es : Nat → Int} {a b c : Int} (h : validT n fs es = true) (h2 : okS a b c = true) (h3 : corS n fs es a ≤ 45) : corC n fs es a b c = 0 ∧ corV n fs es a b c = setV (corS n fs es a) b c := by
  have h1 : corC n fs es a b c = 0 := by simp [corC, h, h2, h3]
  exact ⟨h1, by simp [corV, h1]⟩
theorem corV_set (n : Nat) (fs es : Nat → Int) (a b c : Int) : ∃ x y z, corV n fs es a b c = setV x y z := by
  unfold corV
  split
  · exact ⟨_, _, _, rfl⟩
  · exact ⟨_, _, _, rfl⟩

set_option maxRecDepth 100000 in
set_option maxHeartbeats 1000000 in
theorem specCorrectedFor_any (g n cap : Nat) (fs es : Nat → Int) (a b c : Int) (hn : n ≤ 1048576) (hs : Small n fs es) (ha : -128 ≤ a) (ha' : a ≤ 127) (hb : -128 ≤ b) (hb' : b ≤ 127) (hc : -128 ≤ c) (hc' : c ≤ 127) (w : World) (hr : LongRow w g n fs es) :
    Calls Tryd.prog 45 #[.slice (some ⟨g, 0, none⟩) n cap, setV a b c] w fun e w' => e = .returned (.tuple #[corV n fs es a b c, .int .i64 (corC n fs es a b c)]) ∧ Below w.heap.size w w' := by
  have hlt := hr.lt
  have kk : ∀ o o2, LongRow ((w.alloc o).alloc o2) g n fs es := fun o o2 => hr.below (B := w.heap.size) (((Below.refl _ _).alloc (Nat.le_refl _) _).alloc (by simp) _) hlt
  rcases h1 : validT n fs es with _ | _
  · obtain ⟨hC, hV⟩ := cor_bad (a := a) (b := b) (c := c) h1
    rw [hC, hV]; clear hC hV
    go_enter Tryd.func45, Tryd.ntmps45
    go_wp2_with fail
    refine (l01Table_any _ _ _ fs es hn hs _ (kk _ _)).mono ?_; rintro e w1 ⟨rfl, rfl⟩
    go_wp2_with fail
    refine bodyPost_ret (v := .tuple #[setV 0 0 0, .int .i64 1]) (by simp [results, Tryd.results45, go_sem]) rfl ⟨rfl, ?_⟩
    repeat (first | exact Below.refl _ _ | assumption | apply Below.drew | apply below_drewN | (refine Below.alloc ?_ (by first | omega | (simp; done) | (simp; omega)) _) | (refine Below.setCell ?_ (by first | omega | (simp; done) | (simp; omega)) _))
  · rcases h2 : okS a b c with _ | _
    · obtain ⟨hC, hV⟩ := cor_off h1 h2
      rw [hC, hV]; clear hC hV
      go_enter Tryd.func45, Tryd.ntmps45
      go_wp2_with fail
      refine (l01Table_any _ _ _ fs es hn hs _ (kk _ _)).mono ?_; rintro e w1 ⟨rfl, rfl⟩
      go_wp2_with fail
      refine (l01Ok_any _ _ _ ha ha' hb hb' hc hc' _).mono ?_; rintro e w1 ⟨rfl, hb1⟩
      obtain ⟨hc1, hf1⟩ := bcell hb1
      have hz1 : w.heap.size + 1 < w1.heap.size := by have := hb1.size; simp at this; omega
      have hy1 : w.heap.size < w1.heap.size := by omega
      have k1 : Below w.heap.size w w1 := (((Below.refl _ _).alloc (Nat.le_refl _) _).alloc (by simp) _).trans (hb1.mono (by simp; omega))
      go_wp2_with fail
      refine bodyPost_ret (v := .tuple #[setV 0 0 0, .int .i64 1]) (by simp [results, Tryd.results45, go_sem, hc1]) rfl ⟨rfl, ?_⟩
      repeat (first | exact Below.refl _ _ | assumption | apply Below.drew | apply below_drewN | (refine Below.alloc ?_ (by first | omega | (simp; done) | (simp; omega)) _) | (refine Below.setCell ?_ (by first | omega | (simp; done) | (simp; omega)) _))
    · have hok := okS_true.1 h2
      obtain ⟨⟨a0, a1⟩, ⟨b0, b1⟩, c0, c1⟩ := hok
      have bS := exA_bd a (validT_tab h1) n (Nat.le_refl _)
      have hS : corS n fs es a = a + exA fs es a n := rfl
      have hm := fun W hW => l01Extra_any g n cap fs es a hn hs W hW
      generalize exA fs es a n = X at hm hS bS
      have Hm := Lib.hid hm; clear hm
      by_cases h3 : corS n fs es a ≤ 45
      · obtain ⟨hC, hV⟩ := cor_yes h1 h2 h3
        rw [hC, hV]; clear hC hV
        rw [hS] at h3 ⊢
        clear hS
        go_enter Tryd.func45, Tryd.ntmps45
        go_wp2_with fail
        refine (l01Table_any _ _ _ fs es hn hs _ (kk _ _)).mono ?_; rintro e w1 ⟨rfl, rfl⟩
        go_wp2_with fail
        refine (l01Ok_any _ _ _ ha ha' hb hb' hc hc' _).mono ?_; rintro e w1 ⟨rfl, hb1⟩
        obtain ⟨hc1, hf1⟩ := bcell hb1
        have hz1 : w.heap.size + 1 < w1.heap.size := by have := hb1.size; simp at this; omega
        have hy1 : w.heap.size < w1.heap.size := by omega
        have k1 : Below w.heap.size w w1 := (((Below.refl _ _).alloc (Nat.le_refl _) _).alloc (by simp) _).trans (hb1.mono (by simp; omega))
        have hr1 : ∀ W, Below w.heap.size w W → LongRow W g n fs es := fun W hW => hr.below hW hlt
        have Hr1 := Lib.hid hr1; clear hr1
        have hcc : w1.cell? ⟨w.heap.size, 0, none⟩ = some (.int .i8 a) := by simp [hc1, go_sem]
        have hset := fun v => World.cell?_setCell_same w1 ⟨w.heap.size, 0, none⟩ v hcc
        clear hcc
        have hwa : IntKind.i64.wrap a = a := IntWalk.i64_in _ (by omega)
        have hwx : IntKind.i64.wrap (a + X) = a + X := IntWalk.i64_in _ (by omega)
        go_wp2_with fail
        go_region_with (go_at_call 54; refine (Hm.out _ (Hr1.out _ (by repeat (first | exact Below.refl _ _ | assumption | apply Below.drew | apply below_drewN)))).mono ?_; rintro e w' ⟨rfl, rfl⟩)
        all_goals
          go_wp2
          refine bodyPost_ret (v := .tuple #[setV (a + X) b c, .int .i64 0]) (by simp [results, Tryd.results45, go_sem, hc1]) rfl ⟨rfl, ?_⟩
          repeat (first | exact Below.refl _ _ | assumption | apply Below.drew | apply below_drewN | (refine Below.alloc ?_ (by first | omega | (simp; done) | (simp; omega)) _) | (refine Below.setCell ?_ (by first | omega | (simp; done) | (simp; omega)) _))
      · obtain ⟨hC, hV⟩ := cor_no h1 h2 h3
        rw [hC, hV]; clear hC hV
        rw [hS] at h3
        clear hS
        go_enter Tryd.func45, Tryd.ntmps45
        go_wp2_with fail
        refine (l01Table_any _ _ _ fs es hn hs _ (kk _ _)).mono ?_; rintro e w1 ⟨rfl, rfl⟩
        go_wp2_with fail
        refine (l01Ok_any _ _ _ ha ha' hb hb' hc hc' _).mono ?_; rintro e w1 ⟨rfl, hb1⟩
        obtain ⟨hc1, hf1⟩ := bcell hb1
        have hz1 : w.heap.size + 1 < w1.heap.size := by have := hb1.size; simp at this; omega
        have hy1 : w.heap.size < w1.heap.size := by omega
        have k1 : Below w.heap.size w w1 := (((Below.refl _ _).alloc (Nat.le_refl _) _).alloc (by simp) _).trans (hb1.mono (by simp; omega))
        have hr1 : ∀ W, Below w.heap.size w W → LongRow W g n fs es := fun W hW => hr.below hW hlt
        have Hr1 := Lib.hid hr1; clear hr1
        have hcc : w1.cell? ⟨w.heap.size, 0, none⟩ = some (.int .i8 a) := by simp [hc1, go_sem]
        have hset := fun v => World.cell?_setCell_same w1 ⟨w.heap.size, 0, none⟩ v hcc
        clear hcc
        have hwa : IntKind.i64.wrap a = a := IntWalk.i64_in _ (by omega)
        have hwx : IntKind.i64.wrap (a + X) = a + X := IntWalk.i64_in _ (by omega)
        go_wp2_with fail
        go_region_with (go_at_call 54; refine (Hm.out _ (Hr1.out _ (by repeat (first | exact Below.refl _ _ | assumption | apply Below.drew | apply below_drewN)))).mono ?_; rintro e w' ⟨rfl, rfl⟩)
        all_goals
          go_wp2
          refine bodyPost_ret (v := .tuple #[setV 0 0 0, .int .i64 6]) (by simp [results, Tryd.results45, go_sem, hc1]) rfl ⟨rfl, ?_⟩
          repeat (first | exact Below.refl _ _ | assumption | apply Below.drew | apply below_drewN | (refine Below.alloc ?_ (by first | omega | (simp; done) | (simp; omega)) _) | (refine Below.setCell ?_ (by first | omega | (simp; done) | (simp; omega)) _))

set_option maxRecDepth 100000 in
set_option maxHeartbeats 1000000 in
theorem correctedFor_any (s : Ers) (g n cap : Nat) (fs es : Nat → Int) (a b c : Int) (hn : n ≤ 1048576) (hs : Small n fs es) (ha : -128 ≤ a) (ha' : a ≤ 127) (hb : -128 ≤ b) (hb' : b ≤ 127) (hc : -128 ≤ c) (hc' : c ≤ 127) (w : World) (hr : LongRow w g n fs es) (hE : ErrEnv s w) :
    Calls Tryd.prog 87 #[.slice (some ⟨g, 0, none⟩) n cap, setV a b c] w (CodedV s (corV n fs es a b c) (corC n fs es a b c) w.heap.size w) := by
  have hlt := hr.lt
  have ce := hE.c_einvalid
  have lt_i := cell_lt ce
  have kk : ∀ o o2, LongRow ((w.alloc o).alloc o2) g n fs es := fun o o2 => hr.below (B := w.heap.size) (((Below.refl _ _).alloc (Nat.le_refl _) _).alloc (by simp) _) hlt
  rcases h1 : validT n fs es with _ | _
  · obtain ⟨hC, hV⟩ := cor_bad (a := a) (b := b) (c := c) h1
    rw [hC, hV]; clear hC hV
    go_enter Tryd.func87, Tryd.ntmps87
    go_wp2_with fail
    refine (ValidTable_any _ _ _ fs es hn hs _ (kk _ _)).mono ?_; rintro e w1 ⟨rfl, hb1⟩
    obtain ⟨hc1, hf1⟩ := bcell hb1
    have hz1 : w.heap.size + 1 < w1.heap.size := by have := hb1.size; simp at this; omega
    have hy1 : w.heap.size < w1.heap.size := by omega
    have k1 : Below w.heap.size w w1 := (((Below.refl _ _).alloc (Nat.le_refl _) _).alloc (by simp) _).trans (hb1.mono (by simp; omega))
    have ce1 := below_cellOf k1 ce (Nat.le_refl _)
    go_wp2_with fail
    go_region
    all_goals
      go_wp2
      refine bodyPost_ret (v := .tuple #[setV 0 0 0, errV s.einvalid]) (by simp [results, Tryd.results87, go_sem, hc1]) rfl ⟨_, .einvalid, rfl, ?_⟩
      repeat (first | exact Below.refl _ _ | assumption | apply Below.drew | apply below_drewN | (refine Below.alloc ?_ (by first | omega | (simp; done) | (simp; omega)) _) | (refine Below.setCell ?_ (by first | omega | (simp; done) | (simp; omega)) _))
  · rcases h2 : okS a b c with _ | _
    · obtain ⟨hC, hV⟩ := cor_off h1 h2
      rw [hC, hV]; clear hC hV
      go_enter Tryd.func87, Tryd.ntmps87
      go_wp2_with fail
      refine (ValidTable_any _ _ _ fs es hn hs _ (kk _ _)).mono ?_; rintro e w1 ⟨rfl, hb1⟩
      obtain ⟨hc1, hf1⟩ := bcell hb1
      have hz1 : w.heap.size + 1 < w1.heap.size := by have := hb1.size; simp at this; omega
      have hy1 : w.heap.size < w1.heap.size := by omega
      have k1 : Below w.heap.size w w1 := (((Below.refl _ _).alloc (Nat.le_refl _) _).alloc (by simp) _).trans (hb1.mono (by simp; omega))
      go_wp2_with fail
      refine (implValid_any _ _ _ ha ha' hb hb' hc hc' _).mono ?_; rintro e w2 ⟨rfl, hb2⟩
      obtain ⟨hc2, hf2⟩ := bcell hb2
      have hz2 : w.heap.size + 1 < w2.heap.size := by have := hb2.size; omega
      have hy2 : w.heap.size < w2.heap.size := by omega
      have k2 : Below w.heap.size w w2 := k1.trans (hb2.mono k1.size)
      have ce1 := below_cellOf k2 ce (Nat.le_refl _)
      go_wp2_with fail
      go_region
      all_goals
        go_wp2
        refine bodyPost_ret (v := .tuple #[setV 0 0 0, errV s.einvalid]) (by simp [results, Tryd.results87, go_sem, hc1, hc2, hz1]) rfl ⟨_, .einvalid, rfl, ?_⟩
        repeat (first | exact Below.refl _ _ | assumption | apply Below.drew | apply below_drewN | (refine Below.alloc ?_ (by first | omega | (simp; done) | (simp; omega)) _) | (refine Below.setCell ?_ (by first | omega | (simp; done) | (simp; omega)) _))
    · have hok := okS_true.1 h2
      obtain ⟨⟨a0, a1⟩, ⟨b0, b1⟩, c0, c1⟩ := hok
      have cn := hE.c_enotfound
      have lt_n := cell_lt cn
      have bS := exA_bd a (validT_tab h1) n (Nat.le_refl _)
      have hS : corS n fs es a = a + exA fs es a n := rfl
      have hm := fun W hW => extraAt_any g n cap fs es a hn hs (validT_tab h1) W hW
      generalize exA fs es a n = X at hm hS bS
      have Hm := Lib.hid hm; clear hm
      by_cases h3 : corS n fs es a ≤ 45
      · obtain ⟨hC, hV⟩ := cor_yes h1 h2 h3
        rw [hC, hV]; clear hC hV
        rw [hS] at h3 ⊢
        clear hS
        go_enter Tryd.func87, Tryd.ntmps87
        go_wp2_with fail
        refine (ValidTable_any _ _ _ fs es hn hs _ (kk _ _)).mono ?_; rintro e w1 ⟨rfl, hb1⟩
        obtain ⟨hc1, hf1⟩ := bcell hb1
        have hz1 : w.heap.size + 1 < w1.heap.size := by have := hb1.size; simp at this; omega
        have hy1 : w.heap.size < w1.heap.size := by omega
        have k1 : Below w.heap.size w w1 := (((Below.refl _ _).alloc (Nat.le_refl _) _).alloc (by simp) _).trans (hb1.mono (by simp; omega))
        go_wp2_with fail
        refine (implValid_any _ _ _ ha ha' hb hb' hc hc' _).mono ?_; rintro e w2 ⟨rfl, hb2⟩
        obtain ⟨hc2, hf2⟩ := bcell hb2
        have hz2 : w.heap.size + 1 < w2.heap.size := by have := hb2.size; omega
        have hy2 : w.heap.size < w2.heap.size := by omega
        have k2 : Below w.heap.size w w2 := k1.trans (hb2.mono k1.size)
        go_wp2_with fail
        refine (Hm.out _ (hr.below k2 hlt)).mono ?_; rintro e w3 ⟨rfl, hb3⟩
        obtain ⟨hc3, hf3⟩ := bcell hb3
        have hz3 : w.heap.size + 1 < w3.heap.size := by have := hb3.size; omega
        have k3 : Below w.heap.size w w3 := k2.trans (hb3.mono k2.size)
        have ce3 := below_cellOf k3 cn (Nat.le_refl _)
        go_wp2_with fail
        refine (settingOf_eq _ _ _ (a + X) b c rfl rfl rfl (by omega) (by omega) (by omega) _).mono ?_; rintro e w4 ⟨rfl, hb4⟩
        obtain ⟨hc4, hf4⟩ := bcell hb4
        have hz4 : w.heap.size + 1 < w4.heap.size := by have := hb4.size; omega
        have k4 : Below w.heap.size w w4 := k3.trans (hb4.mono k3.size)
        go_wp2_with fail
        refine bodyPost_ret (v := .tuple #[setV (a + X) b c, .nilIface]) (by simp [results, Tryd.results87, go_sem, hc4, hc3, hz3, hc2, hz2, hc1, hz1]) rfl ⟨_, .ok, rfl, ?_⟩
        repeat (first | exact Below.refl _ _ | assumption | apply Below.drew | apply below_drewN | (refine Below.alloc ?_ (by first | omega | (simp; done) | (simp; omega)) _) | (refine Below.setCell ?_ (by first | omega | (simp; done) | (simp; omega)) _))
      · obtain ⟨hC, hV⟩ := cor_no h1 h2 h3
        rw [hC, hV]; clear hC hV
        rw [hS] at h3
        clear hS
        go_enter Tryd.func87, Tryd.ntmps87
        go_wp2_with fail
        refine (ValidTable_any _ _ _ fs es hn hs _ (kk _ _)).mono ?_; rintro e w1 ⟨rfl, hb1⟩
        obtain ⟨hc1, hf1⟩ := bcell hb1
        have hz1 : w.heap.size + 1 < w1.heap.size := by have := hb1.size; simp at this; omega
        have hy1 : w.heap.size < w1.heap.size := by omega
        have k1 : Below w.heap.size w w1 := (((Below.refl _ _).alloc (Nat.le_refl _) _).alloc (by simp) _).trans (hb1.mono (by simp; omega))
        go_wp2_with fail
        refine (implValid_any _ _ _ ha ha' hb hb' hc hc' _).mono ?_; rintro e w2 ⟨rfl, hb2⟩
        obtain ⟨hc2, hf2⟩ := bcell hb2
        have hz2 : w.heap.size + 1 < w2.heap.size := by have := hb2.size; omega
        have hy2 : w.heap.size < w2.heap.size := by omega
        have k2 : Below w.heap.size w w2 := k1.trans (hb2.mono k1.size)
        go_wp2_with fail
        refine (Hm.out _ (hr.below k2 hlt)).mono ?_; rintro e w3 ⟨rfl, hb3⟩
        obtain ⟨hc3, hf3⟩ := bcell hb3
        have hz3 : w.heap.size + 1 < w3.heap.size := by have := hb3.size; omega
        have k3 : Below w.heap.size w w3 := k2.trans (hb3.mono k2.size)
        have ce3 := below_cellOf k3 cn (Nat.le_refl _)
        go_wp2_with fail
        go_region
        all_goals
          go_wp2
          refine bodyPost_ret (v := .tuple #[setV 0 0 0, errV s.enotfound]) (by simp [results, Tryd.results87, go_sem, hc3, hc2, hz2, hc1, hz1]) rfl ⟨_, .enotfound, rfl, ?_⟩
          repeat (first | exact Below.refl _ _ | assumption | apply Below.drew | apply below_drewN | (refine Below.alloc ?_ (by first | omega | (simp; done) | (simp; omega)) _) | (refine Below.setCell ?_ (by first | omega | (simp; done) | (simp; omega)) _))

set_option maxRecDepth 100000 in
set_option maxHeartbeats 1000000 in
theorem CorrectedFor_any (s : Ers) (g n cap : Nat) (fs es : Nat → Int) (a b c : Int) (hn : n ≤ 1048576) (hs : Small n fs es) (ha : -128 ≤ a) (ha' : a ≤ 127) (hb : -128 ≤ b) (hb' : b ≤ 127) (hc : -128 ≤ c) (hc' : c ≤ 127) (w : World) (hr : LongRow w g n fs es) (hE : ErrEnv s w) :
    Calls Tryd.prog 44 #[.slice (some ⟨g, 0, none⟩) n cap, setV a b c] w fun e w' => e = .returned (.tuple #[corV n fs es a b c, .int .i64 (corC n fs es a b c)]) ∧ Below w.heap.size w w' := by
  have hlt := hr.lt
  obtain ⟨x, y, z, hv⟩ := corV_set n fs es a b c
  have hm := fun W hW hW2 => correctedFor_any s g n cap fs es a b c hn hs ha ha' hb hb' hc hc' W hW hW2
  rw [hv] at hm ⊢
  have Hm := Lib.hid hm; clear hm
  clear hv
  have k0 : ∀ o o2, Below w.heap.size w ((w.alloc o).alloc o2) := fun o o2 => ((Below.refl _ _).alloc (Nat.le_refl _) _).alloc (by simp) _
  go_enter Tryd.func44, Tryd.ntmps44
  go_wp2_with fail
  refine (Hm.out _ (hr.below (k0 _ _) hlt) (hE.below (k0 _ _) (Nat.le_refl _))).mono ?_; rintro e w1 ⟨v, hv, rfl, hb1⟩
  obtain ⟨hc1, hf1⟩ := bcell hb1
  have hz1 : w.heap.size + 1 < w1.heap.size := by have := hb1.size; simp at this; omega
  have hy1 : w.heap.size < w1.heap.size := by omega
  have k1 : Below w.heap.size w w1 := (((Below.refl _ _).alloc (Nat.le_refl _) _).alloc (by simp) _).trans (hb1.mono (by simp; omega))
  go_wp2_with fail
  refine (codedSet_any hv x y z _ (hE.below k1 (Nat.le_refl _))).mono ?_; rintro e w3 ⟨rfl, hb3⟩
  obtain ⟨hc3, hf3⟩ := bcell hb3
  have hz3 : w.heap.size + 1 < w3.heap.size := by have := hb3.size; omega
  have k3 : Below w.heap.size w w3 := k1.trans (hb3.mono k1.size)
  go_wp2_with fail
  refine bodyPost_ret (v := .tuple #[setV x y z, .int .i64 (corC n fs es a b c)]) (by simp [results, Tryd.results44, go_sem, hc3, hc1, hz1]) rfl ⟨rfl, ?_⟩
  repeat (first | exact Below.refl _ _ | assumption | apply Below.drew | apply below_drewN | (refine Below.alloc ?_ (by first | omega | (simp; done) | (simp; omega)) _) | (refine Below.setCell ?_ (by first | omega | (simp; done) | (simp; omega)) _))
end Go.Proofs.YtakmekidnfeciaaDoor

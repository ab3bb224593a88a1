/-
  Sheets: the laws' own copying and comparing of them, and what both sides' tests of them return. Condition: at most 1048576 frames of int16 numbers.
-/
import Derived.Test.YtkmpfbjenddhjaaDoorPrs
namespace Go.Proofs.YtkmpfbjenddhjaaDoor
open Go.RowKit

/-- Are the first n of these arrays prints? -/
def prsB (g : Nat → Nat → Int) (n : Nat) : Bool := (List.range n).all fun i => dnsB (g i)
theorem prsB_iff {g : Nat → Nat → Int} {n : Nat} : prsB g n = true ↔ ∀ i, i < n → dnsB (g i) = true := by simp [prsB]
theorem prsB_no {g : Nat → Nat → Int} {n i : Nat} (hi : i < n) (h : dnsB (g i) = false) : prsB g n = false := by
  rcases h' : prsB g n with _ | _
  · rfl
  · rw [prsB_iff.1 h' i hi] at h; cases h
/-- Is a sheet valid? -/
def shtB (X : Int) (n : Nat) (g : Nat → Nat → Int) : Bool := inB X 1 12 && (decide (n ≤ 12) && prsB g n)
theorem shtB_iff {X : Int} {n : Nat} {g : Nat → Nat → Int} : shtB X n g = true ↔ (1 ≤ X ∧ X ≤ 12) ∧ n ≤ 12 ∧ prsB g n = true := by simp [shtB, inB_true]

set_option maxRecDepth 100000 in
set_option maxHeartbeats 1000000 in
theorem toSheet_any (X : Int) (A : Option Addr) (n cap : Nat) (g : Nat → Nat → Int) (hn : n ≤ 1048576) (w : World) (hr : PrsIn w A n g) :
    Calls Tryd.prog 8 #[.agg #[.int .i8 X, .slice A n cap]] w fun e w' => ∃ b, e = .returned (.agg #[.int .i8 X, .slice (some ⟨b, 0, none⟩) n n]) ∧ w.heap.size ≤ b ∧ PrRow w' b n g ∧ Below w.heap.size w w' := by
  go_enter Tryd.func8, Tryd.ntmps8
  go_wp2_with fail
  refine (toPrintS_any A n cap g hn _ (hr.below (B := w.heap.size) ?_ (Nat.le_refl _))).mono ?_
  · (repeat (first | exact Below.refl _ _ | assumption | apply Below.drew | apply below_drewL | apply below_drewP | (refine Below.alloc ?_ (by first | omega | (simp; done) | (simp; omega)) _) | (refine Below.setCell ?_ (by first | omega | (simp; done) | (simp; omega)) _)))
  rintro e w2 ⟨rfl, hR, hb2⟩
  have hB2 : Below w.heap.size w w2 := Below.trans (by (repeat (first | exact Below.refl _ _ | assumption | apply Below.drew | apply below_drewL | apply below_drewP | (refine Below.alloc ?_ (by first | omega | (simp; done) | (simp; omega)) _) | (refine Below.setCell ?_ (by first | omega | (simp; done) | (simp; omega)) _)))) (hb2.mono (by first | (simp; done) | (simp; omega)))
  have c0 := hb2.cell (p := ⟨w.heap.size + 1 + 1, 0, none⟩) (by first | (simp; done) | (simp; omega))
  have c1 := hb2.cell (p := ⟨w.heap.size + 1 + 1, 1, none⟩) (by first | (simp; done) | (simp; omega))
  have f1 := hb2.frozen (p := ⟨w.heap.size + 1 + 1, 1, none⟩) (by first | (simp; done) | (simp; omega))
  have d0 := hb2.cell (p := ⟨w.heap.size + 1, 0, none⟩) (by first | (simp; done) | (simp; omega))
  have d1 := hb2.cell (p := ⟨w.heap.size + 1, 1, none⟩) (by first | (simp; done) | (simp; omega))
  have g0 := hb2.frozen (p := ⟨w.heap.size + 1, 0, none⟩) (by first | (simp; done) | (simp; omega))
  have g1 := hb2.frozen (p := ⟨w.heap.size + 1, 1, none⟩) (by first | (simp; done) | (simp; omega))
  simp [go_sem] at c0 c1 f1 d0 d1 g0 g1
  simp only [World.size_alloc] at hR
  clear hb2
  go_wp2_with fail
  refine bodyPost_ret (v := .agg #[.int .i8 X, .slice (some ⟨w.heap.size + 1 + 1 + 1, 0, none⟩) n n]) (by simp [results, Tryd.results8, go_sem, d0, d1]) rfl ⟨_, rfl, by omega, ?_, ?_⟩
  · exact ((hR.other (by show _ ≠ w.heap.size + 1 + 1; omega) _).other (by show _ ≠ w.heap.size + 1; omega) _).other (by show _ ≠ w.heap.size + 1; omega) _
  · exact ((hB2.setCell (by show _ ≤ w.heap.size + 1 + 1; omega) _).setCell (by show _ ≤ w.heap.size + 1; omega) _).setCell (by show _ ≤ w.heap.size + 1; omega) _

theorem szSheet_any (X : Int) (A : Option Addr) (n cap : Nat) (L : Int) (hL : 0 ≤ L) (hL' : L ≤ 1048576) (hn : n ≤ 9223372036854775807) (w : World) :
    Calls Tryd.prog 6 #[.agg #[.int .i8 X, .slice A n cap], .int .i64 L] w fun e w' => e = .returned (.int .i64 (if (n : Int) ≤ L then L - n else -1)) ∧ Below w.heap.size w w' := by
  have k0 := (Below.refl w.heap.size w).alloc (Nat.le_refl _) (.cells #[.int .i8 X, .slice A n cap] 25)
  by_cases h : (n : Int) ≤ L
  · rw [if_pos h]
    have hz := fun W => szPrintS_any A n cap L hL hL' hn W
    rw [if_pos h] at hz
    go_enter Tryd.func6, Tryd.ntmps6
    go_wp2_with (go_at_call 27; refine (hz _).mono ?_; rintro e w' ⟨rfl, rfl⟩)
    all_goals
      first
      | (exfalso; omega)
      | (go_ret; exact ⟨rfl, k0⟩)
  · rw [if_neg h]
    have hz := fun W => szPrintS_any A n cap L hL hL' hn W
    rw [if_neg h] at hz
    go_enter Tryd.func6, Tryd.ntmps6
    go_wp2_with (go_at_call 27; refine (hz _).mono ?_; rintro e w' ⟨rfl, rfl⟩)
    all_goals
      first
      | (exfalso; omega)
      | (go_ret; exact ⟨rfl, k0⟩)

set_option maxRecDepth 100000 in
set_option maxHeartbeats 1000000 in
theorem eqSheet_same (X : Int) (A A' : Option Addr) (n cap cap' : Nat) (g : Nat → Nat → Int) (hn : n ≤ 1048576) (w : World) (h1 : PrsIn w A n g) (h2 : PrsIn w A' n g) :
    Calls Tryd.prog 10 #[.agg #[.int .i8 X, .slice A n cap], .agg #[.int .i8 X, .slice A' n cap']] w fun e w' => e = .returned (.bool true) ∧ Below w.heap.size w w' := by
  go_enter Tryd.func10, Tryd.ntmps10
  go_wp2_with fail
  refine (eqPrintS_same A A' n cap cap' g hn _ (h1.below (B := w.heap.size) ?_ (Nat.le_refl _)) (h2.below (B := w.heap.size) ?_ (Nat.le_refl _))).mono ?_
  · (repeat (first | exact Below.refl _ _ | assumption | apply Below.drew | apply below_drewL | apply below_drewP | (refine Below.alloc ?_ (by first | omega | (simp; done) | (simp; omega)) _) | (refine Below.setCell ?_ (by first | omega | (simp; done) | (simp; omega)) _)))
  · (repeat (first | exact Below.refl _ _ | assumption | apply Below.drew | apply below_drewL | apply below_drewP | (refine Below.alloc ?_ (by first | omega | (simp; done) | (simp; omega)) _) | (refine Below.setCell ?_ (by first | omega | (simp; done) | (simp; omega)) _)))
  rintro e w2 ⟨rfl, hb2⟩
  have hB2 : Below w.heap.size w w2 := Below.trans (by (repeat (first | exact Below.refl _ _ | assumption | apply Below.drew | apply below_drewL | apply below_drewP | (refine Below.alloc ?_ (by first | omega | (simp; done) | (simp; omega)) _) | (refine Below.setCell ?_ (by first | omega | (simp; done) | (simp; omega)) _)))) (hb2.mono (by first | (simp; done) | (simp; omega)))
  go_wp2_with fail
  go_ret
  exact ⟨rfl, hB2⟩

set_option maxRecDepth 100000 in
set_option maxHeartbeats 1000000 in
theorem l03PrintAt_any (b o : Nat) (f : Nat → Int) (hf : S16 f) (w : World) (h : PartA w b o .i16 64 f) :
    Calls Tryd.prog 60 #[.pointer (some ⟨b, o, none⟩)] w fun e w' => e = .returned (.bool (dnsB f)) ∧ Below w.heap.size w w' := by
  have a2 := HasArr.zero w 57 (b := w.heap.size) rfl
  have a3 := a2.setRow .i16 f
  have kB := below_setRow ((Below.refl w.heap.size w).alloc (Nat.le_refl _) (.cells #[.int .i16 0, .int .i16 0, .int .i16 0, .int .i16 0, .int .i16 0, .int .i16 0, .int .i16 0, .int .i16 0, .int .i16 0, .int .i16 0, .int .i16 0, .int .i16 0, .int .i16 0, .int .i16 0, .int .i16 0, .int .i16 0, .int .i16 0, .int .i16 0, .int .i16 0, .int .i16 0, .int .i16 0, .int .i16 0, .int .i16 0, .int .i16 0, .int .i16 0, .int .i16 0, .int .i16 0, .int .i16 0, .int .i16 0, .int .i16 0, .int .i16 0, .int .i16 0, .int .i16 0, .int .i16 0, .int .i16 0, .int .i16 0, .int .i16 0, .int .i16 0, .int .i16 0, .int .i16 0, .int .i16 0, .int .i16 0, .int .i16 0, .int .i16 0, .int .i16 0, .int .i16 0, .int .i16 0, .int .i16 0, .int .i16 0, .int .i16 0, .int .i16 0, .int .i16 0, .int .i16 0, .int .i16 0, .int .i16 0, .int .i16 0, .int .i16 0, .int .i16 0, .int .i16 0, .int .i16 0, .int .i16 0, .int .i16 0, .int .i16 0, .int .i16 0] 57)) (b := w.heap.size) (by omega) (arrV .i16 64 f)
  have hd := l03Dense_any w.heap.size 57 f hf _ a3
  have Hd := Lib.hid hd; clear hd
  have KB := Lib.hid kB; clear kB
  clear a3 hf
  go_enter Tryd.func60, Tryd.ntmps60
  go_wp2_with (first | (refine wpList_load_part h _ _ rfl rfl rfl Tryd.underlying58 sizePrint ?_) | (refine wpList_store_arr a2 _ _ _ rfl rfl rfl rfl sizeA64 ?_) | (go_at_call 71; refine Hd.out.mono ?_; rintro e w' ⟨rfl, rfl⟩))
  go_ret
  exact ⟨rfl, KB.out⟩

set_option maxRecDepth 100000 in
set_option maxHeartbeats 1000000 in
theorem l07Ok_any (b : Nat) (X : Int) (A : Option Addr) (n cap : Nat) (g : Nat → Nat → Int) (hn : n ≤ 1048576) (hX : -128 ≤ X ∧ X ≤ 127) (hs : ∀ i, i < n → S16 (g i)) (w : World)
    (c0 : w.cell? ⟨b, 0, none⟩ = some (.int .i8 X)) (c1 : w.cell? ⟨b, 1, none⟩ = some (.slice A n cap)) (hr : PrsIn w A n g) :
    Calls Tryd.prog 42 #[.pointer (some ⟨b, 0, none⟩)] w fun e w' => e = .returned (.bool (shtB X n g)) ∧ Below w.heap.size w w' := by
  have C0 := Lib.hid c0
  go_enter Tryd.func42, Tryd.ntmps42
  go_wp2_with fail
  go_loopw [3] (fun i wr => ∃ k : Nat, k ≤ n ∧ i = .int .i64 k ∧ (∀ j, j < k → dnsB (g j) = true) ∧ Below w.heap.size w wr) (fun i _ => n - (intOf i).toNat)
  case atStart => exact ⟨0, Nat.zero_le _, rfl, fun j hj => by omega, Below.refl _ _⟩
  case round =>
    obtain ⟨k, hk, rfl, hj, hB⟩ := hrel
    have HJ := Lib.hid hj; clear hj
    have e0 := below_cellOf hB c0 (Nat.le_refl _)
    have e1 := below_cellOf hB c1 (Nat.le_refl _)
    clear c0 c1
    by_cases hkn : k < n
    · have hs1 := hs k hkn
      have Hs := Lib.hid hs; clear hs
      rcases hr with h0 | ⟨b', o, rfl, hlt, hc⟩
      · exfalso; omega
      have q0 := (hc k hkn).below hB hlt
      clear hc
      have hd := l03PrintAt_any b' (o + k * 64) (g k) hs1 wr q0
      rcases hv : dnsB (g k) with _ | _
      · have hz : shtB X n g = false := by
          simp [shtB, prsB_no hkn hv]
        rw [hv] at hd
        have Hd := Lib.hid hd; clear hd q0 hs1
        have Hz := Lib.hid hz; clear hz hv
        go_wp2_with fail
        refine Hd.out.mono ?_; rintro e w2 ⟨rfl, hb2⟩
        have hB2 := hB.trans (hb2.mono hB.size)
        go_wp2_with fail
        go_ret
        exact ⟨ret_bool Hz.out.symm, hB2⟩
      · rw [hv] at hd
        have Hd := Lib.hid hd; clear hd q0 hs1
        have HV := Lib.hid hv; clear hv
        go_wp2_with fail
        refine Hd.out.mono ?_; rintro e w2 ⟨rfl, hb2⟩
        have hB2 := hB.trans (hb2.mono hB.size)
        clear hb2
        go_wp2_with fail
        go_roundw
        case rel => exact ⟨k + 1, by omega, by go_num, fun j hj => by
          by_cases e : j = k
          · subst e; exact HV.out
          · exact HJ.out j (by omega), hB2⟩
        case measure => simp [intOf]; omega
    · obtain rfl : k = n := by omega
      have hp : prsB g k = true := prsB_iff.2 HJ.out
      have hz : shtB X k g = (inB X 1 12 && decide (k ≤ 12)) := by simp [shtB, hp]
      have Hz := Lib.hid hz
      clear hz hp hs
      have hq := fun W => l00In_any X 1 12 W
      rcases hv : inB X 1 12 with _ | _
      all_goals
        rw [hv] at hq
        have Hq := Lib.hid hq; clear hq
        have HV := Lib.hid hv; clear hv
        by_cases h12 : (k : Int) ≤ 12
        all_goals
          go_wp2_with (go_at_call 51; refine (Hq.out _).mono ?_; rintro e w' ⟨rfl, rfl⟩)
          go_ret
          exact ⟨ret_bool (by rw [Hz.out, HV.out]; simp; try omega), hB⟩

set_option maxRecDepth 100000 in
set_option maxHeartbeats 1000000 in
theorem arePrints_any (A : Option Addr) (n cap : Nat) (g : Nat → Nat → Int) (hn : n ≤ 1048576) (w : World) (hr : PrsIn w A n g) :
    Calls Tryd.prog 44 #[.slice A n cap] w fun e w' => e = .returned (.bool (prsB g n)) ∧ Below w.heap.size w w' := by
  go_enter Tryd.func44, Tryd.ntmps44
  go_wp2_with fail
  go_loopw [7] (fun i wr => ∃ k : Nat, k ≤ n ∧ i = .int .i64 k ∧ (∀ j, j < k → dnsB (g j) = true) ∧ Below w.heap.size w wr) (fun i _ => n - (intOf i).toNat)
  case atStart => exact ⟨0, Nat.zero_le _, rfl, fun j hj => by omega, Below.refl _ _⟩
  case round =>
    obtain ⟨k, hk, rfl, hj, hB⟩ := hrel
    have HJ := Lib.hid hj; clear hj
    by_cases hkn : k < n
    · rcases hr with h0 | ⟨b', o, rfl, hlt, hc⟩
      · exfalso; omega
      have q0 := (hc k hkn).below hB hlt
      clear hc
      have a2 := HasArr.zero wr 58 (b := wr.heap.size) rfl
      have a3 := a2.setRow .i16 (g k)
      have hd := fun W => ValidPrint_any (g k) W
      have kB := below_setRow (hB.alloc hB.size (.cells #[.int .i16 0, .int .i16 0, .int .i16 0, .int .i16 0, .int .i16 0, .int .i16 0, .int .i16 0, .int .i16 0, .int .i16 0, .int .i16 0, .int .i16 0, .int .i16 0, .int .i16 0, .int .i16 0, .int .i16 0, .int .i16 0, .int .i16 0, .int .i16 0, .int .i16 0, .int .i16 0, .int .i16 0, .int .i16 0, .int .i16 0, .int .i16 0, .int .i16 0, .int .i16 0, .int .i16 0, .int .i16 0, .int .i16 0, .int .i16 0, .int .i16 0, .int .i16 0, .int .i16 0, .int .i16 0, .int .i16 0, .int .i16 0, .int .i16 0, .int .i16 0, .int .i16 0, .int .i16 0, .int .i16 0, .int .i16 0, .int .i16 0, .int .i16 0, .int .i16 0, .int .i16 0, .int .i16 0, .int .i16 0, .int .i16 0, .int .i16 0, .int .i16 0, .int .i16 0, .int .i16 0, .int .i16 0, .int .i16 0, .int .i16 0, .int .i16 0, .int .i16 0, .int .i16 0, .int .i16 0, .int .i16 0, .int .i16 0, .int .i16 0, .int .i16 0] 58)) (b := wr.heap.size) hB.size (arrV .i16 64 (g k))
      have KB := Lib.hid kB; clear kB hB
      rcases hv : dnsB (g k) with _ | _
      · have hz := prsB_no hkn hv
        rw [hv] at hd
        have Hd := Lib.hid hd; clear hd
        have Hz := Lib.hid hz; clear hz hv
        go_wp2_with (first | (refine wpList_load_part q0 _ _ rfl rfl rfl Tryd.underlying58 sizePrint ?_) | (refine wpList_store_arr a2 _ _ _ rfl rfl rfl rfl sizePrint ?_) | (refine wpList_load_arr a3 _ _ rfl rfl rfl Tryd.underlying58 sizePrint ?_))
        refine (Hd.out _).mono ?_; rintro e w2 ⟨rfl, hb2⟩
        have hB2 := KB.out.trans (hb2.mono KB.out.size)
        clear hb2 a2 a3 q0
        go_wp2_with fail
        go_ret
        exact ⟨ret_bool Hz.out.symm, hB2⟩
      · rw [hv] at hd
        have Hd := Lib.hid hd; clear hd
        have HV := Lib.hid hv; clear hv
        go_wp2_with (first | (refine wpList_load_part q0 _ _ rfl rfl rfl Tryd.underlying58 sizePrint ?_) | (refine wpList_store_arr a2 _ _ _ rfl rfl rfl rfl sizePrint ?_) | (refine wpList_load_arr a3 _ _ rfl rfl rfl Tryd.underlying58 sizePrint ?_))
        refine (Hd.out _).mono ?_; rintro e w2 ⟨rfl, hb2⟩
        have hB2 := KB.out.trans (hb2.mono KB.out.size)
        clear hb2 a2 a3 q0
        go_wp2_with fail
        go_roundw
        case rel => exact ⟨k + 1, by omega, by go_num, fun j hj => by
          by_cases e : j = k
          · subst e; exact HV.out
          · exact HJ.out j (by omega), hB2⟩
        case measure => simp [intOf]; omega
    · obtain rfl : k = n := by omega
      have hz : prsB g k = true := prsB_iff.2 HJ.out
      have Hz := Lib.hid hz; clear hz
      go_wp2_with fail
      go_ret
      exact ⟨ret_bool Hz.out.symm, hB⟩

set_option maxRecDepth 100000 in
set_option maxHeartbeats 1000000 in
theorem ValidSheet_any (X : Int) (A : Option Addr) (n cap : Nat) (g : Nat → Nat → Int) (hn : n ≤ 1048576) (hX : -128 ≤ X ∧ X ≤ 127) (w : World) (hr : PrsIn w A n g) :
    Calls Tryd.prog 20 #[.agg #[.int .i8 X, .slice A n cap]] w fun e w' => e = .returned (.bool (shtB X n g)) ∧ Below w.heap.size w w' := by
  have k0 := (Below.refl w.heap.size w).alloc (Nat.le_refl _) (.cells #[.int .i8 X, .slice A n cap] 29)
  have hr0 := hr.below k0 (Nat.le_refl _)
  have hp := arePrints_any A n cap g hn _ hr0
  have hq := fun W => inRange_any X 1 12 W
  have HX := hX
  clear hr hr0
  rcases hv : inB X 1 12 with _ | _
  · rw [show shtB X n g = false by simp [shtB, hv]]
    rw [hv] at hq
    have Hq := Lib.hid hq; clear hq hv
    have Hp := Lib.hid hp; clear hp
    go_enter Tryd.func20, Tryd.ntmps20
    go_wp2_with (go_at_call 43; refine (Hq.out _).mono ?_; rintro e w' ⟨rfl, rfl⟩)
    go_ret
    exact ⟨rfl, k0⟩
  · by_cases h12 : (n : Int) ≤ 12
    · rw [show shtB X n g = prsB g n by simp [shtB, hv]; omega]
      rw [hv] at hq
      have Hq := Lib.hid hq; clear hq hv
      have Hp := Lib.hid hp; clear hp
      go_enter Tryd.func20, Tryd.ntmps20
      go_wp2_with (first | (go_at_call 43; refine (Hq.out _).mono ?_; rintro e w' ⟨rfl, rfl⟩) | (go_at_call 44; refine Hp.out.mono ?_; rintro e w2 ⟨rfl, hb2⟩))
      go_ret
      exact ⟨rfl, k0.trans (hb2.mono k0.size)⟩
    · rw [show shtB X n g = false by simp [shtB]; omega]
      rw [hv] at hq
      have Hq := Lib.hid hq; clear hq hv
      have Hp := Lib.hid hp; clear hp
      go_enter Tryd.func20, Tryd.ntmps20
      go_wp2_with (first | (go_at_call 43; refine (Hq.out _).mono ?_; rintro e w' ⟨rfl, rfl⟩))
      go_ret
      exact ⟨rfl, k0⟩
end Go.Proofs.YtkmpfbjenddhjaaDoor

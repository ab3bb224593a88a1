/-
  What a shutter needs more, by a table: what the program's and the reference's functions return, for every table of at most 1048576 entries. Condition of the program's: its variables hold their own errors.
-/
import Derived.Test.YtakmekidnfeciaaDoorTables
import Derived.Test.YtakmekidnfeciaaDoorErrs
namespace Go.Proofs.YtakmekidnfeciaaDoor
open Go.RowKit

def exA (fs es : Nat → Int) (sh : Int) : Nat → Int
  | 0 => 0
  | k + 1 => if fs k ≤ sh then es k else exA fs es sh k
theorem exA_yes {fs es : Nat → Int} {sh : Int} {k : Nat} (h : fs k ≤ sh) : exA fs es sh (k + 1) = es k := by simp [exA, h]
theorem exA_no {fs es : Nat → Int} {sh : Int} {k : Nat} (h : sh < fs k) : exA fs es sh (k + 1) = exA fs es sh k := by
  have : ¬ fs k ≤ sh := by omega
  simp [exA, this]
theorem tabOk_le {fs es : Nat → Int} {k n : Nat} (h : k ≤ n) (ht : tabOk fs es n = true) : tabOk fs es k = true := by
  rcases hk : tabOk fs es k with _ | _
  · rw [tabOk_mono h hk] at ht; cases ht
  · rfl
theorem tabOk_rise {fs es : Nat → Int} {n : Nat} (ht : tabOk fs es n = true) : ∀ m k : Nat, k ≤ m → m < n → fs k ≤ fs m := by
  intro m
  induction m with
  | zero => intro k hk _; obtain rfl : k = 0 := by omega
            exact Int.le_refl _
  | succ m ih =>
    intro k hk hm
    by_cases e : k = m + 1
    · subst e; exact Int.le_refl _
    · have h1 := ih k (by omega) (by omega)
      have h2 := tabOk_le (k := m + 2) hm ht
      rw [tabOk, stepOk_s, Bool.and_eq_true, Bool.and_eq_true] at h2
      have h3 := inB_true.1 h2.2.1
      omega
theorem exA_stop {fs es : Nat → Int} {n : Nat} {sh : Int} (ht : tabOk fs es n = true) {k : Nat} (hk : k < n) (hgt : sh < fs k) : exA fs es sh n = exA fs es sh k := by
  have key : ∀ d : Nat, k + d ≤ n → exA fs es sh (k + d) = exA fs es sh k := by
    intro d
    induction d with
    | zero => intro _; rfl
    | succ d ih =>
      intro hd
      have h1 := tabOk_rise ht (k + d) k (by omega) (by omega)
      rw [show k + (d + 1) = (k + d) + 1 from rfl, exA_no (by omega), ih (by omega)]
  have := key (n - k) (by omega)
  rwa [show k + (n - k) = n by omega] at this
theorem exA_bd {fs es : Nat → Int} {n : Nat} (sh : Int) (ht : tabOk fs es n = true) : ∀ k : Nat, k ≤ n → 0 ≤ exA fs es sh k ∧ exA fs es sh k ≤ 30
  | 0, _ => ⟨by simp [exA], by simp [exA]⟩
  | k + 1, hk => by
    have h1 := tabOk_prev (tabOk_le hk ht)
    have h2 := exA_bd sh ht k (by omega)
    by_cases h : fs k ≤ sh
    · rw [exA_yes h]; omega
    · rw [exA_no (by omega)]; exact h2

set_option maxHeartbeats 1000000 in
theorem l01Extra_any (b n cap : Nat) (fs es : Nat → Int) (sh : Int) (hn : n ≤ 1048576) (hs : Small n fs es) (w : World) (hr : LongRow w b n fs es) :
    Calls Tryd.prog 54 #[.slice (some ⟨b, 0, none⟩) n cap, .int .i64 sh] w fun e w' => e = .returned (.int .i64 (exA fs es sh n)) ∧ w = w' := by
  go_enter Tryd.func54, Tryd.ntmps54
  go_wp2
  go_loop [5, 6] (fun x i => ∃ k : Nat, k ≤ n ∧ i = .int .i64 k ∧ x = .int .i64 (exA fs es sh k)) (fun _ i => n - (intOf i).toNat)
  case atStart => exact ⟨0, Nat.zero_le _, rfl, rfl⟩
  case round =>
    obtain ⟨k, hk, rfl, rfl⟩ := hrel
    by_cases hkn : k < n
    · have c0 := hr.cell0 hkn
      have c1 := hr.cell1 hkn
      have hsk := hs k hkn
      by_cases hle : fs k ≤ sh
      · have hx := exA_yes (es := es) hle
        have Hx := Lib.hid hx; clear hx
        go_wp2
        go_round
        case rel => exact ⟨k + 1, by omega, by go_num, by rw [Hx.out]⟩
        case measure => simp [intOf]; omega
      · have hx := exA_no (fs := fs) (es := es) (sh := sh) (k := k) (by omega)
        have Hx := Lib.hid hx; clear hx
        go_wp2
        go_round
        case rel => exact ⟨k + 1, by omega, by go_num, by rw [Hx.out]⟩
        case measure => simp [intOf]; omega
    · have e : k = n := by omega
      subst e
      go_wp2
      go_ret
      exact ⟨rfl, rfl⟩

set_option maxHeartbeats 1000000 in
theorem extraAt_any (b n cap : Nat) (fs es : Nat → Int) (sh : Int) (hn : n ≤ 1048576) (hs : Small n fs es) (ht : tabOk fs es n = true) (w : World) (hr : LongRow w b n fs es) :
    Calls Tryd.prog 96 #[.slice (some ⟨b, 0, none⟩) n cap, .int .i64 sh] w fun e w' => e = .returned (.int .i64 (exA fs es sh n)) ∧ Below w.heap.size w w' := by
  have Ht := Lib.hid ht; clear ht
  go_enter Tryd.func96, Tryd.ntmps96
  go_wp2
  go_loopw [5, 10] (fun x i wr => ∃ k : Nat, k ≤ n ∧ i = .int .i64 k ∧ x = .int .i64 (exA fs es sh k) ∧ Below w.heap.size w wr) (fun _ i _ => n - (intOf i).toNat)
  case atStart => exact ⟨0, Nat.zero_le _, rfl, rfl, Below.refl _ _⟩
  case round =>
    obtain ⟨k, hk, rfl, rfl, hB⟩ := hrel
    by_cases hkn : k < n
    · have hR := hr.below hB hr.lt
      have c0 := hR.cell0 hkn
      have c1 := hR.cell1 hkn
      have hsk := hs k hkn
      by_cases hgt : sh < fs k
      · have hx := exA_stop Ht.out hkn hgt
        have Hx := Lib.hid hx; clear hx
        go_wp2
        go_ret
        refine ⟨ret_int Hx.out.symm, ?_⟩
        have := hB.size
        repeat (first | exact Below.refl _ _ | assumption | apply Below.drew | apply below_drewL | (refine Below.alloc ?_ (by first | omega | (simp; done) | (simp; omega)) _) | (refine Below.setCell ?_ (by first | omega | (simp; done) | (simp; omega)) _))
      · have hx := exA_yes (fs := fs) (es := es) (sh := sh) (k := k) (by omega)
        have Hx := Lib.hid hx; clear hx
        go_wp2
        go_roundw
        case rel => exact ⟨k + 1, by omega, by go_num, by rw [Hx.out], by have := hB.size; repeat (first | exact Below.refl _ _ | assumption | apply Below.drew | apply below_drewL | (refine Below.alloc ?_ (by first | omega | (simp; done) | (simp; omega)) _) | (refine Below.setCell ?_ (by first | omega | (simp; done) | (simp; omega)) _))⟩
        case measure => simp [intOf]; omega
    · have e : k = n := by omega
      subst e
      go_wp2
      go_ret
      exact ⟨rfl, hB⟩

/-! ### THE FUNCTIONS WITH A CODE -/
def extC (n : Nat) (fs es : Nat → Int) (sh : Int) : Int := if validT n fs es = true then (if inB sh 0 45 = true then 0 else 2) else 1
def extR (n : Nat) (fs es : Nat → Int) (sh : Int) : Int := if validT n fs es = true then (if inB sh 0 45 = true then exA fs es sh n else 0) else 0
theorem ext_bad {n : Nat} {fs es : Nat → Int} {sh : Int} (h : validT n fs es = false) : extC n fs es sh = 1 ∧ extR n fs es sh = 0 := by simp [extC, extR, h]
theorem ext_far {n : Nat} {fs es : Nat → Int} {sh : Int} (h : validT n fs es = true) (h2 : inB sh 0 45 = false) : extC n fs es sh = 2 ∧ extR n fs es sh = 0 := by simp [extC, extR, h, h2]
theorem ext_yes {n : Nat} {fs es : Nat → Int} {sh : Int} (h : validT n fs es = true) (h2 : inB sh 0 45 = true) : extC n fs es sh = 0 ∧ extR n fs es sh = exA fs es sh n := by simp [extC, extR, h, h2]
theorem validT_tab {n : Nat} {fs es : Nat → Int} (h : validT n fs es = true) : tabOk fs es n = true := by
  simp only [validT, Bool.and_eq_true] at h; exact h.1

set_option maxHeartbeats 1000000 in
theorem l01Metered_any (b n cap : Nat) (fs es : Nat → Int) (sh : Int) (hn : n ≤ 1048576) (hs : Small n fs es) (w : World) (hr : LongRow w b n fs es) :
    Calls Tryd.prog 53 #[.slice (some ⟨b, 0, none⟩) n cap, .int .i64 sh] w fun e w' => e = .returned (.int .i64 (extC n fs es sh)) ∧ w = w' := by
  rcases h1 : validT n fs es with _ | _
  · rw [(ext_bad h1).1]
    go_enter Tryd.func53, Tryd.ntmps53
    go_wp2_with fail
    refine (l01Table_any _ _ _ fs es hn hs _ hr).mono ?_; rintro e w1 ⟨rfl, rfl⟩
    go_wp2_with fail
    go_ret
    exact ⟨rfl, rfl⟩
  · rcases h2 : inB sh 0 45 with _ | _
    all_goals
      first | rw [(ext_far h1 h2).1] | rw [(ext_yes h1 h2).1]
      go_enter Tryd.func53, Tryd.ntmps53
      go_wp2_with fail
      refine (l01Table_any _ _ _ fs es hn hs _ hr).mono ?_; rintro e w1 ⟨rfl, rfl⟩
      go_wp2_with fail
      refine (l00In_any _ _ _ _).mono ?_; rintro e w1 ⟨rfl, rfl⟩
      go_wp2_with fail
      go_ret
      exact ⟨rfl, rfl⟩

set_option maxHeartbeats 1000000 in
theorem specExtraFor_any (b n cap : Nat) (fs es : Nat → Int) (sh : Int) (hn : n ≤ 1048576) (hs : Small n fs es) (w : World) (hr : LongRow w b n fs es) :
    Calls Tryd.prog 43 #[.slice (some ⟨b, 0, none⟩) n cap, .int .i64 sh] w fun e w' => e = .returned (.tuple #[.int .i64 (extR n fs es sh), .int .i64 (extC n fs es sh)]) ∧ w = w' := by
  have hm := l01Metered_any b n cap fs es sh hn hs
  rcases h1 : validT n fs es with _ | _
  · rw [(ext_bad h1).1] at hm ⊢
    rw [(ext_bad h1).2]
    have Hm := Lib.hid hm; clear hm
    go_enter Tryd.func43, Tryd.ntmps43
    go_wp2_with fail
    refine (Hm.out _ hr).mono ?_; rintro e w1 ⟨rfl, rfl⟩
    go_wp2_with fail
    go_ret2
    exact ⟨rfl, rfl⟩
  · rcases h2 : inB sh 0 45 with _ | _
    · rw [(ext_far h1 h2).1] at hm ⊢
      rw [(ext_far h1 h2).2]
      have Hm := Lib.hid hm; clear hm
      go_enter Tryd.func43, Tryd.ntmps43
      go_wp2_with fail
      refine (Hm.out _ hr).mono ?_; rintro e w1 ⟨rfl, rfl⟩
      go_wp2_with fail
      go_ret2
      exact ⟨rfl, rfl⟩
    · rw [(ext_yes h1 h2).1] at hm ⊢
      rw [(ext_yes h1 h2).2]
      have Hm := Lib.hid hm; clear hm
      go_enter Tryd.func43, Tryd.ntmps43
      go_wp2_with fail
      refine (Hm.out _ hr).mono ?_; rintro e w1 ⟨rfl, rfl⟩
      go_wp2_with fail
      refine (l01Extra_any _ _ _ fs es sh hn hs _ hr).mono ?_; rintro e w1 ⟨rfl, rfl⟩
      go_wp2_with fail
      go_ret2
      exact ⟨rfl, rfl⟩

/-- What a function of the program's own gives back: a value, and an error that stands for a code. -/
def CodedX (s : Ers) (x : Value) (c : Int) (B : Nat) (w : World) (e : Ending) (w' : World) : Prop := ∃ v, IsCode s v c ∧ e = .returned (.tuple #[x, v]) ∧ Below B w w'

set_option maxHeartbeats 1000000 in
theorem extraFor_any (s : Ers) (b n cap : Nat) (fs es : Nat → Int) (sh : Int) (hn : n ≤ 1048576) (hs : Small n fs es) (w : World) (hr : LongRow w b n fs es) (hE : ErrEnv s w) :
    Calls Tryd.prog 86 #[.slice (some ⟨b, 0, none⟩) n cap, .int .i64 sh] w (CodedX s (.int .i64 (extR n fs es sh)) (extC n fs es sh) w.heap.size w) := by
  rcases h1 : validT n fs es with _ | _
  · rw [(ext_bad h1).1, (ext_bad h1).2]
    go_enter Tryd.func86, Tryd.ntmps86
    go_wp2_with fail
    refine (ValidTable_any _ _ _ fs es hn hs _ hr).mono ?_; rintro e w1 ⟨rfl, hb1⟩
    have ce := (hE.below hb1 (Nat.le_refl _)).c_einvalid
    go_wp2_with fail
    go_quiet (fail)
    go_wp2
    go_ret2
    exact ⟨_, .einvalid, rfl, below_drewL hb1 _⟩
  · rcases h2 : inB sh 0 45 with _ | _
    · rw [(ext_far h1 h2).1, (ext_far h1 h2).2]
      go_enter Tryd.func86, Tryd.ntmps86
      go_wp2_with fail
      refine (ValidTable_any _ _ _ fs es hn hs _ hr).mono ?_; rintro e w1 ⟨rfl, hb1⟩
      have ce := (hE.below hb1 (Nat.le_refl _)).c_erange
      go_wp2_with fail
      refine (inRange_any _ _ _ _).mono ?_; rintro e w2 ⟨rfl, rfl⟩
      go_wp2_with fail
      go_quiet (fail)
      go_wp2
      go_ret2
      exact ⟨_, .erange, rfl, below_drewL hb1 _⟩
    · rw [(ext_yes h1 h2).1, (ext_yes h1 h2).2]
      have ht := validT_tab h1
      have Ht := Lib.hid ht; clear ht
      go_enter Tryd.func86, Tryd.ntmps86
      go_wp2_with fail
      refine (ValidTable_any _ _ _ fs es hn hs _ hr).mono ?_; rintro e w1 ⟨rfl, hb1⟩
      go_wp2_with fail
      refine (inRange_any _ _ _ _).mono ?_; rintro e w2 ⟨rfl, rfl⟩
      go_wp2_with fail
      refine (extraAt_any _ _ _ fs es sh hn hs Ht.out _ (hr.below hb1 hr.lt)).mono ?_; rintro e w2 ⟨rfl, hb2⟩
      go_wp2_with fail
      go_ret2
      exact ⟨_, .ok, rfl, hb1.trans (hb2.mono hb1.size)⟩

set_option maxHeartbeats 1000000 in
theorem ExtraFor_any (s : Ers) (b n cap : Nat) (fs es : Nat → Int) (sh : Int) (hn : n ≤ 1048576) (hs : Small n fs es) (w : World) (hr : LongRow w b n fs es) (hE : ErrEnv s w) :
    Calls Tryd.prog 42 #[.slice (some ⟨b, 0, none⟩) n cap, .int .i64 sh] w fun e w' => e = .returned (.tuple #[.int .i64 (extR n fs es sh), .int .i64 (extC n fs es sh)]) ∧ Below w.heap.size w w' := by
  go_enter Tryd.func42, Tryd.ntmps42
  go_wp2_with fail
  refine (extraFor_any s _ _ _ fs es sh hn hs _ hr hE).mono ?_; rintro e w1 ⟨v, hv, rfl, hb1⟩
  go_wp2_with fail
  refine (codedInt_any hv _ _ (hE.below hb1 (Nat.le_refl _))).mono ?_; rintro e w2 ⟨rfl, rfl⟩
  go_wp2_with fail
  go_ret2
  exact ⟨rfl, hb1⟩
end Go.Proofs.YtakmekidnfeciaaDoor

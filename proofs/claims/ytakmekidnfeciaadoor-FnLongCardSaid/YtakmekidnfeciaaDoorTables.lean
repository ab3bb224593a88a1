/-
  Whether a table is valid: what the program's and the reference's functions return, for every table of at most 1048576 entries. No other condition.
-/
import Derived.Test.YtakmekidnfeciaaDoorLongs
namespace Go.Proofs.YtakmekidnfeciaaDoor
open Go.RowKit

def prevF (fs : Nat → Int) : Nat → Int
  | 0 => -1
  | k + 1 => fs k
def prevE (es : Nat → Int) : Nat → Int
  | 0 => 0
  | k + 1 => es k
def stepOk (fs es : Nat → Int) (k : Nat) : Bool := inB (fs k) (prevF fs k + 1) 45 && inB (es k) (prevE es k) 30
def tabOk (fs es : Nat → Int) : Nat → Bool
  | 0 => true
  | k + 1 => tabOk fs es k && stepOk fs es k
def validT (n : Nat) (fs es : Nat → Int) : Bool := tabOk fs es n && decide (n ≤ 10)
theorem tabOk_mono {fs es : Nat → Int} {k n : Nat} (h : k ≤ n) (hf : tabOk fs es k = false) : tabOk fs es n = false := by
  induction n with
  | zero => obtain rfl : k = 0 := by omega
            exact hf
  | succ n ih =>
    rcases Nat.lt_or_ge n k with h1 | h1
    · obtain rfl : k = n + 1 := by omega
      exact hf
    · simp [tabOk, ih h1]
/-- The numbers of a table are small. -/
def Small (n : Nat) (fs es : Nat → Int) : Prop := ∀ j, j < n → (-128 ≤ fs j ∧ fs j ≤ 127) ∧ -128 ≤ es j ∧ es j ≤ 127
theorem prevF_bd {n : Nat} {fs es : Nat → Int} (h : Small n fs es) {k : Nat} (hk : k ≤ n) : -128 ≤ prevF fs k ∧ prevF fs k ≤ 127 := by
  cases k with
  | zero => exact ⟨by simp [prevF], by simp [prevF]⟩
  | succ k => exact (h k hk).1
theorem prevE_bd {n : Nat} {fs es : Nat → Int} (h : Small n fs es) {k : Nat} (hk : k ≤ n) : -128 ≤ prevE es k ∧ prevE es k ≤ 127 := by
  cases k with
  | zero => exact ⟨by simp [prevE], by simp [prevE]⟩
  | succ k => exact (h k hk).2

set_option maxHeartbeats 1000000 in
theorem l01Table_any (b n cap : Nat) (fs es : Nat → Int) (hn : n ≤ 1048576) (hs : Small n fs es) (w : World) (hr : LongRow w b n fs es) :
    Calls Tryd.prog 88 #[.slice (some ⟨b, 0, none⟩) n cap] w fun e w' => e = .returned (.bool (validT n fs es)) ∧ w = w' := by
  go_enter Tryd.func88, Tryd.ntmps88
  go_wp2
  go_loop [3, 4, 5] (fun f e0 i => ∃ k : Nat, k ≤ n ∧ i = .int .i64 k ∧ f = .int .i64 (prevF fs k) ∧ e0 = .int .i64 (prevE es k) ∧ tabOk fs es k = true) (fun _ _ i => n - (intOf i).toNat)
  case atStart => exact ⟨0, Nat.zero_le _, rfl, rfl, rfl, rfl⟩
  case round =>
    obtain ⟨k, hk, rfl, rfl, rfl, hall⟩ := hrel
    have bf := prevF_bd hs hk
    have be := prevE_bd hs hk
    by_cases hkn : k < n
    · have c0 := hr.cell0 hkn
      have c1 := hr.cell1 hkn
      have hsk := hs k hkn
      have ef : prevF fs (k + 1) = fs k := rfl
      have ee : prevE es (k + 1) = es k := rfl
      generalize hf : prevF fs k = pf at bf ⊢
      generalize he : prevE es k = pe at be ⊢
      rcases h1 : inB (fs k) (pf + 1) 45 with _ | _
      · have hno : validT n fs es = false := by
          have h2 : stepOk fs es k = false := by simp [stepOk, hf, h1]
          have : tabOk fs es n = false := tabOk_mono (k := k + 1) hkn (by simp [tabOk, h2])
          simp [validT, this]
        have Hno := Lib.hid hno; clear hno
        have Ha := Lib.hid hall; clear hall hf he ef ee
        go_wp2_with (go_at_call 59; refine (l00In_any _ _ _ _).mono ?_; rintro e w2 ⟨rfl, rfl⟩)
        go_ret
        exact ⟨ret_bool Hno.out.symm, rfl⟩
      · rcases h2 : inB (es k) pe 30 with _ | _
        · have hno : validT n fs es = false := by
            have h3 : stepOk fs es k = false := by simp [stepOk, he, h2]
            have : tabOk fs es n = false := tabOk_mono (k := k + 1) hkn (by simp [tabOk, h3])
            simp [validT, this]
          have Hno := Lib.hid hno; clear hno
          have Ha := Lib.hid hall; clear hall hf he ef ee
          go_wp2_with (go_at_call 59; refine (l00In_any _ _ _ _).mono ?_; rintro e w2 ⟨rfl, rfl⟩)
          go_ret
          exact ⟨ret_bool Hno.out.symm, rfl⟩
        · have hall1 : tabOk fs es (k + 1) = true := by
            have h3 : stepOk fs es k = true := by simp [stepOk, hf, he, h1, h2]
            simp [tabOk, hall, h3]
          have Ha1 := Lib.hid hall1; clear hall1
          have Ha := Lib.hid hall; clear hall hf he ef ee
          go_wp2_with (go_at_call 59; refine (l00In_any _ _ _ _).mono ?_; rintro e w2 ⟨rfl, rfl⟩)
          go_round
          case rel => exact ⟨k + 1, by omega, by go_num, rfl, rfl, Ha1.out⟩
          case measure => simp [intOf]; omega
    · have e : k = n := by omega
      subst e
      by_cases h10 : k ≤ 10
      · have hyes : validT k fs es = true := by simp [validT, hall, h10]
        have Hy := Lib.hid hyes; clear hyes
        have Ha := Lib.hid hall; clear hall
        go_wp2
        go_ret
        exact ⟨ret_bool (by rw [Hy.out]; simp; omega), rfl⟩
      · have hyes : validT k fs es = false := by simp [validT, h10]
        have Hy := Lib.hid hyes; clear hyes
        have Ha := Lib.hid hall; clear hall
        go_wp2
        go_ret
        exact ⟨ret_bool (by rw [Hy.out]; simp; omega), rfl⟩

theorem stepOk_0 (fs es : Nat → Int) : stepOk fs es 0 = (inB (fs 0) 0 45 && inB (es 0) 0 30) := rfl
theorem stepOk_s (fs es : Nat → Int) (m : Nat) : stepOk fs es (m + 1) = (inB (fs (m + 1)) (fs m + 1) 45 && inB (es (m + 1)) (es m) 30) := rfl
theorem tabOk_prev {fs es : Nat → Int} {m : Nat} (h : tabOk fs es (m + 1) = true) : (0 ≤ fs m ∧ fs m ≤ 45) ∧ 0 ≤ es m ∧ es m ≤ 30 := by
  induction m with
  | zero =>
    simp only [tabOk, Bool.true_and, stepOk_0, Bool.and_eq_true] at h
    exact ⟨inB_true.1 h.1, inB_true.1 h.2⟩
  | succ m ih =>
    have h' := h
    rw [tabOk, Bool.and_eq_true, stepOk_s, Bool.and_eq_true] at h'
    have h1 := ih h'.1
    have h2 := inB_true.1 h'.2.1
    have h3 := inB_true.1 h'.2.2
    exact ⟨⟨by omega, by omega⟩, by omega, by omega⟩
theorem valid_no {n k : Nat} {fs es : Nat → Int} (hk : k < n) (h : stepOk fs es k = false) : validT n fs es = false := by
  have : tabOk fs es n = false := tabOk_mono (k := k + 1) hk (by simp [tabOk, h])
  simp [validT, this]

set_option maxHeartbeats 2000000 in
theorem ValidTable_any (b n cap : Nat) (fs es : Nat → Int) (hn : n ≤ 1048576) (hs : Small n fs es) (w : World) (hr : LongRow w b n fs es) :
    Calls Tryd.prog 46 #[.slice (some ⟨b, 0, none⟩) n cap] w fun e w' => e = .returned (.bool (validT n fs es)) ∧ Below w.heap.size w w' := by
  by_cases h10 : n ≤ 10
  · go_enter Tryd.func46, Tryd.ntmps46
    go_wp2
    go_loopw [10] (fun i wr => ∃ k : Nat, k ≤ n ∧ i = .int .i64 k ∧ tabOk fs es k = true ∧ Below w.heap.size w wr) (fun i _ => n - (intOf i).toNat)
    case atStart => exact ⟨0, Nat.zero_le _, rfl, rfl, Below.refl _ _⟩
    case round =>
      obtain ⟨k, hk, rfl, hall, hB⟩ := hrel
      by_cases hkn : k < n
      · have hR := hr.below hB hr.lt
        have c0 := hR.cell0 hkn
        have c1 := hR.cell1 hkn
        have hsk := hs k hkn
        have hlt := hR.lt
        rcases h1 : inB (fs k) 0 45 with _ | _
        · have hno : validT n fs es = false := by
            refine valid_no hkn ?_
            cases k with
            | zero => rw [stepOk_0, h1]; rfl
            | succ m =>
              have hp := tabOk_prev hall
              have h2 : inB (fs (m + 1)) (fs m + 1) 45 = false := by
                rw [inB_false]; have := inB_false.1 h1; omega
              rw [stepOk_s, h2]; rfl
          have Hno := Lib.hid hno; clear hno
          have Ha := Lib.hid hall; clear hall
          go_wp2_with (go_at_call 89; refine (inRange_any _ _ _ _).mono ?_; rintro e w2 ⟨rfl, rfl⟩)
          go_ret
          refine ⟨ret_bool Hno.out.symm, ?_⟩
          have := hB.size
          repeat (first | exact Below.refl _ _ | assumption | apply Below.drew | apply below_drewL | (refine Below.alloc ?_ (by first | omega | (simp; done) | (simp; omega)) _) | (refine Below.setCell ?_ (by first | omega | (simp; done) | (simp; omega)) _))
        · rcases h2 : inB (es k) 0 30 with _ | _
          · have hno : validT n fs es = false := by
              refine valid_no hkn ?_
              cases k with
              | zero => rw [stepOk_0, h2]; simp
              | succ m =>
                have hp := tabOk_prev hall
                have h2 : inB (es (m + 1)) (es m) 30 = false := by
                  rw [inB_false]; have := inB_false.1 h2; omega
                rw [stepOk_s, h2]; simp
            have Hno := Lib.hid hno; clear hno
            have Ha := Lib.hid hall; clear hall
            go_wp2_with (go_at_call 89; refine (inRange_any _ _ _ _).mono ?_; rintro e w2 ⟨rfl, rfl⟩)
            go_ret
            refine ⟨ret_bool Hno.out.symm, ?_⟩
            have := hB.size
            repeat (first | exact Below.refl _ _ | assumption | apply Below.drew | apply below_drewL | (refine Below.alloc ?_ (by first | omega | (simp; done) | (simp; omega)) _) | (refine Below.setCell ?_ (by first | omega | (simp; done) | (simp; omega)) _))
          · cases k with
            | zero =>
              have hall1 : tabOk fs es (0 + 1) = true := by simp [tabOk, stepOk_0, h1, h2]
              have Ha1 := Lib.hid hall1; clear hall1
              have Ha := Lib.hid hall; clear hall
              simp only [Nat.zero_mul, Nat.zero_add] at c0 c1
              go_wp2_with (go_at_call 89; refine (inRange_any _ _ _ _).mono ?_; rintro e w2 ⟨rfl, rfl⟩)
              go_quiet (fail)
              go_wp2
              go_roundw
              case rel => exact ⟨0 + 1, by omega, by go_num, Ha1.out, by have := hB.size; repeat (first | exact Below.refl _ _ | assumption | apply Below.drew | apply below_drewL | (refine Below.alloc ?_ (by first | omega | (simp; done) | (simp; omega)) _) | (refine Below.setCell ?_ (by first | omega | (simp; done) | (simp; omega)) _))⟩
              case measure => simp [intOf]; omega
            | succ m =>
              have p0 := hR.cell0 (k := m) (by omega)
              have p1 := hR.cell1 (k := m) (by omega)
              have w0 : IntKind.i64.wrap ((m : Int) + 1 - 1) = m := by rw [Int.add_sub_cancel]; exact IntWalk.i64_in _ (by omega)
              have w1 : IntKind.i64.wrap (m : Int) = m := IntWalk.i64_in _ (by omega)
              have gp : decide ((0 : Int) < (m : Int) + 1) = true := decide_eq_true (by omega)
              by_cases h3 : fs (m + 1) ≤ fs m
              · have hno : validT n fs es = false := by
                  refine valid_no hkn ?_
                  have h5 : inB (fs (m + 1)) (fs m + 1) 45 = false := by rw [inB_false]; omega
                  rw [stepOk_s, h5]; rfl
                have Hno := Lib.hid hno; clear hno
                have Ha := Lib.hid hall; clear hall
                go_wp2_with (go_at_call 89; refine (inRange_any _ _ _ _).mono ?_; rintro e w2 ⟨rfl, rfl⟩)
                go_quiet (fail)
                go_wp2
                go_ret
                refine ⟨ret_bool Hno.out.symm, ?_⟩
                have := hB.size
                repeat (first | exact Below.refl _ _ | assumption | apply Below.drew | apply below_drewL | (refine Below.alloc ?_ (by first | omega | (simp; done) | (simp; omega)) _) | (refine Below.setCell ?_ (by first | omega | (simp; done) | (simp; omega)) _))
              · by_cases h4 : es (m + 1) < es m
                · have hno : validT n fs es = false := by
                    refine valid_no hkn ?_
                    have h5 : inB (es (m + 1)) (es m) 30 = false := by rw [inB_false]; omega
                    rw [stepOk_s, h5]; simp
                  have Hno := Lib.hid hno; clear hno
                  have Ha := Lib.hid hall; clear hall
                  have d3 : decide (fs (m + 1) ≤ fs m) = false := decide_eq_false h3
                  go_wp2_with (go_at_call 89; refine (inRange_any _ _ _ _).mono ?_; rintro e w2 ⟨rfl, rfl⟩)
                  go_quiet (fail)
                  go_wp2
                  go_ret
                  refine ⟨ret_bool Hno.out.symm, ?_⟩
                  have := hB.size
                  repeat (first | exact Below.refl _ _ | assumption | apply Below.drew | apply below_drewL | (refine Below.alloc ?_ (by first | omega | (simp; done) | (simp; omega)) _) | (refine Below.setCell ?_ (by first | omega | (simp; done) | (simp; omega)) _))
                · have hall1 : tabOk fs es (m + 1 + 1) = true := by
                    have b1 := inB_true.1 h1
                    have b2 := inB_true.1 h2
                    have h5 : inB (fs (m + 1)) (fs m + 1) 45 = true := by rw [inB_true]; omega
                    have h6 : inB (es (m + 1)) (es m) 30 = true := by rw [inB_true]; omega
                    rw [tabOk, hall, stepOk_s, h5, h6]; rfl
                  have Ha1 := Lib.hid hall1; clear hall1
                  have Ha := Lib.hid hall; clear hall
                  have d3 : decide (fs (m + 1) ≤ fs m) = false := decide_eq_false h3
                  have d4 : decide (es (m + 1) < es m) = false := decide_eq_false h4
                  go_wp2_with (go_at_call 89; refine (inRange_any _ _ _ _).mono ?_; rintro e w2 ⟨rfl, rfl⟩)
                  go_quiet (fail)
                  go_wp2
                  go_roundw
                  case rel => exact ⟨m + 1 + 1, by omega, by go_num, Ha1.out, by have := hB.size; repeat (first | exact Below.refl _ _ | assumption | apply Below.drew | apply below_drewL | (refine Below.alloc ?_ (by first | omega | (simp; done) | (simp; omega)) _) | (refine Below.setCell ?_ (by first | omega | (simp; done) | (simp; omega)) _))⟩
                  case measure => simp [intOf]; omega
      · have e : k = n := by omega
        subst e
        have hyes : validT k fs es = true := by simp [validT, hall, h10]
        have Hy := Lib.hid hyes; clear hyes
        have Ha := Lib.hid hall; clear hall
        go_wp2
        go_ret
        exact ⟨ret_bool Hy.out.symm, hB⟩
  · have hno : validT n fs es = false := by simp [validT, h10]
    rw [hno]; clear hno
    go_enter Tryd.func46, Tryd.ntmps46
    go_wp2
    go_ret
    exact ⟨rfl, Below.refl _ _⟩
end Go.Proofs.YtakmekidnfeciaaDoor

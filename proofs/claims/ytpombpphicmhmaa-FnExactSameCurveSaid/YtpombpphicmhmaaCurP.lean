/-
  The least and the greatest density, and whether two lists of points are one: what the program's and the reference's functions return. Condition: at most 1048576 points.
-/
import Derived.Test.YtpombpphicmhmaaValidC
namespace Go.Proofs.Ytpombpphicmhmaa
open Go.RowKit

/-- A number where the curve is valid, else 0; the code. -/
def dnsR (n : Nat) (xs ys : Nat → Int) (v : Int) : Int := if validC n xs ys = true then v else 0
def dnsC (n : Nat) (xs ys : Nat → Int) : Int := if validC n xs ys = true then 0 else 1
theorem dns_bad {n : Nat} {xs ys : Nat → Int} (h : validC n xs ys = false) : (∀ v, dnsR n xs ys v = 0) ∧ dnsC n xs ys = 1 := by simp [dnsR, dnsC, h]
theorem dns_yes {n : Nat} {xs ys : Nat → Int} (h : validC n xs ys = true) : (∀ v, dnsR n xs ys v = v) ∧ dnsC n xs ys = 0 := by simp [dnsR, dnsC, h]

set_option maxRecDepth 100000 in
set_option maxHeartbeats 1000000 in
theorem specDensitiesOf_any (b n cap : Nat) (xs ys : Nat → Int) (hn : n ≤ 1048576) (hs : SmallP n xs ys) (w : World) (hr : PtRow w b n xs ys) :
    Calls Try.prog 13 #[.slice (some ⟨b, 0, none⟩) n cap] w fun e w' => e = .returned (.tuple #[.int .i64 (dnsR n xs ys (ys 0)), .int .i64 (dnsR n xs ys (ys (n - 1))), .int .i64 (dnsC n xs ys)]) ∧ Below w.heap.size w w' := by
  have hk := l02Ok_any b n cap xs ys hn hs
  rcases h1 : validC n xs ys with _ | _
  · obtain ⟨e1, e2⟩ := dns_bad h1
    rw [e1, e1, e2]
    rw [h1] at hk
    have Hk := Lib.hid hk; clear hk h1 e1 e2
    go_enter Try.func13, Try.ntmps13
    go_wp2_with fail
    refine (Hk.out _ hr).mono ?_; rintro e w1 ⟨rfl, hb1⟩
    go_wp2_with fail
    go_ret3
    exact ⟨rfl, hb1⟩
  · obtain ⟨e1, e2⟩ := dns_yes h1
    rw [e1, e1, e2]
    rw [h1] at hk
    have hpos := (validC_crv h1).1.pos
    have Hk := Lib.hid hk; clear hk h1 e1 e2
    have hs0 := hs 0 hpos
    have hsn := hs (n - 1) (by omega)
    have w1 : ((n : Int) - 1).toNat = n - 1 := by omega
    have w2 : (0 : Int) < n := by omega
    have w3 : (n : Int) - 1 < n := by omega
    have w4 : (1 : Int) ≤ n := by omega
    go_enter Try.func13, Try.ntmps13
    go_wp2_with fail
    refine (Hk.out _ hr).mono ?_; rintro e w1 ⟨rfl, hb1⟩
    have hr1 := hr.below hb1 hr.lt
    have c1 := hr1.cell1 hpos
    have d1 := hr1.cell1 (k := n - 1) (by omega)
    rw [Nat.zero_mul, Nat.zero_add] at c1
    go_wp2_with fail
    go_quiet (fail)
    go_wp2_with fail
    go_ret3
    exact ⟨rfl, below_drewL hb1 _⟩

set_option maxRecDepth 100000 in
set_option maxHeartbeats 1000000 in
theorem DensitiesOf_any (b n cap : Nat) (xs ys : Nat → Int) (hn : n ≤ 1048576) (hs : SmallP n xs ys) (w : World) (hr : PtRow w b n xs ys) :
    Calls Try.prog 14 #[.slice (some ⟨b, 0, none⟩) n cap] w fun e w' => e = .returned (.tuple #[.int .i64 (dnsR n xs ys (ys 0)), .int .i64 (dnsR n xs ys (ys (n - 1))), .int .i64 (dnsC n xs ys)]) ∧ Below w.heap.size w w' := by
  have hk := ValidCurve_any b n cap xs ys hn hs
  rcases h1 : validC n xs ys with _ | _
  · obtain ⟨e1, e2⟩ := dns_bad h1
    rw [e1, e1, e2]
    rw [h1] at hk
    have Hk := Lib.hid hk; clear hk h1 e1 e2
    go_enter Try.func14, Try.ntmps14
    go_wp2_with fail
    refine (Hk.out _ hr).mono ?_; rintro e w1 ⟨rfl, hb1⟩
    go_wp2_with fail
    go_ret3
    exact ⟨rfl, hb1⟩
  · obtain ⟨e1, e2⟩ := dns_yes h1
    rw [e1, e1, e2]
    rw [h1] at hk
    have hpos := (validC_crv h1).1.pos
    have hd := densities_any b n cap xs ys hn hpos hs
    have Hk := Lib.hid hk; clear hk h1 e1 e2
    have Hd := Lib.hid hd; clear hd
    go_enter Try.func14, Try.ntmps14
    go_wp2_with fail
    refine (Hk.out _ hr).mono ?_; rintro e w1 ⟨rfl, hb1⟩
    go_wp2_with fail
    refine (Hd.out _ (hr.below hb1 hr.lt)).mono ?_; rintro e w2 ⟨rfl, hb2⟩
    go_wp2_with fail
    go_quiet (fail)
    go_wp2_with fail
    go_ret3
    exact ⟨rfl, below_drewL ((hb1.trans (hb2.mono hb1.size)).alloc (hb1.trans (hb2.mono hb1.size)).size _) _⟩

theorem specValidCurve_any (b n cap : Nat) (xs ys : Nat → Int) (hn : n ≤ 1048576) (hs : SmallP n xs ys) (w : World) (hr : PtRow w b n xs ys) :
    Calls Try.prog 7 #[.slice (some ⟨b, 0, none⟩) n cap] w fun e w' => e = .returned (.bool (validC n xs ys)) ∧ Below w.heap.size w w' := by
  go_enter Try.func7, Try.ntmps7
  go_wp2_with fail
  refine (l02Ok_any b n cap xs ys hn hs _ hr).mono ?_; rintro e w1 ⟨rfl, hb1⟩
  go_wp2_with fail
  go_ret
  exact ⟨rfl, hb1⟩

/-- The first k points of two lists are the same. -/
def SamePre (k : Nat) (xs ys us vs : Nat → Int) : Prop := ∀ j, j < k → xs j = us j ∧ ys j = vs j
def sameTo (xs ys us vs : Nat → Int) : Nat → Bool
  | 0 => true
  | k + 1 => sameTo xs ys us vs k && (decide (xs k = us k) && decide (ys k = vs k))
theorem sameTo_iff {xs ys us vs : Nat → Int} : ∀ {n : Nat}, sameTo xs ys us vs n = true ↔ SamePre n xs ys us vs
  | 0 => by simp [sameTo, SamePre]
  | n + 1 => by
    rw [sameTo, Bool.and_eq_true, sameTo_iff, Bool.and_eq_true, decide_eq_true_eq, decide_eq_true_eq]
    constructor
    · rintro ⟨h, h1⟩ j hj
      rcases Nat.lt_or_ge j n with h2 | h2
      · exact h j h2
      · obtain rfl : j = n := by omega
        exact h1
    · intro h
      exact ⟨fun j hj => h j (by omega), h n (by omega)⟩
def sameC (n m : Nat) (xs ys us vs : Nat → Int) : Bool := decide (n = m) && sameTo xs ys us vs n
theorem same_no {n m k : Nat} {xs ys us vs : Nat → Int} (hk : k < n) (h : ¬ (xs k = us k ∧ ys k = vs k)) : sameC n m xs ys us vs = false := by
  rcases hs : sameC n m xs ys us vs with _ | _
  · rfl
  · rw [sameC, Bool.and_eq_true] at hs
    exact absurd (sameTo_iff.1 hs.2 k hk) h
theorem same_len {n m : Nat} {xs ys us vs : Nat → Int} (h : n ≠ m) : sameC n m xs ys us vs = false := by simp [sameC, h]
theorem same_yes {n : Nat} {xs ys us vs : Nat → Int} (h : SamePre n xs ys us vs) : sameC n n xs ys us vs = true := by simp [sameC, sameTo_iff.2 h]

set_option maxRecDepth 100000 in
set_option maxHeartbeats 1000000 in
theorem l02Same_any (b n cap b' m cap' : Nat) (xs ys us vs : Nat → Int) (hn : n ≤ 1048576) (hm : m ≤ 1048576) (w : World) (hr : PtRow w b n xs ys) (hr' : PtRow w b' m us vs) :
    Calls Try.prog 19 #[.slice (some ⟨b, 0, none⟩) n cap, .slice (some ⟨b', 0, none⟩) m cap'] w fun e w' => e = .returned (.bool (sameC n m xs ys us vs)) ∧ Below w.heap.size w w' := by
  by_cases hnm : n = m
  · subst hnm
    go_enter Try.func19, Try.ntmps19
    go_wp2
    go_loopw [5] (fun i wr => ∃ k : Nat, k ≤ n ∧ i = .int .i64 k ∧ SamePre k xs ys us vs ∧ ∃ q, wr = w.drewN q) (fun i _ => n - (intOf i).toNat)
    case atStart => exact ⟨0, Nat.zero_le _, rfl, fun j hj => by omega, 0, rfl⟩
    case round =>
      obtain ⟨k, hk, rfl, hp, q, rfl⟩ := hrel
      have Hp := Lib.hid hp; clear hp
      by_cases hkn : k < n
      · have c0 := hr.cell0 hkn
        have c1 := hr.cell1 hkn
        have d0 := hr'.cell0 hkn
        have d1 := hr'.cell1 hkn
        by_cases h0 : xs k = us k
        · by_cases h1 : ys k = vs k
          · have hq : SamePre (k + 1) xs ys us vs := fun j hj => by
              rcases Nat.lt_or_ge j k with h2 | h2
              · exact Hp.out j h2
              · obtain rfl : j = k := by omega
                exact ⟨h0, h1⟩
            have Hq := Lib.hid hq; clear hq
            rw [← h0] at d0
            rw [← h1] at d1
            clear h0 h1
            go_wp2_with fail
            go_quiet (fail)
            go_wp2
            go_roundw
            case rel => exact ⟨k + 1, by omega, by go_num, Hq.out, _, rfl⟩
            case measure => simp [intOf]; omega
          · have hno := same_no (m := n) hkn (fun h => h1 h.2 : ¬ (xs k = us k ∧ ys k = vs k))
            have Hno := Lib.hid hno; clear hno
            rw [← h0] at d0
            have e1 : (ys k == vs k) = false := by simpa using h1
            go_wp2_with fail
            go_quiet (fail)
            go_wp2
            go_ret
            exact ⟨ret_bool Hno.out.symm, below_drewL (below_drewL (Below.refl _ _) _) _⟩
        · have hno := same_no (m := n) hkn (fun h => h0 h.1 : ¬ (xs k = us k ∧ ys k = vs k))
          have Hno := Lib.hid hno; clear hno
          have e1 : (xs k == us k) = false := by simpa using h0
          go_wp2_with fail
          go_quiet (fail)
          go_wp2
          go_ret
          exact ⟨ret_bool Hno.out.symm, below_drewL (below_drewL (Below.refl _ _) _) _⟩
      · have e : k = n := by omega
        subst e
        have hy := same_yes Hp.out
        have Hy := Lib.hid hy; clear hy
        go_wp2
        go_ret
        exact ⟨ret_bool Hy.out.symm, below_drewL (Below.refl _ _) _⟩
  · rw [same_len hnm]
    have hnm2 : ((n : Int) == (m : Int)) = false := by simp; omega
    have hnm3 : ((n : Int) != (m : Int)) = true := by simp; omega
    go_enter Try.func19, Try.ntmps19
    go_wp2
    go_ret
    exact ⟨rfl, Below.refl _ _⟩

set_option maxRecDepth 100000 in
set_option maxHeartbeats 1000000 in
theorem slicesEqual_any (b n cap b' m cap' : Nat) (xs ys us vs : Nat → Int) (hn : n ≤ 1048576) (hm : m ≤ 1048576) (w : World) (hr : PtRow w b n xs ys) (hr' : PtRow w b' m us vs) :
    Calls Try.prog 20 #[.slice (some ⟨b, 0, none⟩) n cap, .slice (some ⟨b', 0, none⟩) m cap'] w fun e w' => e = .returned (.bool (sameC n m xs ys us vs)) ∧ Below w.heap.size w w' := by
  by_cases hnm : n = m
  · subst hnm
    go_enter Try.func20, Try.ntmps20
    go_wp2
    go_loopw [13] (fun i wr => ∃ k : Nat, k ≤ n ∧ i = .int .i64 k ∧ SamePre k xs ys us vs ∧ ∃ q, wr = w.drewN q) (fun i _ => n - (intOf i).toNat)
    case atStart => exact ⟨0, Nat.zero_le _, rfl, fun j hj => by omega, 0, rfl⟩
    case round =>
      obtain ⟨k, hk, rfl, hp, q, rfl⟩ := hrel
      have Hp := Lib.hid hp; clear hp
      by_cases hkn : k < n
      · have c0 := hr.cell0 hkn
        have c1 := hr.cell1 hkn
        have d0 := hr'.cell0 hkn
        have d1 := hr'.cell1 hkn
        by_cases h0 : xs k = us k
        · by_cases h1 : ys k = vs k
          · have hq : SamePre (k + 1) xs ys us vs := fun j hj => by
              rcases Nat.lt_or_ge j k with h2 | h2
              · exact Hp.out j h2
              · obtain rfl : j = k := by omega
                exact ⟨h0, h1⟩
            have Hq := Lib.hid hq; clear hq
            rw [← h0] at d0
            rw [← h1] at d1
            clear h0 h1
            go_wp2_with fail
            go_quiet (fail)
            go_wp2
            go_roundw
            case rel => exact ⟨k + 1, by omega, by go_num, Hq.out, _, rfl⟩
            case measure => simp [intOf]; omega
          · have hno := same_no (m := n) hkn (fun h => h1 h.2 : ¬ (xs k = us k ∧ ys k = vs k))
            have Hno := Lib.hid hno; clear hno
            rw [← h0] at d0
            have e1 : (ys k == vs k) = false := by simpa using h1
            go_wp2_with fail
            go_quiet (fail)
            go_wp2
            go_ret
            exact ⟨ret_bool Hno.out.symm, below_drewL (below_drewL (Below.refl _ _) _) _⟩
        · have hno := same_no (m := n) hkn (fun h => h0 h.1 : ¬ (xs k = us k ∧ ys k = vs k))
          have Hno := Lib.hid hno; clear hno
          have e1 : (xs k == us k) = false := by simpa using h0
          go_wp2_with fail
          go_quiet (fail)
          go_wp2
          go_ret
          exact ⟨ret_bool Hno.out.symm, below_drewL (below_drewL (Below.refl _ _) _) _⟩
      · have e : k = n := by omega
        subst e
        have hy := same_yes Hp.out
        have Hy := Lib.hid hy; clear hy
        go_wp2
        go_ret
        exact ⟨ret_bool Hy.out.symm, below_drewL (Below.refl _ _) _⟩
  · rw [same_len hnm]
    have hnm2 : ((n : Int) == (m : Int)) = false := by simp; omega
    have hnm3 : ((n : Int) != (m : Int)) = true := by simp; omega
    go_enter Try.func20, Try.ntmps20
    go_wp2
    go_ret
    exact ⟨rfl, Below.refl _ _⟩

theorem specSameCurve_any (b n cap b' m cap' : Nat) (xs ys us vs : Nat → Int) (hn : n ≤ 1048576) (hm : m ≤ 1048576) (w : World) (hr : PtRow w b n xs ys) (hr' : PtRow w b' m us vs) :
    Calls Try.prog 11 #[.slice (some ⟨b, 0, none⟩) n cap, .slice (some ⟨b', 0, none⟩) m cap'] w fun e w' => e = .returned (.bool (sameC n m xs ys us vs)) ∧ Below w.heap.size w w' := by
  have hk := l02Same_any b n cap b' m cap' xs ys us vs hn hm
  generalize sameC n m xs ys us vs = V at hk ⊢
  have Hk := Lib.hid hk; clear hk
  go_enter Try.func11, Try.ntmps11
  go_wp2_with fail
  refine (Hk.out _ hr hr').mono ?_; rintro e w1 ⟨rfl, hb1⟩
  go_wp2_with fail
  go_ret
  exact ⟨rfl, hb1⟩

theorem SameCurve_any (b n cap b' m cap' : Nat) (xs ys us vs : Nat → Int) (hn : n ≤ 1048576) (hm : m ≤ 1048576) (w : World) (hr : PtRow w b n xs ys) (hr' : PtRow w b' m us vs) :
    Calls Try.prog 12 #[.slice (some ⟨b, 0, none⟩) n cap, .slice (some ⟨b', 0, none⟩) m cap'] w fun e w' => e = .returned (.bool (sameC n m xs ys us vs)) ∧ Below w.heap.size w w' := by
  have hk := slicesEqual_any b n cap b' m cap' xs ys us vs hn hm
  generalize sameC n m xs ys us vs = V at hk ⊢
  have Hk := Lib.hid hk; clear hk
  go_enter Try.func12, Try.ntmps12
  go_wp2_with fail
  refine (Hk.out _ hr hr').mono ?_; rintro e w1 ⟨rfl, hb1⟩
  go_wp2_with fail
  go_ret
  exact ⟨rfl, hb1⟩

theorem specSame_ex (b0 n c0 : Nat) (xs ys : Nat → Int) (b1 m c1 : Nat) (us vs : Nat → Int) (hn : n ≤ 1048576) (hm : m ≤ 1048576) (_ : SmallP n xs ys) (_ : SmallP m us vs) (w : World) (hr : PtRow w b0 n xs ys) (hr' : PtRow w b1 m us vs) :
    Calls Try.prog 11 #[.slice (some ⟨b0, 0, none⟩) n c0, .slice (some ⟨b1, 0, none⟩) m c1] w fun e w' => e = .returned (.bool (sameC n m xs ys us vs)) ∧ Below w.heap.size w w' := specSameCurve_any b0 n c0 b1 m c1 xs ys us vs hn hm w hr hr'
theorem implSame_ex (b0 n c0 : Nat) (xs ys : Nat → Int) (b1 m c1 : Nat) (us vs : Nat → Int) (hn : n ≤ 1048576) (hm : m ≤ 1048576) (_ : SmallP n xs ys) (_ : SmallP m us vs) (w : World) (hr : PtRow w b0 n xs ys) (hr' : PtRow w b1 m us vs) :
    Calls Try.prog 12 #[.slice (some ⟨b0, 0, none⟩) n c0, .slice (some ⟨b1, 0, none⟩) m c1] w fun e w' => e = .returned (.bool (sameC n m xs ys us vs)) ∧ Below w.heap.size w w' := SameCurve_any b0 n c0 b1 m c1 xs ys us vs hn hm w hr hr'
end Go.Proofs.Ytpombpphicmhmaa

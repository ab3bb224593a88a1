/-
  Lists of steps that are the same: what both sides' functions return. Condition: at most 1048576 entries each.
-/
import Derived.Test.YtbpiajnkfccndaaSteps
namespace Go.Proofs.Ytbpiajnkfccndaa
open Go.RowKit

/-- The first k points of two lists are the same. -/
def SamePrS (k : Nat) (xs ys us vs : Nat → Int) : Prop := ∀ j, j < k → xs j = us j ∧ ys j = vs j
def sameU (xs ys us vs : Nat → Int) : Nat → Bool
  | 0 => true
  | k + 1 => sameU xs ys us vs k && (decide (xs k = us k) && decide (ys k = vs k))
theorem sameU_iff {xs ys us vs : Nat → Int} : ∀ {n : Nat}, sameU xs ys us vs n = true ↔ SamePrS n xs ys us vs
  | 0 => by simp [sameU, SamePrS]
  | n + 1 => by
    rw [sameU, Bool.and_eq_true, sameU_iff, Bool.and_eq_true, decide_eq_true_eq, decide_eq_true_eq]
    constructor
    · rintro ⟨h, h1⟩ j hj
      rcases Nat.lt_or_ge j n with h2 | h2
      · exact h j h2
      · obtain rfl : j = n := by omega
        exact h1
    · intro h
      exact ⟨fun j hj => h j (by omega), h n (by omega)⟩
def sameS (n m : Nat) (xs ys us vs : Nat → Int) : Bool := decide (n = m) && sameU xs ys us vs n
theorem sames_no {n m k : Nat} {xs ys us vs : Nat → Int} (hk : k < n) (h : ¬ (xs k = us k ∧ ys k = vs k)) : sameS n m xs ys us vs = false := by
  rcases hs : sameS n m xs ys us vs with _ | _
  · rfl
  · rw [sameS, Bool.and_eq_true] at hs
    exact absurd (sameU_iff.1 hs.2 k hk) h
theorem sames_len {n m : Nat} {xs ys us vs : Nat → Int} (h : n ≠ m) : sameS n m xs ys us vs = false := by simp [sameS, h]
theorem sames_yes {n : Nat} {xs ys us vs : Nat → Int} (h : SamePrS n xs ys us vs) : sameS n n xs ys us vs = true := by simp [sameS, sameU_iff.2 h]

set_option maxRecDepth 100000 in
set_option maxHeartbeats 1000000 in
theorem specSameSteps_any (b n cap b' m cap' : Nat) (xs ys us vs : Nat → Int) (hn : n ≤ 1048576) (hm : m ≤ 1048576) (w : World) (hr : StRow w b n xs ys) (hr' : StRow w b' m us vs) :
    Calls Try.prog 20 #[.slice (some ⟨b, 0, none⟩) n cap, .slice (some ⟨b', 0, none⟩) m cap'] w fun e w' => e = .returned (.bool (sameS n m xs ys us vs)) ∧ Below w.heap.size w w' := by
  by_cases hnm : n = m
  · subst hnm
    go_enter Try.func20, Try.ntmps20
    go_wp2
    go_loopw [5] (fun i wr => ∃ k : Nat, k ≤ n ∧ i = .int .i64 k ∧ SamePrS k xs ys us vs ∧ ∃ q, wr = w.drewN q) (fun i _ => n - (intOf i).toNat)
    case atStart => exact ⟨0, Nat.zero_le _, rfl, fun j hj => by omega, 0, rfl⟩
    case round =>
      obtain ⟨k, hk, rfl, hp, q, rfl⟩ := hrel
      have Hp := Lib.hid hp; clear hp
      by_cases hkn : k < n
      · have c0 := hr.cell0 hkn
        have c1 := hr.cell1 hkn
        have d0 := hr'.cell0 hkn
        have d1 := hr'.cell1 hkn
        by_cases h0 : xs k = us k
        · by_cases h1 : ys k = vs k
          · have hq : SamePrS (k + 1) xs ys us vs := fun j hj => by
              rcases Nat.lt_or_ge j k with h2 | h2
              · exact Hp.out j h2
              · obtain rfl : j = k := by omega
                exact ⟨h0, h1⟩
            have Hq := Lib.hid hq; clear hq
            rw [← h0] at d0
            rw [← h1] at d1
            clear h0 h1
            go_wp2_with fail
            go_quiet (fail)
            go_wp2
            go_roundw
            case rel => exact ⟨k + 1, by omega, by go_num, Hq.out, _, rfl⟩
            case measure => simp [intOf]; omega
          · have hno := sames_no (m := n) hkn (fun h => h1 h.2 : ¬ (xs k = us k ∧ ys k = vs k))
            have Hno := Lib.hid hno; clear hno
            rw [← h0] at d0
            have e1 : (ys k == vs k) = false := by simpa using h1
            go_wp2_with fail
            go_quiet (fail)
            go_wp2
            go_ret
            exact ⟨ret_bool Hno.out.symm, below_drewS (below_drewS (Below.refl _ _) _) _⟩
        · have hno := sames_no (m := n) hkn (fun h => h0 h.1 : ¬ (xs k = us k ∧ ys k = vs k))
          have Hno := Lib.hid hno; clear hno
          have e1 : (xs k == us k) = false := by simpa using h0
          go_wp2_with fail
          go_quiet (fail)
          go_wp2
          go_ret
          exact ⟨ret_bool Hno.out.symm, below_drewS (below_drewS (Below.refl _ _) _) _⟩
      · have e : k = n := by omega
        subst e
        have hy := sames_yes Hp.out
        have Hy := Lib.hid hy; clear hy
        go_wp2
        go_ret
        exact ⟨ret_bool Hy.out.symm, below_drewS (Below.refl _ _) _⟩
  · rw [sames_len hnm]
    have hnm2 : ((n : Int) == (m : Int)) = false := by simp; omega
    have hnm3 : ((n : Int) != (m : Int)) = true := by simp; omega
    go_enter Try.func20, Try.ntmps20
    go_wp2
    go_ret
    exact ⟨rfl, Below.refl _ _⟩

set_option maxRecDepth 100000 in
set_option maxHeartbeats 1000000 in
theorem slicesEqualSt_any (b n cap b' m cap' : Nat) (xs ys us vs : Nat → Int) (hn : n ≤ 1048576) (hm : m ≤ 1048576) (w : World) (hr : StRow w b n xs ys) (hr' : StRow w b' m us vs) :
    Calls Try.prog 33 #[.slice (some ⟨b, 0, none⟩) n cap, .slice (some ⟨b', 0, none⟩) m cap'] w fun e w' => e = .returned (.bool (sameS n m xs ys us vs)) ∧ Below w.heap.size w w' := by
  by_cases hnm : n = m
  · subst hnm
    go_enter Try.func33, Try.ntmps33
    go_wp2
    go_loopw [13] (fun i wr => ∃ k : Nat, k ≤ n ∧ i = .int .i64 k ∧ SamePrS k xs ys us vs ∧ ∃ q, wr = w.drewN q) (fun i _ => n - (intOf i).toNat)
    case atStart => exact ⟨0, Nat.zero_le _, rfl, fun j hj => by omega, 0, rfl⟩
    case round =>
      obtain ⟨k, hk, rfl, hp, q, rfl⟩ := hrel
      have Hp := Lib.hid hp; clear hp
      by_cases hkn : k < n
      · have c0 := hr.cell0 hkn
        have c1 := hr.cell1 hkn
        have d0 := hr'.cell0 hkn
        have d1 := hr'.cell1 hkn
        by_cases h0 : xs k = us k
        · by_cases h1 : ys k = vs k
          · have hq : SamePrS (k + 1) xs ys us vs := fun j hj => by
              rcases Nat.lt_or_ge j k with h2 | h2
              · exact Hp.out j h2
              · obtain rfl : j = k := by omega
                exact ⟨h0, h1⟩
            have Hq := Lib.hid hq; clear hq
            rw [← h0] at d0
            rw [← h1] at d1
            clear h0 h1
            go_wp2_with fail
            go_quiet (fail)
            go_wp2
            go_roundw
            case rel => exact ⟨k + 1, by omega, by go_num, Hq.out, _, rfl⟩
            case measure => simp [intOf]; omega
          · have hno := sames_no (m := n) hkn (fun h => h1 h.2 : ¬ (xs k = us k ∧ ys k = vs k))
            have Hno := Lib.hid hno; clear hno
            rw [← h0] at d0
            have e1 : (ys k == vs k) = false := by simpa using h1
            go_wp2_with fail
            go_quiet (fail)
            go_wp2
            go_ret
            exact ⟨ret_bool Hno.out.symm, below_drewS (below_drewS (Below.refl _ _) _) _⟩
        · have hno := sames_no (m := n) hkn (fun h => h0 h.1 : ¬ (xs k = us k ∧ ys k = vs k))
          have Hno := Lib.hid hno; clear hno
          have e1 : (xs k == us k) = false := by simpa using h0
          go_wp2_with fail
          go_quiet (fail)
          go_wp2
          go_ret
          exact ⟨ret_bool Hno.out.symm, below_drewS (below_drewS (Below.refl _ _) _) _⟩
      · have e : k = n := by omega
        subst e
        have hy := sames_yes Hp.out
        have Hy := Lib.hid hy; clear hy
        go_wp2
        go_ret
        exact ⟨ret_bool Hy.out.symm, below_drewS (Below.refl _ _) _⟩
  · rw [sames_len hnm]
    have hnm2 : ((n : Int) == (m : Int)) = false := by simp; omega
    have hnm3 : ((n : Int) != (m : Int)) = true := by simp; omega
    go_enter Try.func33, Try.ntmps33
    go_wp2
    go_ret
    exact ⟨rfl, Below.refl _ _⟩

set_option maxHeartbeats 1000000 in
theorem SameSteps_any (b n cap b' m cap' : Nat) (xs ys us vs : Nat → Int) (hn : n ≤ 1048576) (hm : m ≤ 1048576) (w : World) (hr : StRow w b n xs ys) (hr' : StRow w b' m us vs) :
    Calls Try.prog 21 #[.slice (some ⟨b, 0, none⟩) n cap, .slice (some ⟨b', 0, none⟩) m cap'] w fun e w' => e = .returned (.bool (sameS n m xs ys us vs)) ∧ Below w.heap.size w w' := by
  have hk := slicesEqualSt_any b n cap b' m cap' xs ys us vs hn hm
  generalize sameS n m xs ys us vs = V at hk ⊢
  have Hk := Lib.hid hk; clear hk
  go_enter Try.func21, Try.ntmps21
  go_wp2_with fail
  refine (Hk.out _ hr hr').mono ?_; rintro e w1 ⟨rfl, hb1⟩
  go_wp2_with fail
  go_ret
  exact ⟨rfl, hb1⟩
end Go.Proofs.Ytbpiajnkfccndaa

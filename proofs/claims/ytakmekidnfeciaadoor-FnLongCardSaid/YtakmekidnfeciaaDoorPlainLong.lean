/-
  Tables of what long exposures need more: longer shutters never need less; what has been metered is among what comes back; a number sought in a list. No condition of ours.
-/
import Derived.Test.YtakmekidnfeciaaDoorMetered
import Derived.Test.YtakmekidnfeciaaDoorOwnInts
import Derived.Test.YtakmekidnfeciaaDoorPlainTimes
namespace Go.Proofs.YtakmekidnfeciaaDoor
open Go.RowKit

theorem small_of_valid {n : Nat} {fs es : Nat → Int} (h : validT n fs es = true) : Small n fs es := fun j hj => by
  have h1 := tabOk_prev (tabOk_le (show j + 1 ≤ n by omega) (validT_tab h))
  omega
theorem step_le {fs es : Nat → Int} {n k : Nat} (ht : tabOk fs es n = true) (hk : k < n) : prevE es k ≤ es k := by
  have h := tabOk_le (show k + 1 ≤ n by omega) ht
  simp only [tabOk, Bool.and_eq_true, stepOk] at h
  exact (inB_true.1 h.2.2).1
theorem exA_le {fs es : Nat → Int} {n : Nat} (sh : Int) (ht : tabOk fs es n = true) : ∀ k : Nat, k ≤ n → exA fs es sh k ≤ prevE es k
  | 0, _ => Int.le_refl _
  | k + 1, hk => by
    have h1 := exA_le sh ht k (by omega)
    have h2 := step_le ht (show k < n by omega)
    show _ ≤ es k
    by_cases h : fs k ≤ sh
    · rw [exA_yes h]; exact Int.le_refl _
    · rw [exA_no (by omega)]; omega
theorem exA_mono {fs es : Nat → Int} {n : Nat} {a b : Int} (hab : a ≤ b) (ht : tabOk fs es n = true) : ∀ k : Nat, k ≤ n → exA fs es a k ≤ exA fs es b k
  | 0, _ => Int.le_refl _
  | k + 1, hk => by
    have h1 := exA_mono hab ht k (by omega)
    have h2 := exA_le a ht k (by omega)
    have h3 := step_le ht (show k < n by omega)
    by_cases h : fs k ≤ a
    · rw [exA_yes h, exA_yes (by omega)]; exact Int.le_refl _
    · rw [exA_no (by omega)]
      by_cases h' : fs k ≤ b
      · rw [exA_yes h']; omega
      · rw [exA_no (by omega)]; exact h1
theorem metL_mem {fs es : Nat → Int} {n : Nat} {t : Int} {a : Nat} (h : (a : Int) + exA fs es a n = t) : ∀ K : Nat, a < K → (a : Int) ∈ metL fs es n t K
  | 0, hk => by omega
  | K + 1, hk => by
    unfold metL
    by_cases e : a = K
    · subst e
      rw [if_pos h]; simp
    · exact List.mem_append_left _ (metL_mem h K (by omega))
theorem metL_prop {fs es : Nat → Int} {n : Nat} {t : Int} : ∀ (K : Nat) (x : Int), x ∈ metL fs es n t K → 0 ≤ x ∧ x < K ∧ x + exA fs es x n = t
  | 0, x, h => by simp [metL] at h
  | K + 1, x, h => by
    unfold metL at h
    rcases List.mem_append.1 h with h | h
    · have := metL_prop K x h; omega
    · split at h
      · rename_i hc
        have e : x = K := by simpa using h
        subst e
        exact ⟨by omega, by omega, hc⟩
      · simp at h
theorem fac_spec (f : Int) (h : f ≤ 1000) : 1000 * f ≤ tm (fac f) ∧ (0 < fac f → tm (fac f - 1) < 1000 * f) := by
  have h1 := cl_spec (1000 * f)
  have h2 := fac_bd f h
  unfold fac at *
  constructor
  · rcases h1.2 with h3 | h3 <;> omega
  · intro h4
    rcases h1.1 with h3 | h3
    · omega
    · exact h3

set_option maxHeartbeats 1000000 in
theorem l00Has_mem (L U : Nat) (v : Value) (l : List Int) (x : Int) (hx : x ∈ l) (hn : l.length ≤ 1048576) (w : World) (hm : Mine w L U 2 1 v l.length (fun j => .int .i64 (l.getD j 0))) :
    Calls Tryd.prog 90 #[v, .int .i64 x] w fun e w' => e = .returned (.bool true) ∧ w = w' := by
  obtain ⟨A, cap, rfl, h1⟩ := hm
  have hpos : 0 < l.length := List.length_pos_iff.2 (List.ne_nil_of_mem hx)
  rcases h1 with h0 | ⟨b, m, h, rfl, _, _, hm, hr, he⟩
  · omega
  have Hx := Lib.hid (show ∃ j, j < l.length ∧ l.getD j 0 = x by
    obtain ⟨j, hj, e⟩ := List.getElem_of_mem hx
    exact ⟨j, hj, by rw [List.getD_eq_getElem?_getD, List.getElem?_eq_getElem hj]; exact e⟩)
  clear hx
  have Hc := Lib.hid (show ∀ k, k < l.length → w.cell? ⟨b, k, none⟩ = some (.int .i64 (l.getD k 0)) from fun k hk => by rw [hr.cell (by omega), he k (by omega)])
  clear hr he hm
  go_enter Tryd.func90, Tryd.ntmps90
  go_wp2
  go_loop [5] (fun i => ∃ k : Nat, k ≤ l.length ∧ i = .int .i64 k ∧ ∀ j, j < k → l.getD j 0 ≠ x) (fun i => l.length - (intOf i).toNat)
  case atStart => exact ⟨0, Nat.zero_le _, rfl, fun j hj => by omega⟩
  case round =>
    obtain ⟨k, hk, rfl, hno⟩ := hrel
    have Hno := Lib.hid hno; clear hno
    by_cases hkn : k < l.length
    · have c1 := Hc.out k hkn
      generalize hy : l.getD k 0 = y at c1
      have Hy := Lib.hid hy; clear hy
      by_cases hq : y = x
      · have hqb : (y == x) = true := by simpa using hq
        clear hq
        go_wp2
        go_ret
        exact ⟨rfl, rfl⟩
      · have hqb : (y == x) = false := by simpa using hq
        have Hq := Lib.hid hq; clear hq
        go_wp2
        go_round
        case rel => exact ⟨k + 1, by omega, by go_num, fun j hj => by
          by_cases e : j = k
          · subst e; rw [Hy.out]; exact Hq.out
          · exact Hno.out j (by omega)⟩
        case measure => simp [intOf]; omega
    · exfalso
      obtain ⟨j, hj, e⟩ := Hx.out
      exact Hno.out j (by omega) e

theorem HasNumber_mem (L U : Nat) (v : Value) (l : List Int) (x : Int) (hx : x ∈ l) (hn : l.length ≤ 1048576) (w : World) (hm : Mine w L U 2 1 v l.length (fun j => .int .i64 (l.getD j 0))) :
    Calls Tryd.prog 47 #[v, .int .i64 x] w fun e w' => e = .returned (.bool true) ∧ w = w' := by
  have h := l00Has_mem L U v l x hx hn w hm
  have H := Lib.hid h; clear h hm
  go_enter Tryd.func47, Tryd.ntmps47
  go_wp2_with fail
  refine H.out.mono ?_; rintro e w1 ⟨rfl, rfl⟩
  go_wp2_with fail
  go_ret
  exact ⟨rfl, rfl⟩
end Go.Proofs.YtakmekidnfeciaaDoor

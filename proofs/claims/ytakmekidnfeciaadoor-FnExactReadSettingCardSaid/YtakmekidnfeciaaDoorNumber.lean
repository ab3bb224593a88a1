/-
  The reference's reader of a number. Condition: at most 1048576 bytes.
-/
import Derived.Test.YtakmekidnfeciaaDoorSplit
import Derived.Deep.DeepCutAuto
namespace Go.Proofs.YtakmekidnfeciaaDoor
open Go.RowKit

theorem dig_step (s : ByteArray) (k : Nat) (h : k < s.size) : numVal (s.data.toList.take (k + 1)) = 10 * numVal (s.data.toList.take k) + (s[k].toNat - 48) := by
  rw [take_snocB s k h, numVal_snoc]
theorem dig_all (s : ByteArray) (k : Nat) (h : k < s.size) (ha : allDig (s.data.toList.take k) = true) (hd : isDig s[k] = true) : allDig (s.data.toList.take (k + 1)) = true := by
  rw [take_snocB s k h]
  simp only [allDig, List.all_append, List.all_cons, List.all_nil, Bool.and_true, Bool.and_eq_true]
  exact ⟨ha, hd⟩
theorem dig_not (s : ByteArray) (k : Nat) (h : k < s.size) (hd : isDig s[k] = false) : allDig s.data.toList = false := by
  rcases hb : allDig s.data.toList with _ | _
  · rfl
  · have h1 : k < s.data.toList.length := by simpa using h
    have h2 := List.all_eq_true.1 hb (s.data.toList[k]) (List.getElem_mem h1)
    have h3 : s.data.toList[k] = s[k] := rfl
    rw [h3, hd] at h2; cases h2
theorem head_B (s : ByteArray) (h : 0 < s.size) : s.data.toList.head? = some s[0] := by
  have h1 : 0 < s.data.toList.length := by simpa using h
  rw [List.head?_eq_getElem?, List.getElem?_eq_getElem h1]
  rfl
theorem numOk_mk (s : ByteArray) (h : 0 < s.size) (h9 : s.size ≤ 9) (h0 : ¬ s[0].toNat = 48 ∨ s.size = 1) (hd : allDig s.data.toList = true) : numOk s.data.toList = true := by
  have hlen : s.data.toList.length = s.size := by simp
  have hne : s.data.toList ≠ [] := by intro e; rw [e] at hlen; simp at hlen; omega
  simp only [numOk, Bool.and_eq_true, Bool.not_eq_true', List.isEmpty_eq_false_iff, decide_eq_true_eq, hlen, head_B s h]
  refine ⟨⟨⟨hne, h9⟩, ?_⟩, hd⟩
  rcases h0 with h0 | h0
  · have : ¬ s[0] = 48 := fun e => h0 (by rw [e]; rfl)
    simp [this]
  · simp [h0]
theorem numOk_zero (s : ByteArray) (h : 1 < s.size) (h0 : s[0].toNat = 48) : numOk s.data.toList = false := by
  have hlen : s.data.toList.length = s.size := by simp
  have e : s[0] = 48 := by rw [← UInt8.toNat_inj]; exact h0
  have hh := head_B s (by omega)
  rw [e] at hh
  unfold numOk
  rw [hh, hlen]
  simp [h]
theorem numOk_long (s : ByteArray) (h : 9 < s.size) : numOk s.data.toList = false := by
  have hlen : s.data.toList.length = s.size := by simp
  have h1 : ¬ s.size ≤ 9 := by omega
  unfold numOk
  rw [hlen]
  simp [h1]
theorem numOk_dig (s : ByteArray) (h : allDig s.data.toList = false) : numOk s.data.toList = false := by
  unfold numOk
  rw [h]; simp

/-- What is read: a number of at most nine digits. -/
def numR (l : List UInt8) : Int := if numOk l = true then (numVal l : Int) else 0
def NumOut (l : List UInt8) (w : World) (e : Ending) (w' : World) : Prop := e = .returned (.tuple #[.int .i64 (numR l), .bool (numOk l)]) ∧ w = w'
theorem numOut_no {l : List UInt8} (h : numOk l = false) (w : World) : NumOut l w (.returned (.tuple #[.int .i64 0, .bool false])) w := by simp [NumOut, numR, h]
theorem numOut_yes {l : List UInt8} (h : numOk l = true) (w : World) {n : Int} (hn : n = numVal l) : NumOut l w (.returned (.tuple #[.int .i64 n, .bool true])) w := by simp [NumOut, numR, h, hn]

set_option maxRecDepth 100000 in
set_option maxHeartbeats 2000000 in
theorem l01Number_any (s : ByteArray) (hs : s.size ≤ 1048576) (w : World) :
    Calls Tryd.prog 80 #[.string s] w (NumOut s.data.toList w) := by
  have hlen : s.data.toList.length = s.size := by simp
  by_cases h0 : s.size = 0
  · have hl : s.data.toList = [] := List.length_eq_zero_iff.1 (by omega)
    have hn : numOk s.data.toList = false := by rw [hl]; rfl
    have e1 : s.toList = [] := by rw [Lib.toList_data]; exact hl
    have Hn := Lib.hid hn; clear hn hl hlen
    go_enter Tryd.func80, Tryd.ntmps80
    go_wp2_with fail
    go_ret2
    exact numOut_no Hn.out _
  · have hne : ¬ s.toList = [] := by
      rw [Lib.toList_data]; intro e; rw [e] at hlen; simp at hlen; omega
    have hie : s.toList.isEmpty = false := by simpa using hne
    have hpos : 0 < s.size := by omega
    by_cases h9 : 9 < s.size
    · have Hn := Lib.hid (numOk_long s h9)
      clear hlen
      go_enter Tryd.func80, Tryd.ntmps80
      go_wp2_with fail
      go_ret2
      exact numOut_no Hn.out _
    · have h9' : (s.size : Int) ≤ 9 := by omega
      have Hlen := Lib.hid hlen; clear hlen
      by_cases hz : s[0].toNat = 48 ∧ 1 < s.size
      · have Hn := Lib.hid (numOk_zero s hz.2 hz.1)
        have z1 : ((s[0].toNat : Nat) : Int) = 48 := by omega
        have z2 : 1 < (s.size : Int) := by omega
        have hzb : (((s[0].toNat : Nat) : Int) == 48) = true := by simpa using z1
        clear hz
        go_enter Tryd.func80, Tryd.ntmps80
        go_wp2_with fail
        go_ret2
        exact numOut_no Hn.out _
      · have Hz := Lib.hid (show ¬ s[0].toNat = 48 ∨ s.size = 1 by omega)
        have hcase : (¬ ((s[0].toNat : Nat) : Int) = 48 ∧ (((s[0].toNat : Nat) : Int) == 48) = false) ∨ (((s[0].toNat : Nat) : Int) = 48 ∧ (((s[0].toNat : Nat) : Int) == 48) = true ∧ (s.size : Int) ≤ 1) := by
          by_cases hq : ((s[0].toNat : Nat) : Int) = 48
          · exact .inr ⟨hq, by simpa using hq, by omega⟩
          · exact .inl ⟨hq, by simpa using hq⟩
        clear hz
        rcases hcase with ⟨z1, z2⟩ | ⟨z1, z2, z3⟩
        all_goals
          go_enter Tryd.func80, Tryd.ntmps80
          go_wp2_with fail
          go_loop [4, 5] (fun n i => ∃ k : Nat, k ≤ s.size ∧ i = .int .i64 k ∧ n = .int .i64 (numVal (s.data.toList.take k)) ∧ allDig (s.data.toList.take k) = true) (fun _ i => s.size - (intOf i).toNat)
          case atStart => exact ⟨0, Nat.zero_le _, rfl, rfl, rfl⟩
          case round =>
            clear z1 z2
            obtain ⟨k, hk, rfl, rfl, ha⟩ := hrel
            by_cases hkn : k < s.size
            · rcases hd : isDig s[k] with _ | _
              · have Hn := Lib.hid (numOk_dig s (dig_not s k hkn hd))
                have hd' : s[k].toNat < 48 ∨ 57 < s[k].toNat := by simp [isDig] at hd; omega
                clear ha hd
                generalize numVal (s.data.toList.take k) = m
                rcases hd' with hd' | hd'
                · have d1 : ((s[k].toNat : Nat) : Int) < 48 := by omega
                  go_wp2_with fail
                  go_ret2
                  exact numOut_no Hn.out _
                · have d1 : 57 < ((s[k].toNat : Nat) : Int) := by omega
                  have d2 : ¬ ((s[k].toNat : Nat) : Int) < 48 := by omega
                  go_wp2_with fail
                  go_ret2
                  exact numOut_no Hn.out _
              · have hal := dig_all s k hkn ha hd
                have hlt := numVal_lt 9 (s.data.toList.take k) (by rw [List.length_take]; omega) ha
                have hd' : 48 ≤ s[k].toNat ∧ s[k].toNat ≤ 57 := by simp [isDig] at hd; omega
                clear ha hd
                generalize hmm : numVal (s.data.toList.take k) = m at hlt
                have hm : (m : Int) < 1000000000 := by omega
                have Hmm := Lib.hid hmm; clear hmm hlt
                have Hal := Lib.hid hal; clear hal
                have d1 : ¬ ((s[k].toNat : Nat) : Int) < 48 := by omega
                have d2 : ¬ 57 < ((s[k].toNat : Nat) : Int) := by omega
                clear hd'
                go_wp2_with fail
                go_round
                case rel =>
                  have hst := dig_step s k hkn
                  rw [Hmm.out] at hst
                  exact ⟨k + 1, by omega, by go_num, congrArg (Value.int .i64) (by rw [hst]; omega), Hal.out⟩
                case measure => simp [intOf]; omega
            · have e : k = s.size := by omega
              subst e
              have ht : s.data.toList.take s.size = s.data.toList := List.take_of_length_le (by rw [Hlen.out]; exact Nat.le_refl _)
              rw [ht] at ha ⊢
              clear ht
              have Hn := Lib.hid (numOk_mk s hpos (by omega) Hz.out ha)
              clear ha
              generalize hv : numVal s.data.toList = v
              have Hv := Lib.hid hv; clear hv
              go_wp2_with fail
              go_ret2
              exact numOut_yes Hn.out _ (by rw [Hv.out])
end Go.Proofs.YtakmekidnfeciaaDoor

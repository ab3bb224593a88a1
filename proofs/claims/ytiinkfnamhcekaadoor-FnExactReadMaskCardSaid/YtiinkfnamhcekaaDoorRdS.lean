/-
  A mask read from its text by the reference. Condition: at most 1048576 bytes.
-/
import Derived.Test.YtiinkfnamhcekaaDoorRdP
namespace Go.Proofs.YtiinkfnamhcekaaDoor
open Go.RowKit

theorem at_B (s : ByteArray) (i : Nat) (h : i < s.size) : s.data.toList[i]? = some s[i] := by
  have h1 : i < s.data.toList.length := by simpa using h
  rw [List.getElem?_eq_getElem h1]; rfl
theorem u8_of (b : UInt8) (n : Nat) (h : b.toNat = n) (hn : n < 256) : b = UInt8.ofNat n := by
  rw [← UInt8.toNat_inj, UInt8.toNat_ofNat', h]; omega

set_option maxRecDepth 100000 in
set_option maxHeartbeats 2000000 in
theorem specReadMask_any (s : ByteArray) (hs : s.size ≤ 1048576) (w : World) :
    Calls Tryd.prog 4 #[.string s] w fun e w' => e = .returned (.tuple #[.int .u64 (rdX s.data.toList), .int .i64 (rdC s.data.toList)]) ∧ w = w' := by
  have hlen : s.data.toList.length = s.size := by simp
  by_cases h72 : s.size = 72
  rotate_left
  · have hne : ¬ (s.size : Int) = 72 := by omega
    obtain ⟨hx, hc⟩ := rd_len (l := s.data.toList) (by omega)
    rw [hx, hc]
    clear hx hc hlen h72
    go_enter Tryd.func4, Tryd.ntmps4
    go_wp2_with fail
    go_ret2
    exact ⟨rfl, rfl⟩
  have h72' : (s.size : Int) = 72 := by omega
  have Hat := Lib.hid (at_B s)
  have Hlen := Lib.hid hlen; clear hlen
  have HF := Lib.hid (rd_mk (l := s.data.toList) (by rw [Hlen.out]; exact h72))
  have HB := Lib.hid (fun i b => rd_bad (l := s.data.toList) (i := i) (b := b))
  have HY := Lib.hid (fun m => rd_yes (l := s.data.toList) (m := m))
  have HPi : Hid (∀ (i : Nat) (h : i < s.size), i % 9 ≠ 8 → bitsL s.data.toList (i - i / 9) = (s[i] == 35)) := Lib.hid fun i h h9 => by
    unfold bitsL
    rw [List.getD_eq_getElem?_getD, show i - i / 9 + (i - i / 9) / 8 = i by omega, at_B s i h]
    rfl
  generalize bitsL s.data.toList = p at *
  generalize hX : rdX s.data.toList = X at *
  generalize hC : rdC s.data.toList = C at *
  clear hX hC
  go_enter Tryd.func4, Tryd.ntmps4
  go_wp2_with fail
  go_loop [4, 5, 6] (fun mv kv iv => ∃ i : Nat, i ≤ 72 ∧ iv = .int .i64 (i : Int) ∧ kv = .int .i64 ((i - i / 9 : Nat) : Int) ∧ mv = .int .u64 ((maskN p (i - i / 9) : Nat) : Int) ∧ ∀ j b, j < i → s.data.toList[j]? = some b → okAt j b) (fun _ _ iv => 72 - (intOf iv).toNat)
  case atStart => exact ⟨0, by omega, rfl, rfl, rfl, fun j b hj => by omega⟩
  case round =>
    obtain ⟨i, hi, rfl, rfl, rfl, hall⟩ := hrel
    have HA := Lib.hid hall; clear hall
    by_cases hin : i < 72
    rotate_left
    · obtain rfl : i = 72 := by omega
      have hl := HF.out (fun i b h1 h2 => HA.out i b h1 h2)
      obtain ⟨rfl, rfl⟩ := HY.out _ hl
      clear hl
      go_wp2_with fail
      go_ret2
      exact ⟨by rw [mkR_bvI]; rfl, rfl⟩
    have hin' : (i : Int) < 72 := by omega
    have his : i < s.size := by omega
    have his' : (i : Int) < s.size := by omega
    have hb := Hat.out i his
    have hm9 : Int.tmod (i : Int) 9 = ((i % 9 : Nat) : Int) := by rw [Int.tmod_eq_emod_of_nonneg (by omega)]; omega
    have hHB := Lib.hid (HB.out i _ hin hb)
    by_cases h8 : i % 9 = 8
    · rw [show ((i % 9 : Nat) : Int) = 8 by omega] at hm9
      by_cases hn : s[i].toNat = 10
      · have z1 : ((s[i].toNat : Nat) : Int) = 10 := by omega
        have z2 : (((s[i].toNat : Nat) : Int) == 10) = true := by simpa using z1
        have hok : Hid (okAt i s[i]) := Lib.hid (by unfold okAt; rw [if_pos h8]; exact u8_of _ 10 hn (by omega))
        have HBb := Lib.hid hb
        have hk : i + 1 - (i + 1) / 9 = i - i / 9 := by omega
        have HK := Lib.hid hk
        clear hb hn hk h8
        go_wp2_with fail
        go_round
        case rel => exact ⟨i + 1, by omega, by go_num, by rw [HK.out], by rw [HK.out], fun j b hj hjb => by
          by_cases e : j = i
          · subst e
            rw [HBb.out] at hjb
            rw [← Option.some.inj hjb]
            exact hok.out
          · exact HA.out j b (by omega) hjb⟩
        case measure => simp [intOf]; omega
      · have z1 : ¬ ((s[i].toNat : Nat) : Int) = 10 := by omega
        have z2 : (((s[i].toNat : Nat) : Int) == 10) = false := by simpa using z1
        obtain ⟨rfl, rfl⟩ := hHB.out (by unfold okAt; rw [if_pos h8]; intro e; rw [e] at hn; exact hn rfl)
        clear hb hn h8
        go_wp2_with fail
        go_ret2
        exact ⟨rfl, rfl⟩
    · obtain ⟨r9, hr9, hne9⟩ : ∃ r9 : Int, ((i % 9 : Nat) : Int) = r9 ∧ ¬ r9 = 8 := ⟨_, rfl, by omega⟩
      rw [hr9] at hm9
      have hp := HPi.out i his h8
      have hk : i + 1 - (i + 1) / 9 = (i - i / 9) + 1 := by omega
      have hk64 : i - i / 9 < 64 := by omega
      have HK := Lib.hid hk
      have HBb := Lib.hid hb
      have H8 := Lib.hid h8
      have hlt := maskN_lt p (i - i / 9) (by omega)
      have hyes := maskN_yes (p := p) (k := i - i / 9)
      have hno := maskN_no (p := p) (k := i - i / 9)
      have h2 := two_pow_lt64 hk64
      have HZ := Lib.hid (show ((i - i / 9 : Nat) : Int) + 1 = ((i + 1 - (i + 1) / 9 : Nat) : Int) by omega)
      clear hb hk h8 hr9
      generalize i - i / 9 = k at *
      have hk64' : (k : Int) < 64 := by omega
      by_cases h35 : s[i].toNat = 35
      · have z1 : ((s[i].toNat : Nat) : Int) = 35 := by omega
        have z2 : (((s[i].toNat : Nat) : Int) == 35) = true := by simpa using z1
        have e35 : s[i] = 35 := u8_of _ 35 h35 (by omega)
        have hok : Hid (okAt i s[i]) := Lib.hid (by unfold okAt; rw [if_neg H8.out]; exact .inl e35)
        have HY2 := Lib.hid (hyes (by rw [hp, e35]; rfl))
        have HL := Lib.hid hlt
        have H2 := Lib.hid h2
        clear hp e35 h35 hyes hno hlt h2
        generalize maskN p k = m at *
        go_wp2_with (first | (refine wpList_shl1 (κ := .u64) (k := k) _ _ rfl rfl rfl rfl hk64 ?_) | (refine wpList_or _ _ rfl rfl rfl rfl HL.out H2.out ?_))
        go_round
        case rel => exact ⟨i + 1, by omega, by go_num, by rw [← HZ.out], by rw [HK.out, HY2.out], fun j b hj hjb => by
          by_cases e : j = i
          · subst e
            rw [HBb.out] at hjb
            rw [← Option.some.inj hjb]
            exact hok.out
          · exact HA.out j b (by omega) hjb⟩
        case measure => simp [intOf]; omega
      · have z1 : ¬ ((s[i].toNat : Nat) : Int) = 35 := by omega
        have z2 : (((s[i].toNat : Nat) : Int) == 35) = false := by simpa using z1
        by_cases h46 : s[i].toNat = 46
        · have z3 : ((s[i].toNat : Nat) : Int) = 46 := by omega
          have z4 : (((s[i].toNat : Nat) : Int) == 46) = true := by simpa using z3
          have e46 : s[i] = 46 := u8_of _ 46 h46 (by omega)
          have hok : Hid (okAt i s[i]) := Lib.hid (by unfold okAt; rw [if_neg H8.out]; exact .inr e46)
          have HN2 := Lib.hid (hno (by rw [hp, e46]; rfl))
          clear hp e46 h46 h35 hyes hno hlt h2
          generalize maskN p k = m at *
          go_wp2_with fail
          go_round
          case rel => exact ⟨i + 1, by omega, by go_num, by rw [← HZ.out], by rw [HK.out, HN2.out], fun j b hj hjb => by
            by_cases e : j = i
            · subst e
              rw [HBb.out] at hjb
              rw [← Option.some.inj hjb]
              exact hok.out
            · exact HA.out j b (by omega) hjb⟩
          case measure => simp [intOf]; omega
        · have z3 : ¬ ((s[i].toNat : Nat) : Int) = 46 := by omega
          have z4 : (((s[i].toNat : Nat) : Int) == 46) = false := by simpa using z3
          obtain ⟨rfl, rfl⟩ := hHB.out (by
            unfold okAt
            rw [if_neg H8.out]
            rintro (e | e)
            · rw [e] at h35; exact h35 rfl
            · rw [e] at h46; exact h46 rfl)
          clear hp h46 h35 hyes hno hlt h2
          generalize maskN p k = m at *
          go_wp2_with fail
          go_ret2
          exact ⟨rfl, rfl⟩
end Go.Proofs.YtiinkfnamhcekaaDoor

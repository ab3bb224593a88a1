/-
  The reference's readers: splitting a text at a blank, a name sought, a number read. Condition: at most 1048576 bytes.
-/
import Derived.Test.YtakmekidnfeciaaDoorTexts
import Derived.Test.YtakmekidnfeciaaDoorOwn
import Derived.Maps.AppendAt
import Derived.Deep.RegionWith
namespace Go.Proofs.YtakmekidnfeciaaDoor
open Go.RowKit

theorem strInfo : (Tryd.prog.info? 9).map (fun i => (i.zero, i.size, i.bytes)) = some (some (.string ⟨#[]⟩), 1, 16) := by kernel_rfl
theorem take_snocB (s : ByteArray) (k : Nat) (h : k < s.size) : s.data.toList.take (k + 1) = s.data.toList.take k ++ [s[k]] := by
  rw [List.take_succ_eq_append_getElem (by simpa using h)]; rfl
theorem spTo_yes (s : ByteArray) (k : Nat) (h : k < s.size) (e : s[k] = 32) : spTo 32 (s.data.toList.take (k + 1)) = ((spTo 32 (s.data.toList.take k)).1 ++ [(spTo 32 (s.data.toList.take k)).2], []) := by
  rw [take_snocB s k h, spTo_snoc, spStep, if_pos e]
theorem spTo_no (s : ByteArray) (k : Nat) (h : k < s.size) (e : ¬ s[k] = 32) : spTo 32 (s.data.toList.take (k + 1)) = ((spTo 32 (s.data.toList.take k)).1, (spTo 32 (s.data.toList.take k)).2 ++ [s[k]]) := by
  rw [take_snocB s k h, spTo_snoc, spStep, if_neg e]
theorem drop_snocB (s : ByteArray) (b k : Nat) (hb : b ≤ k) (h : k < s.size) : (s.data.toList.take (k + 1)).drop b = (s.data.toList.take k).drop b ++ [s[k]] := by
  rw [take_snocB s k h, List.drop_append_of_le_length]
  have : s.data.toList.length = s.size := by simp
  rw [List.length_take]; omega

/-- What comes back: a list of texts in memory of the call's own. -/
def MadeStr (l : List (List UInt8)) (w : World) (e : Ending) (w' : World) : Prop :=
  ∃ v, e = .returned v ∧ Mine w' w.heap.size w'.heap.size 9 1 v l.length (fun j => strV (l.getD j [])) ∧ Below w.heap.size w w'
theorem Mine.of_strs {w : World} {L : Nat} {v : Value} {l : List (List UInt8)} (h : w.ownsRow L 9 1 v l.length (l.map strV)) : Mine w L w.heap.size 9 1 v l.length (fun j => strV (l.getD j [])) :=
  (Mine.of_own h).congr fun j hj => by
    have hj' : j < l.length := by omega
    simp [hj']

set_option maxRecDepth 100000 in
set_option maxHeartbeats 1000000 in
theorem l01Split_any (s : ByteArray) (hs : s.size ≤ 1048576) (w : World) :
    Calls Tryd.prog 76 #[.string s, .int .u8 32] w (MadeStr (splitL 32 s.data.toList) w) := by
  obtain ⟨i0, hi, hz0, hz1, hz2⟩ := info_parts strInfo
  have hlen : s.data.toList.length = s.size := by simp
  go_enter Tryd.func76, Tryd.ntmps76
  go_wp2_with fail
  go_loopw [5, 6, 7] (fun v b i wr => ∃ k q : Nat, k ≤ s.size ∧ q ≤ k ∧ i = .int .i64 k ∧ b = .int .i64 q ∧ (spTo 32 (s.data.toList.take k)).2 = (s.data.toList.take k).drop q ∧ wr.ownsRow w.heap.size 9 1 v (spTo 32 (s.data.toList.take k)).1.length ((spTo 32 (s.data.toList.take k)).1.map strV) ∧ Below w.heap.size w wr) (fun _ _ i _ => s.size - (intOf i).toNat)
  case atStart => exact ⟨0, 0, Nat.zero_le _, Nat.le_refl _, rfl, rfl, rfl, World.ownsRow_lit w #[] 0 (Nat.le_refl _) (Nat.zero_le _) rfl, (Below.refl _ _).alloc (Nat.le_refl _) _⟩
  case round =>
    obtain ⟨k, q, hk, hq, rfl, rfl, hcur, hown, hB⟩ := hrel
    have hle := spTo_len 32 (s.data.toList.take k)
    rw [List.length_take, hlen] at hle
    have hsz := hB.size
    by_cases hkn : k < s.size
    · by_cases hc : s[k] = 32
      · have hy := spTo_yes s k hkn hc
        have hcb : (((s[k].toNat : Nat) : Int) == 32) = true := by rw [hc]; rfl
        have Hy := Lib.hid hy; clear hy hc
        have Hcur := Lib.hid hcur; clear hcur
        go_wp2_with (at_builtin; refine wpList_append_own _ rfl _ _ 85 rfl w.heap.size 9 i0 (.string ⟨#[]⟩) 1 16 Tryd.underlying85 hi hz0 hz1 hz2 rfl (by decide) _ _ _ rfl (hown.alloc _) ⟨wr.heap.size, 0, none⟩ 1 1 [.string (s.extract q k)] rfl rfl ?c1 ?c2 ?c3 ?c4 ?c5 ?_)
        case c1 =>
          intro j u hj
          match j, hj with
          | 0, hj => simp at hj; subst hj; simp [Addr.add, go_sem]
        case c2 => intro u hu; simp at hu; subst hu; rfl
        case c3 => unfold maxLen; omega
        case c4 => omega
        case c5 => simp; omega
        intro v' w2 hown2 hg2 _
        have hB2 : Below w.heap.size w w2 := (hB.alloc hsz _).grown hg2 (by simp; omega) (fun j hj => (hown.lt j hj).1)
        have hown3 : w2.ownsRow w.heap.size 9 1 v' (spTo 32 (s.data.toList.take (k + 1))).1.length ((spTo 32 (s.data.toList.take (k + 1))).1.map strV) := by
          rw [Hy.out, Hcur.out]
          simp only [List.length_append, List.length_cons, List.length_nil, List.map_append, List.map_cons, List.map_nil]
          rw [show strV ((s.data.toList.take k).drop q) = .string (s.extract q k) from congrArg Value.string (piece_eq s q k)]
          exact hown2
        clear hown hown2 hg2 hB
        go_wp2
        go_roundw
        case rel => exact ⟨k + 1, k + 1, by omega, Nat.le_refl _, by go_num, by go_num, by rw [Hy.out, List.drop_eq_nil_of_le (by rw [List.length_take]; omega)], hown3, hB2⟩
        case measure => simp [intOf]; omega
      · have hn := spTo_no s k hkn hc
        have hd := drop_snocB s q k hq hkn
        have hcb : (((s[k].toNat : Nat) : Int) == 32) = false := by
          rw [beq_eq_false_iff_ne]
          intro e
          exact hc (by rw [← UInt8.toNat_inj]; exact Int.ofNat.inj e)
        have Hn := Lib.hid hn; clear hn hc
        have Hd := Lib.hid hd; clear hd
        have Hcur := Lib.hid hcur; clear hcur
        go_wp2_with fail
        go_roundw
        case rel => exact ⟨k + 1, q, by omega, by omega, by go_num, rfl, by rw [Hn.out, Hd.out, Hcur.out], by rw [Hn.out]; exact hown, hB⟩
        case measure => simp [intOf]; omega
    · have e : k = s.size := by omega
      subst e
      have Hcur := Lib.hid hcur; clear hcur
      have ht : s.data.toList.take s.size = s.data.toList := List.take_of_length_le (by omega)
      go_wp2_with (at_builtin; refine wpList_append_own _ rfl _ _ 85 rfl w.heap.size 9 i0 (.string ⟨#[]⟩) 1 16 Tryd.underlying85 hi hz0 hz1 hz2 rfl (by decide) _ _ _ rfl (hown.alloc _) ⟨wr.heap.size, 0, none⟩ 1 1 [.string (s.extract q s.size)] rfl rfl ?c1 ?c2 ?c3 ?c4 ?c5 ?_)
      case c1 =>
        intro j u hj
        match j, hj with
        | 0, hj => simp at hj; subst hj; simp [Addr.add, go_sem]
      case c2 => intro u hu; simp at hu; subst hu; rfl
      case c3 => unfold maxLen; omega
      case c4 => omega
      case c5 => simp; omega
      intro v' w2 hown2 hg2 _
      have hB2 : Below w.heap.size w w2 := (hB.alloc hsz _).grown hg2 (by simp; omega) (fun j hj => (hown.lt j hj).1)
      have hown3 : w2.ownsRow w.heap.size 9 1 v' (splitL 32 s.data.toList).length ((splitL 32 s.data.toList).map strV) := by
        have e1 := Hcur.out
        have e2 : splitL 32 s.data.toList = (spTo 32 (s.data.toList.take s.size)).1 ++ [(s.data.toList.take s.size).drop q] := by
          rw [← e1, ht]; rfl
        rw [e2]
        simp only [List.length_append, List.length_cons, List.length_nil, List.map_append, List.map_cons, List.map_nil]
        rw [show strV ((s.data.toList.take s.size).drop q) = .string (s.extract q s.size) from congrArg Value.string (piece_eq s q s.size), ht]
        simpa using hown2
      clear hown hown2 hg2 hB ht
      go_wp2
      go_ret
      exact ⟨_, rfl, Mine.of_strs hown3, hB2⟩

set_option maxRecDepth 100000 in
set_option maxHeartbeats 1000000 in
theorem l01FindS_any (b : Nat) (z : List UInt8) (w : World) (hz : StrTab b shuttersL w) :
    Calls Tryd.prog 77 #[.slice (some ⟨b, 0, none⟩) 16 16, .int .i64 45, strV z] w fun e w' => e = .returned (.int .i64 (findI (nameOf shuttersL) z 46)) ∧ Below w.heap.size w w' := by
  go_enter Tryd.func77, Tryd.ntmps77
  go_wp2_with fail
  go_loopw [7] (fun i wr => ∃ k : Nat, k ≤ 46 ∧ i = .int .i64 k ∧ findI (nameOf shuttersL) z k = -1 ∧ Below w.heap.size w wr) (fun i _ => 46 - (intOf i).toNat)
  case atStart => exact ⟨0, Nat.zero_le _, rfl, rfl, Below.refl _ _⟩
  case round =>
    obtain ⟨k, hk, rfl, hf, hB⟩ := hrel
    by_cases hkn : k < 46
    · have hm := l01Name_any b 16 shuttersL k (by omega) (by omega) rfl (by omega) (by decide) wr (hz.below hB (Nat.le_refl _))
      by_cases he : nameOf shuttersL k = z
      · have hr : findI (nameOf shuttersL) z 46 = k := by
          have h1 : findI (nameOf shuttersL) z (k + 1) = k := by rw [findI, if_pos hf, if_pos he]
          have h2 := findI_keep (nameOf shuttersL) z (k := k + 1) (by rw [h1]; omega) (46 - (k + 1))
          rw [show k + 1 + (46 - (k + 1)) = 46 by omega] at h2
          rw [h2, h1]
        have Hr := Lib.hid hr; clear hr
        rw [he] at hm
        clear hf he
        have Hm := Lib.hid hm; clear hm
        go_wp2_with fail
        refine Hm.out.mono ?_; rintro e w2 ⟨rfl, hb2⟩
        go_wp2_with fail
        go_ret
        exact ⟨ret_int Hr.out.symm, hB.trans (hb2.mono hB.size)⟩
      · have hne : (nameOf shuttersL (k : Int) == z) = false := by simpa using he
        have hr : findI (nameOf shuttersL) z (k + 1) = -1 := by rw [findI, if_pos hf, if_neg he]
        have Hr := Lib.hid hr; clear hr hf he
        have Hm := Lib.hid hm; clear hm
        go_wp2_with fail
        refine Hm.out.mono ?_; rintro e w2 ⟨rfl, hb2⟩
        go_wp2_with fail
        go_roundw
        case rel => exact ⟨k + 1, by omega, by go_num, Hr.out, hB.trans (hb2.mono hB.size)⟩
        case measure => simp [intOf]; omega
    · have e : k = 46 := by omega
      subst e
      have Hf := Lib.hid hf; clear hf
      go_wp2_with fail
      go_ret
      exact ⟨ret_int Hf.out.symm, hB⟩

set_option maxRecDepth 100000 in
set_option maxHeartbeats 1000000 in
theorem l01FindA_any (b : Nat) (z : List UInt8) (w : World) (hz : StrTab b aperturesL w) :
    Calls Tryd.prog 77 #[.slice (some ⟨b, 0, none⟩) 11 11, .int .i64 30, strV z] w fun e w' => e = .returned (.int .i64 (findI (nameOf aperturesL) z 31)) ∧ Below w.heap.size w w' := by
  go_enter Tryd.func77, Tryd.ntmps77
  go_wp2_with fail
  go_loopw [7] (fun i wr => ∃ k : Nat, k ≤ 31 ∧ i = .int .i64 k ∧ findI (nameOf aperturesL) z k = -1 ∧ Below w.heap.size w wr) (fun i _ => 31 - (intOf i).toNat)
  case atStart => exact ⟨0, Nat.zero_le _, rfl, rfl, Below.refl _ _⟩
  case round =>
    obtain ⟨k, hk, rfl, hf, hB⟩ := hrel
    by_cases hkn : k < 31
    · have hm := l01Name_any b 11 aperturesL k (by omega) (by omega) rfl (by omega) (by decide) wr (hz.below hB (Nat.le_refl _))
      by_cases he : nameOf aperturesL k = z
      · have hr : findI (nameOf aperturesL) z 31 = k := by
          have h1 : findI (nameOf aperturesL) z (k + 1) = k := by rw [findI, if_pos hf, if_pos he]
          have h2 := findI_keep (nameOf aperturesL) z (k := k + 1) (by rw [h1]; omega) (31 - (k + 1))
          rw [show k + 1 + (31 - (k + 1)) = 31 by omega] at h2
          rw [h2, h1]
        have Hr := Lib.hid hr; clear hr
        rw [he] at hm
        clear hf he
        have Hm := Lib.hid hm; clear hm
        go_wp2_with fail
        refine Hm.out.mono ?_; rintro e w2 ⟨rfl, hb2⟩
        go_wp2_with fail
        go_ret
        exact ⟨ret_int Hr.out.symm, hB.trans (hb2.mono hB.size)⟩
      · have hne : (nameOf aperturesL (k : Int) == z) = false := by simpa using he
        have hr : findI (nameOf aperturesL) z (k + 1) = -1 := by rw [findI, if_pos hf, if_neg he]
        have Hr := Lib.hid hr; clear hr hf he
        have Hm := Lib.hid hm; clear hm
        go_wp2_with fail
        refine Hm.out.mono ?_; rintro e w2 ⟨rfl, hb2⟩
        go_wp2_with fail
        go_roundw
        case rel => exact ⟨k + 1, by omega, by go_num, Hr.out, hB.trans (hb2.mono hB.size)⟩
        case measure => simp [intOf]; omega
    · have e : k = 31 := by omega
      subst e
      have Hf := Lib.hid hf; clear hf
      go_wp2_with fail
      go_ret
      exact ⟨ret_int Hf.out.symm, hB⟩

end Go.Proofs.YtakmekidnfeciaaDoor

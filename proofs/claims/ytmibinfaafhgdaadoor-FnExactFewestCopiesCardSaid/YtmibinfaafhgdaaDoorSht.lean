/-
  Sheets: the laws' own copying and comparing of them, and what both sides' tests of them return. Condition: at most 1048576 frames of int16 numbers.
-/
import Derived.Test.YtmibinfaafhgdaaDoorPrs
namespace Go.Proofs.YtmibinfaafhgdaaDoor
open Go.RowKit

/-- Are the first n of these arrays prints? -/
def prsB (g : Nat → Nat → Int) (n : Nat) : Bool := (List.range n).all fun i => dnsB (g i)
theorem prsB_iff {g : Nat → Nat → Int} {n : Nat} : prsB g n = true ↔ ∀ i, i < n → dnsB (g i) = true := by simp [prsB]
theorem prsB_no {g : Nat → Nat → Int} {n i : Nat} (hi : i < n) (h : dnsB (g i) = false) : prsB g n = false := by
  rcases h' : prsB g n with _ | _
  · rfl
  · rw [prsB_iff.1 h' i hi] at h; cases h
/-- Is a sheet valid? -/
def shtB (X : Int) (n : Nat) (g : Nat → Nat → Int) : Bool := inB X 1 12 && (decide (n ≤ 12) && prsB g n)
theorem shtB_iff {X : Int} {n : Nat} {g : Nat → Nat → Int} : shtB X n g = true ↔ (1 ≤ X ∧ X ≤ 12) ∧ n ≤ 12 ∧ prsB g n = true := by simp [shtB, inB_true]

set_option maxRecDepth 100000 in
set_option maxHeartbeats 1000000 in
theorem l03PrintAt_any (b o : Nat) (f : Nat → Int) (hf : S16 f) (w : World) (h : PartA w b o .i16 64 f) :
    Calls Tryd.prog 21 #[.pointer (some ⟨b, o, none⟩)] w fun e w' => e = .returned (.bool (dnsB f)) ∧ Below w.heap.size w w' := by
  have a2 := HasArr.zero w 36 (b := w.heap.size) rfl
  have a3 := a2.setRow .i16 f
  have kB := below_setRow ((Below.refl w.heap.size w).alloc (Nat.le_refl _) (.cells #[.int .i16 0, .int .i16 0, .int .i16 0, .int .i16 0, .int .i16 0, .int .i16 0, .int .i16 0, .int .i16 0, .int .i16 0, .int .i16 0, .int .i16 0, .int .i16 0, .int .i16 0, .int .i16 0, .int .i16 0, .int .i16 0, .int .i16 0, .int .i16 0, .int .i16 0, .int .i16 0, .int .i16 0, .int .i16 0, .int .i16 0, .int .i16 0, .int .i16 0, .int .i16 0, .int .i16 0, .int .i16 0, .int .i16 0, .int .i16 0, .int .i16 0, .int .i16 0, .int .i16 0, .int .i16 0, .int .i16 0, .int .i16 0, .int .i16 0, .int .i16 0, .int .i16 0, .int .i16 0, .int .i16 0, .int .i16 0, .int .i16 0, .int .i16 0, .int .i16 0, .int .i16 0, .int .i16 0, .int .i16 0, .int .i16 0, .int .i16 0, .int .i16 0, .int .i16 0, .int .i16 0, .int .i16 0, .int .i16 0, .int .i16 0, .int .i16 0, .int .i16 0, .int .i16 0, .int .i16 0, .int .i16 0, .int .i16 0, .int .i16 0, .int .i16 0] 36)) (b := w.heap.size) (by omega) (arrV .i16 64 f)
  have hd := l03Dense_any w.heap.size 36 f hf _ a3
  have Hd := Lib.hid hd; clear hd
  have KB := Lib.hid kB; clear kB
  clear a3 hf
  go_enter Tryd.func21, Tryd.ntmps21
  go_wp2_with (first | (refine wpList_load_part h _ _ rfl rfl rfl Tryd.underlying37 sizePrint ?_) | (refine wpList_store_arr a2 _ _ _ rfl rfl rfl rfl sizeA64 ?_) | (go_at_call 34; refine Hd.out.mono ?_; rintro e w' ⟨rfl, rfl⟩))
  go_ret
  exact ⟨rfl, KB.out⟩

set_option maxRecDepth 100000 in
set_option maxHeartbeats 1000000 in
theorem arePrints_any (A : Option Addr) (n cap : Nat) (g : Nat → Nat → Int) (hn : n ≤ 1048576) (w : World) (hr : PrsIn w A n g) :
    Calls Tryd.prog 55 #[.slice A n cap] w fun e w' => e = .returned (.bool (prsB g n)) ∧ Below w.heap.size w w' := by
  go_enter Tryd.func55, Tryd.ntmps55
  go_wp2_with fail
  go_loopw [7] (fun i wr => ∃ k : Nat, k ≤ n ∧ i = .int .i64 k ∧ (∀ j, j < k → dnsB (g j) = true) ∧ Below w.heap.size w wr) (fun i _ => n - (intOf i).toNat)
  case atStart => exact ⟨0, Nat.zero_le _, rfl, fun j hj => by omega, Below.refl _ _⟩
  case round =>
    obtain ⟨k, hk, rfl, hj, hB⟩ := hrel
    have HJ := Lib.hid hj; clear hj
    by_cases hkn : k < n
    · rcases hr with h0 | ⟨b', o, rfl, hlt, hc⟩
      · exfalso; omega
      have q0 := (hc k hkn).below hB hlt
      clear hc
      have a2 := HasArr.zero wr 37 (b := wr.heap.size) rfl
      have a3 := a2.setRow .i16 (g k)
      have hd := fun W => ValidPrint_any (g k) W
      have kB := below_setRow (hB.alloc hB.size (.cells #[.int .i16 0, .int .i16 0, .int .i16 0, .int .i16 0, .int .i16 0, .int .i16 0, .int .i16 0, .int .i16 0, .int .i16 0, .int .i16 0, .int .i16 0, .int .i16 0, .int .i16 0, .int .i16 0, .int .i16 0, .int .i16 0, .int .i16 0, .int .i16 0, .int .i16 0, .int .i16 0, .int .i16 0, .int .i16 0, .int .i16 0, .int .i16 0, .int .i16 0, .int .i16 0, .int .i16 0, .int .i16 0, .int .i16 0, .int .i16 0, .int .i16 0, .int .i16 0, .int .i16 0, .int .i16 0, .int .i16 0, .int .i16 0, .int .i16 0, .int .i16 0, .int .i16 0, .int .i16 0, .int .i16 0, .int .i16 0, .int .i16 0, .int .i16 0, .int .i16 0, .int .i16 0, .int .i16 0, .int .i16 0, .int .i16 0, .int .i16 0, .int .i16 0, .int .i16 0, .int .i16 0, .int .i16 0, .int .i16 0, .int .i16 0, .int .i16 0, .int .i16 0, .int .i16 0, .int .i16 0, .int .i16 0, .int .i16 0, .int .i16 0, .int .i16 0] 37)) (b := wr.heap.size) hB.size (arrV .i16 64 (g k))
      have KB := Lib.hid kB; clear kB hB
      rcases hv : dnsB (g k) with _ | _
      · have hz := prsB_no hkn hv
        rw [hv] at hd
        have Hd := Lib.hid hd; clear hd
        have Hz := Lib.hid hz; clear hz hv
        go_wp2_with (first | (refine wpList_load_part q0 _ _ rfl rfl rfl Tryd.underlying37 sizePrint ?_) | (refine wpList_store_arr a2 _ _ _ rfl rfl rfl rfl sizePrint ?_) | (refine wpList_load_arr a3 _ _ rfl rfl rfl Tryd.underlying37 sizePrint ?_))
        refine (Hd.out _).mono ?_; rintro e w2 ⟨rfl, hb2⟩
        have hB2 := KB.out.trans (hb2.mono KB.out.size)
        clear hb2 a2 a3 q0
        go_wp2_with fail
        go_ret
        exact ⟨ret_bool Hz.out.symm, hB2⟩
      · rw [hv] at hd
        have Hd := Lib.hid hd; clear hd
        have HV := Lib.hid hv; clear hv
        go_wp2_with (first | (refine wpList_load_part q0 _ _ rfl rfl rfl Tryd.underlying37 sizePrint ?_) | (refine wpList_store_arr a2 _ _ _ rfl rfl rfl rfl sizePrint ?_) | (refine wpList_load_arr a3 _ _ rfl rfl rfl Tryd.underlying37 sizePrint ?_))
        refine (Hd.out _).mono ?_; rintro e w2 ⟨rfl, hb2⟩
        have hB2 := KB.out.trans (hb2.mono KB.out.size)
        clear hb2 a2 a3 q0
        go_wp2_with fail
        go_roundw
        case rel => exact ⟨k + 1, by omega, by go_num, fun j hj => by
          by_cases e : j = k
          · subst e; exact HV.out
          · exact HJ.out j (by omega), hB2⟩
        case measure => simp [intOf]; omega
    · obtain rfl : k = n := by omega
      have hz : prsB g k = true := prsB_iff.2 HJ.out
      have Hz := Lib.hid hz; clear hz
      go_wp2_with fail
      go_ret
      exact ⟨ret_bool Hz.out.symm, hB⟩

end Go.Proofs.YtmibinfaafhgdaaDoor

/-
  The least and the greatest of 64 numbers: what both sides' functions return. Condition: int16 numbers.
-/
import Derived.Test.YtbpiajnkfccndaaNegs
import Derived.Test.YtbpiajnkfccndaaArrTools
import Derived.Lib.MinMax
namespace Go.Proofs.Ytbpiajnkfccndaa
open Go.RowKit

/-- The least and the greatest of the numbers 0 to k. -/
def lowN (f : Nat → Int) : Nat → Int
  | 0 => f 0
  | k + 1 => min (lowN f k) (f (k + 1))
def highN (f : Nat → Int) : Nat → Int
  | 0 => f 0
  | k + 1 => max (highN f k) (f (k + 1))
theorem lowN_bd {f : Nat → Int} (hf : S16 f) : ∀ k, k < 64 → -32768 ≤ lowN f k ∧ lowN f k ≤ 32767
  | 0, h => hf 0 h
  | k + 1, h => by
    have := lowN_bd hf k (by omega)
    have := hf (k + 1) h
    show -32768 ≤ min _ _ ∧ min _ _ ≤ 32767
    omega
theorem highN_bd {f : Nat → Int} (hf : S16 f) : ∀ k, k < 64 → -32768 ≤ highN f k ∧ highN f k ≤ 32767
  | 0, h => hf 0 h
  | k + 1, h => by
    have := highN_bd hf k (by omega)
    have := hf (k + 1) h
    show -32768 ≤ max _ _ ∧ max _ _ ≤ 32767
    omega

theorem l00Min_any (x y : Int) (w : World) : Calls Try.prog 34 #[.int .i64 x, .int .i64 y] w fun e w' => e = .returned (.int .i64 (min x y)) ∧ w = w' := by
  by_cases h : x < y
  all_goals
    go_enter Try.func34, Try.ntmps34
    go_wp2
    go_ret
    exact ⟨ret_int (by omega), rfl⟩

theorem l00Max_any (x y : Int) (w : World) : Calls Try.prog 35 #[.int .i64 x, .int .i64 y] w fun e w' => e = .returned (.int .i64 (max x y)) ∧ w = w' := by
  by_cases h : y < x
  all_goals
    go_enter Try.func35, Try.ntmps35
    go_wp2
    go_ret
    exact ⟨ret_int (by omega), rfl⟩

set_option maxRecDepth 100000 in
set_option maxHeartbeats 1000000 in
theorem specRangeOf_any (f : Nat → Int) (hf : S16 f) (w : World) :
    Calls Try.prog 22 #[.agg (arrV .i16 64 f)] w fun e w' => e = .returned (.tuple (if dnsB f = true then #[.int .i64 (lowN f 63), .int .i64 (highN f 63), .int .i64 0] else #[.int .i64 0, .int .i64 0, .int .i64 1])) ∧ Below w.heap.size w w' := by
  have a1 := HasArr.new w 29 .i16 64 f
  have k0 := (Below.refl w.heap.size w).alloc (Nat.le_refl _) (.cells (arrV .i16 64 f) 29)
  have hd := l03Print_any w.heap.size 29 f hf _ a1
  rcases hv : dnsB f with _ | _
  · rw [hv] at hd
    rw [if_neg (by decide)]
    have Hd := Lib.hid hd; clear hd hv
    go_enter Try.func22, Try.ntmps22
    go_wp2_with fail
    refine Hd.out.mono ?_; rintro e w1 ⟨rfl, hb1⟩
    have k1 := k0.trans (hb1.mono k0.size)
    clear a1 hb1 k0 Hd
    go_wp2_with fail
    go_ret3
    exact ⟨rfl, k1⟩
  · rw [hv] at hd
    rw [if_pos rfl]
    have Hd := Lib.hid hd; clear hd hv
    go_enter Try.func22, Try.ntmps22
    go_wp2_with fail
    refine Hd.out.mono ?_; rintro e w1 ⟨rfl, hb1⟩
    have k1 := k0.trans (hb1.mono k0.size)
    have b1 := a1.below hb1 a1.lt
    clear a1 hb1 k0 Hd
    have c0 := b1.cell (k := 0) (by omega)
    have hf0 := hf 0 (by omega)
    have Hf := Lib.hid hf; clear hf
    go_wp2_with fail
    go_loop [5, 6, 7] (fun a b i => ∃ k : Nat, k < 64 ∧ i = .int .i64 ((k : Int) + 1) ∧ a = .int .i64 (lowN f k) ∧ b = .int .i64 (highN f k)) (fun _ _ i => 64 - (intOf i).toNat)
    case atStart => exact ⟨0, by omega, rfl, rfl, rfl⟩
    case round =>
      obtain ⟨k, hk, rfl, rfl, rfl⟩ := hrel
      clear c0 hf0
      by_cases hkn : k + 1 < 64
      · have c1 := b1.cell hkn
        have f1 := Hf.out (k + 1) hkn
        have l1 := lowN_bd Hf.out k hk
        have m1 := highN_bd Hf.out k hk
        have HL : Hid (lowN f (k + 1) = min (lowN f k) (f (k + 1))) := Lib.hid rfl
        have HM : Hid (highN f (k + 1) = max (highN f k) (f (k + 1))) := Lib.hid rfl
        have w1 : (k : Int) + 1 < 64 := by omega
        generalize lowN f k = L at *
        generalize highN f k = M at *
        generalize f (k + 1) = X at *
        go_wp2_with (first | (go_at_call 34; refine (l00Min_any _ _ _).mono ?_; rintro e w' ⟨rfl, rfl⟩) | (go_at_call 35; refine (l00Max_any _ _ _).mono ?_; rintro e w' ⟨rfl, rfl⟩))
        go_round
        case rel => exact ⟨k + 1, by omega, by go_num, by rw [HL.out], by rw [HM.out]⟩
        case measure => simp [intOf]; omega
      · obtain rfl : k = 63 := by omega
        go_wp2_with fail
        go_ret3
        exact ⟨rfl, k1⟩

set_option maxHeartbeats 1000000 in
theorem slicesMin_any (b : Nat) (T : TypeId) (f : Nat → Int) (hf : S16 f) (w : World) (h : HasArr w b T .i16 64 f) :
    Calls Try.prog 42 #[.slice (some ⟨b, 0, none⟩) 64 64] w fun e w' => e = .returned (.int .i16 (lowN f 63)) ∧ w = w' := by
  have c0 := h.cell (k := 0) (by omega)
  have Hf := Lib.hid hf; clear hf
  go_enter Try.func42, Try.ntmps42
  go_wp2_with fail
  go_loop [3, 4] (fun a i => ∃ k : Nat, k < 64 ∧ i = .int .i64 ((k : Int) + 1) ∧ a = .int .i16 (lowN f k)) (fun _ i => 64 - (intOf i).toNat)
  case atStart => exact ⟨0, by omega, rfl, rfl⟩
  case round =>
    obtain ⟨k, hk, rfl, rfl⟩ := hrel
    clear c0
    by_cases hkn : k + 1 < 64
    · have c1 := h.cell hkn
      have HL : Hid (lowN f (k + 1) = min (lowN f k) (f (k + 1))) := Lib.hid rfl
      have w1 : (k : Int) + 1 < 64 := by omega
      generalize lowN f k = L at *
      generalize f (k + 1) = X at *
      go_wp2_with fail
      go_round
      case rel => exact ⟨k + 1, by omega, by go_num, by rw [HL.out]⟩
      case measure => simp [intOf]; omega
    · obtain rfl : k = 63 := by omega
      go_wp2_with fail
      go_ret
      exact ⟨rfl, rfl⟩

set_option maxHeartbeats 1000000 in
theorem slicesMax_any (b : Nat) (T : TypeId) (f : Nat → Int) (hf : S16 f) (w : World) (h : HasArr w b T .i16 64 f) :
    Calls Try.prog 43 #[.slice (some ⟨b, 0, none⟩) 64 64] w fun e w' => e = .returned (.int .i16 (highN f 63)) ∧ w = w' := by
  have c0 := h.cell (k := 0) (by omega)
  have Hf := Lib.hid hf; clear hf
  go_enter Try.func43, Try.ntmps43
  go_wp2_with fail
  go_loop [3, 4] (fun a i => ∃ k : Nat, k < 64 ∧ i = .int .i64 ((k : Int) + 1) ∧ a = .int .i16 (highN f k)) (fun _ i => 64 - (intOf i).toNat)
  case atStart => exact ⟨0, by omega, rfl, rfl⟩
  case round =>
    obtain ⟨k, hk, rfl, rfl⟩ := hrel
    clear c0
    by_cases hkn : k + 1 < 64
    · have c1 := h.cell hkn
      have HL : Hid (highN f (k + 1) = max (highN f k) (f (k + 1))) := Lib.hid rfl
      have w1 : (k : Int) + 1 < 64 := by omega
      generalize highN f k = L at *
      generalize f (k + 1) = X at *
      go_wp2_with fail
      go_round
      case rel => exact ⟨k + 1, by omega, by go_num, by rw [HL.out]⟩
      case measure => simp [intOf]; omega
    · obtain rfl : k = 63 := by omega
      go_wp2_with fail
      go_ret
      exact ⟨rfl, rfl⟩

set_option maxRecDepth 100000 in
set_option maxHeartbeats 1000000 in
theorem densitiesArr_any (f : Nat → Int) (hf : S16 f) (w : World) :
    Calls Try.prog 36 #[.agg (arrV .i16 64 f)] w fun e w' => e = .returned (.agg #[.int .i64 (lowN f 63), .int .i64 (highN f 63)]) ∧ Below w.heap.size w w' := by
  have a1 := (HasArr.new w 45 .i16 64 f).alloc (.cells #[.int .i64 0, .int .i64 0] 59)
  have k0 := ((Below.refl w.heap.size w).alloc (Nat.le_refl _) (.cells (arrV .i16 64 f) 45)).alloc (by simp) (.cells #[.int .i64 0, .int .i64 0] 59)
  have l1 := lowN_bd hf 63 (by omega)
  have l2 := highN_bd hf 63 (by omega)
  have hmn := fun W h => slicesMin_any w.heap.size 45 f hf W h
  have hmx := fun W h => slicesMax_any w.heap.size 45 f hf W h
  have Hmn := Lib.hid hmn; clear hmn
  have Hmx := Lib.hid hmx; clear hmx hf
  generalize lowN f 63 = L at *
  generalize highN f 63 = M at *
  go_enter Try.func36, Try.ntmps36
  go_wp2_with fail
  refine wp_region_quiet_tail 7 (fun w' => ∃ q, w' = ((w.alloc (.cells (arrV .i16 64 f) 45)).alloc (.cells #[.int .i64 0, .int .i64 0] 59)).drewN q) (by kernel_rfl) (by kernel_rfl) ⟨1, rfl⟩ ?_
  simp only [List.take_succ_cons, List.take_zero, List.drop_succ_cons, List.drop_zero]
  repeat (quiet_step ((first | (go_at_call 42; exact (Hmn.out _ (a1.drewN _)).mono fun e w' ⟨he, hw⟩ => ⟨he, _, hw.symm⟩) | (go_at_call 43; exact (Hmx.out _ (a1.drewN _)).mono fun e w' ⟨he, hw⟩ => ⟨he, _, hw.symm⟩))))
  refine wpQuiet_nil ?_
  rintro _ ⟨q, rfl⟩
  go_wp2
  refine bodyPost_ret (v := .agg #[.int .i64 L, .int .i64 M]) (by simp [results, Try.results36, go_sem]) rfl ⟨rfl, ?_⟩
  exact ((below_drewA k0 q).setCell (by simp) _).setCell (by simp) _

set_option maxRecDepth 100000 in
set_option maxHeartbeats 1000000 in
theorem RangeOf_any (f : Nat → Int) (hf : S16 f) (w : World) :
    Calls Try.prog 23 #[.agg (arrV .i16 64 f)] w fun e w' => e = .returned (.tuple (if dnsB f = true then #[.int .i64 (lowN f 63), .int .i64 (highN f 63), .int .i64 0] else #[.int .i64 0, .int .i64 0, .int .i64 1])) ∧ Below w.heap.size w w' := by
  have a1 := HasArr.new w 29 .i16 64 f
  have k0 := (Below.refl w.heap.size w).alloc (Nat.le_refl _) (.cells (arrV .i16 64 f) 29)
  have hd := fun W => ValidPrint_any f W
  have hn := fun W => densitiesArr_any f hf W
  clear hf
  generalize lowN f 63 = L at *
  generalize highN f 63 = M at *
  have Hn := Lib.hid hn; clear hn
  rcases hv : dnsB f with _ | _
  · rw [hv] at hd
    rw [if_neg (by decide)]
    have Hd := Lib.hid hd; clear hd hv
    go_enter Try.func23, Try.ntmps23
    go_wp2_with (refine wpList_load_arr a1 _ _ rfl rfl rfl Try.underlying29 sizePrint ?_)
    refine (Hd.out _).mono ?_; rintro e w1 ⟨rfl, hb1⟩
    have k1 := k0.trans (hb1.mono k0.size)
    clear a1 hb1 k0 Hd
    go_wp2_with fail
    go_ret3
    exact ⟨rfl, k1⟩
  · rw [hv] at hd
    rw [if_pos rfl]
    have Hd := Lib.hid hd; clear hd hv
    go_enter Try.func23, Try.ntmps23
    go_wp2_with (refine wpList_load_arr a1 _ _ rfl rfl rfl Try.underlying29 sizePrint ?_)
    refine (Hd.out _).mono ?_; rintro e w1 ⟨rfl, hb1⟩
    have k1 := k0.trans (hb1.mono k0.size)
    have b1 := a1.below hb1 a1.lt
    clear a1 hb1 k0 Hd
    go_wp2_with (refine wpList_load_arr b1 _ _ rfl rfl rfl Try.underlying29 sizePrint ?_)
    refine (Hn.out _).mono ?_; rintro e w2 ⟨rfl, hb2⟩
    have k2 := k1.trans (hb2.mono k1.size)
    clear b1 hb2 k1 Hn
    go_wp2_with fail
    go_quiet (fail)
    go_wp2
    go_ret3
    refine ⟨rfl, ?_⟩
    repeat (first | exact Below.refl _ _ | assumption | apply Below.drew | apply below_drewA | (refine Below.alloc ?_ (by first | exact k2.size | omega | (simp; done) | (simp; omega)) _) | (refine Below.setCell ?_ (by first | exact k2.size | omega | (simp; done) | (simp; omega)) _))
end Go.Proofs.Ytbpiajnkfccndaa

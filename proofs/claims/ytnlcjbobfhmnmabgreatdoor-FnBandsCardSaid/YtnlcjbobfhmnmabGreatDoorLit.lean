/-
  The light within a time, by the program. Condition: its variables hold their own errors and its table of times.
-/
import Derived.Test.YtnlcjbobfhmnmabGreatDoorTimX
import Derived.Lib.MinMax
namespace Go.Proofs.YtnlcjbobfhmnmabGreatDoor
open Go.RowKit

theorem thin_min (x : Int) (h0 : 0 ≤ x) : thin (min x 100000000) = thin x := by
  by_cases h : x ≤ 100000000
  · rw [Int.min_eq_left h]
  · rw [Int.min_eq_right (by omega)]
    have h1 : thin 100000000 = 36 := thin_eq 36 100000000 (by omega) (by omega) (.inr (by rw [tm_36]; omega)) (.inl rfl)
    have h2 : thin x = 36 := thin_eq 36 x (by omega) (by omega) (.inr (by rw [tm_36]; omega)) (.inl rfl)
    rw [h1, h2]

set_option maxHeartbeats 1000000 in
theorem lightIn_any (s : Ers) (x : Int) (h0 : 0 ≤ x) (hx : x ≤ 9223372036854775807) (w : World) (hT : TimEnv w) (hE : ErrEnv s w) :
    Calls Tryz.prog 65 #[.int .i64 x] w fun e w' => e = .returned (.int .i64 (thin x)) ∧ Below w.heap.size w w' := by
  have hm : milB (min x 100000000) = true := milB_true.2 (by omega)
  have ht := thirdsIn_any s (min x 100000000) w hT hE
  have hb := thin_bd (min x 100000000)
  have hmn := thin_min x h0
  by_cases hn : thin (min x 100000000) < 0
  · have hv : thin x = -1 := by omega
    obtain ⟨e1, e2⟩ := thinR_none hm ((thin_none _).1 (by omega))
    rw [e1, e2] at ht
    rw [hv]
    have Ht := Lib.hid ht; clear ht hm hb hmn hn hv e1 e2 hT hE
    go_enter Tryz.func65, Tryz.ntmps65
    go_wp2_with fail
    refine Ht.out.mono ?_; rintro e w1 ⟨v, hv, rfl, hb1⟩
    cases hv
    go_wp2_with fail
    go_ret
    exact ⟨rfl, hb1⟩
  · obtain ⟨e1, e2⟩ := thinR_in hm (show 0 ≤ thin (min x 100000000) by omega) rfl
    rw [e1, e2] at ht
    rw [← hmn]
    have Ht := Lib.hid ht; clear ht hm hb hmn hn e1 e2 hT hE
    generalize hX : thin (min x 100000000) = X at *
    clear hX
    go_enter Tryz.func65, Tryz.ntmps65
    go_wp2_with fail
    refine Ht.out.mono ?_; rintro e w1 ⟨v, hv, rfl, hb1⟩
    cases hv
    go_wp2_with fail
    go_ret
    exact ⟨rfl, hb1⟩
end Go.Proofs.YtnlcjbobfhmnmabGreatDoor

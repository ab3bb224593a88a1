/-
  The light of each cell: what the program hands out; comparing such lists. Condition: at most 1048576 steps; its variables hold their own errors and its table of times.
-/
import Derived.Test.YtnlcjbobfhmnmaaDoorLightI
namespace Go.Proofs.YtnlcjbobfhmnmaaDoor
open Go.RowKit

theorem thin_min (x : Int) (h0 : 0 ≤ x) : thin (min x 100000000) = thin x := by
  by_cases h : x ≤ 100000000
  · rw [Int.min_eq_left h]
  · rw [Int.min_eq_right (by omega)]
    have h1 : thin 100000000 = 36 := thin_eq 36 100000000 (by omega) (by omega) (.inr (by rw [tm_36]; omega)) (.inl rfl)
    have h2 : thin x = 36 := thin_eq 36 x (by omega) (by omega) (.inr (by rw [tm_36]; omega)) (.inl rfl)
    rw [h1, h2]

set_option maxHeartbeats 1000000 in
theorem lightIn_any (s : Ers) (x : Int) (h0 : 0 ≤ x) (hx : x ≤ 9223372036854775807) (w : World) (hT : TimEnv w) (hE : ErrEnv s w) :
    Calls Tryd.prog 59 #[.int .i64 x] w fun e w' => e = .returned (.int .i64 (thin x)) ∧ Below w.heap.size w w' := by
  have hm : milB (min x 100000000) = true := milB_true.2 (by omega)
  have ht := thirdsIn_any s (min x 100000000) w hT hE
  have hb := thin_bd (min x 100000000)
  have hmn := thin_min x h0
  by_cases hn : thin (min x 100000000) < 0
  · have hv : thin x = -1 := by omega
    obtain ⟨e1, e2⟩ := thinR_none hm ((thin_none _).1 (by omega))
    rw [e1, e2] at ht
    rw [hv]
    have Ht := Lib.hid ht; clear ht hm hb hmn hn hv e1 e2 hT hE
    go_enter Tryd.func59, Tryd.ntmps59
    go_wp2_with fail
    refine Ht.out.mono ?_; rintro e w1 ⟨v, hv, rfl, hb1⟩
    cases hv
    go_wp2_with fail
    go_ret
    exact ⟨rfl, hb1⟩
  · obtain ⟨e1, e2⟩ := thinR_in hm (show 0 ≤ thin (min x 100000000) by omega) rfl
    rw [e1, e2] at ht
    rw [← hmn]
    have Ht := Lib.hid ht; clear ht hm hb hmn hn e1 e2 hT hE
    generalize hX : thin (min x 100000000) = X at *
    clear hX
    go_enter Tryd.func59, Tryd.ntmps59
    go_wp2_with fail
    refine Ht.out.mono ?_; rintro e w1 ⟨v, hv, rfl, hb1⟩
    cases hv
    go_wp2_with fail
    go_ret
    exact ⟨rfl, hb1⟩

set_option maxRecDepth 100000 in
set_option maxHeartbeats 4000000 in
theorem lightOn_any (s : Ers) (b n cap : Nat) (fs es : Nat → Int) (hn : n ≤ 1048576) (hs : SmallS n fs es) (w : World) (hr : StRow w b n fs es) (hE : ErrEnv s w) (hT : TimEnv w) :
    Calls Tryd.prog 42 #[.slice (some ⟨b, 0, none⟩) n cap] w fun e w' => ∃ v, e = .returned (.tuple #[.agg (arrV .i64 64 (lgtV n fs es)), v]) ∧ IsCode s v (mirC n es) ∧ Below w.heap.size w w' := by
  have a0 := HasArr.zeroI w rfl
  have k0 := (Below.refl w.heap.size w).alloc (Nat.le_refl _) (.cells #[.int .i64 0, .int .i64 0, .int .i64 0, .int .i64 0, .int .i64 0, .int .i64 0, .int .i64 0, .int .i64 0, .int .i64 0, .int .i64 0, .int .i64 0, .int .i64 0, .int .i64 0, .int .i64 0, .int .i64 0, .int .i64 0, .int .i64 0, .int .i64 0, .int .i64 0, .int .i64 0, .int .i64 0, .int .i64 0, .int .i64 0, .int .i64 0, .int .i64 0, .int .i64 0, .int .i64 0, .int .i64 0, .int .i64 0, .int .i64 0, .int .i64 0, .int .i64 0, .int .i64 0, .int .i64 0, .int .i64 0, .int .i64 0, .int .i64 0, .int .i64 0, .int .i64 0, .int .i64 0, .int .i64 0, .int .i64 0, .int .i64 0, .int .i64 0, .int .i64 0, .int .i64 0, .int .i64 0, .int .i64 0, .int .i64 0, .int .i64 0, .int .i64 0, .int .i64 0, .int .i64 0, .int .i64 0, .int .i64 0, .int .i64 0, .int .i64 0, .int .i64 0, .int .i64 0, .int .i64 0, .int .i64 0, .int .i64 0, .int .i64 0, .int .i64 0] 80)
  have ht := timesOn_any s b n cap fs es hn hs _ (hr.below k0 hr.lt) (hE.below k0 (Nat.le_refl _)) (hT.below k0 (Nat.le_refl _))
  rcases h1 : stpB n es with _ | _
  · rw [mir_1 h1, lgt_1 h1]
    rw [mir_1 h1, tim_1 h1] at ht
    have Ht := Lib.hid ht; clear ht h1 hE hT
    go_enter Tryd.func42, Tryd.ntmps42
    go_wp2_with fail
    refine Ht.out.mono ?_; rintro e w1 ⟨v, rfl, hv, hb1⟩
    have b0 := a0.below hb1 a0.lt
    have k1 := k0.trans (hb1.mono k0.size)
    have z1 : w.heap.size < w1.heap.size := b0.lt
    have a1 := HasArr.zeroI w1 (b := w1.heap.size) rfl
    have b1 := (b0.alloc (.cells #[.int .i64 0, .int .i64 0, .int .i64 0, .int .i64 0, .int .i64 0, .int .i64 0, .int .i64 0, .int .i64 0, .int .i64 0, .int .i64 0, .int .i64 0, .int .i64 0, .int .i64 0, .int .i64 0, .int .i64 0, .int .i64 0, .int .i64 0, .int .i64 0, .int .i64 0, .int .i64 0, .int .i64 0, .int .i64 0, .int .i64 0, .int .i64 0, .int .i64 0, .int .i64 0, .int .i64 0, .int .i64 0, .int .i64 0, .int .i64 0, .int .i64 0, .int .i64 0, .int .i64 0, .int .i64 0, .int .i64 0, .int .i64 0, .int .i64 0, .int .i64 0, .int .i64 0, .int .i64 0, .int .i64 0, .int .i64 0, .int .i64 0, .int .i64 0, .int .i64 0, .int .i64 0, .int .i64 0, .int .i64 0, .int .i64 0, .int .i64 0, .int .i64 0, .int .i64 0, .int .i64 0, .int .i64 0, .int .i64 0, .int .i64 0, .int .i64 0, .int .i64 0, .int .i64 0, .int .i64 0, .int .i64 0, .int .i64 0, .int .i64 0, .int .i64 0] 80)).rowOther (b' := w1.heap.size) (by omega) (arrV .i64 64 fun _ => 0)
    have kk := below_setRow (k1.alloc k1.size (.cells #[.int .i64 0, .int .i64 0, .int .i64 0, .int .i64 0, .int .i64 0, .int .i64 0, .int .i64 0, .int .i64 0, .int .i64 0, .int .i64 0, .int .i64 0, .int .i64 0, .int .i64 0, .int .i64 0, .int .i64 0, .int .i64 0, .int .i64 0, .int .i64 0, .int .i64 0, .int .i64 0, .int .i64 0, .int .i64 0, .int .i64 0, .int .i64 0, .int .i64 0, .int .i64 0, .int .i64 0, .int .i64 0, .int .i64 0, .int .i64 0, .int .i64 0, .int .i64 0, .int .i64 0, .int .i64 0, .int .i64 0, .int .i64 0, .int .i64 0, .int .i64 0, .int .i64 0, .int .i64 0, .int .i64 0, .int .i64 0, .int .i64 0, .int .i64 0, .int .i64 0, .int .i64 0, .int .i64 0, .int .i64 0, .int .i64 0, .int .i64 0, .int .i64 0, .int .i64 0, .int .i64 0, .int .i64 0, .int .i64 0, .int .i64 0, .int .i64 0, .int .i64 0, .int .i64 0, .int .i64 0, .int .i64 0, .int .i64 0, .int .i64 0, .int .i64 0] 80)) (b := w1.heap.size) k1.size (arrV .i64 64 fun _ => 0)
    clear a0 k0 hb1 b0 k1
    cases hv
    go_wp2_with (first | (refine wpList_store_arr a1 _ _ _ rfl rfl rfl rfl sizeI64 ?_) | (refine wpList_store_zI b1 _ _ _ rfl rfl rfl rfl sizeI64 ?_))
    refine bodyPost_ret (v := .tuple #[.agg (arrV .i64 64 (fun _ => 0)), errV s.einvalid]) ?_ rfl ⟨_, rfl, .einvalid, below_setRow kk (by omega) _⟩
    exact results_row_tmp rfl _ _ _ _ _ _ _ rfl (b1.setRow .i64 fun _ => 0) Tryd.underlying80 rfl (by rw [arrV_size]; exact sizeI64) _ rfl
  · rw [mir_0 h1, lgt_0 h1]
    rw [mir_0 h1, tim_0 h1] at ht
    have hbd := fun c => addT_bd (fs := fs) (stpB_lit h1) n c (Nat.le_refl _)
    have Hbd := Lib.hid hbd; clear hbd
    have Ht := Lib.hid ht; clear ht h1
    have HE := Lib.hid hE; clear hE
    have HT := Lib.hid hT; clear hT
    generalize addT fs es n = F at *
    have hsz1 : (Tryd.prog.info? 2).map (·.size) = some 1 := by kernel_rfl
    have hix := fun k (hk : k < 64) W => run_index_arr (P := Tryd.prog) (κ' := .i64) (κ := .i64) F Tryd.underlying80 Tryd.underlying2 hsz1 hk W
    have Hix := Lib.hid hix; clear hix hsz1
    have hli := fun x h0 h1 W h2 h3 => lightIn_any s x h0 h1 W h2 h3
    have Hli := Lib.hid hli; clear hli
    go_enter Tryd.func42, Tryd.ntmps42
    go_wp2_with fail
    refine Ht.out.mono ?_; rintro e w1 ⟨v, rfl, hv, hb1⟩
    cases hv
    have b0 := a0.below hb1 a0.lt
    have k1 := k0.trans (hb1.mono k0.size)
    have z1 : w.heap.size < w1.heap.size := b0.lt
    have a1 := HasArr.zeroI w1 (b := w1.heap.size) rfl
    have b1 := (b0.alloc (.cells #[.int .i64 0, .int .i64 0, .int .i64 0, .int .i64 0, .int .i64 0, .int .i64 0, .int .i64 0, .int .i64 0, .int .i64 0, .int .i64 0, .int .i64 0, .int .i64 0, .int .i64 0, .int .i64 0, .int .i64 0, .int .i64 0, .int .i64 0, .int .i64 0, .int .i64 0, .int .i64 0, .int .i64 0, .int .i64 0, .int .i64 0, .int .i64 0, .int .i64 0, .int .i64 0, .int .i64 0, .int .i64 0, .int .i64 0, .int .i64 0, .int .i64 0, .int .i64 0, .int .i64 0, .int .i64 0, .int .i64 0, .int .i64 0, .int .i64 0, .int .i64 0, .int .i64 0, .int .i64 0, .int .i64 0, .int .i64 0, .int .i64 0, .int .i64 0, .int .i64 0, .int .i64 0, .int .i64 0, .int .i64 0, .int .i64 0, .int .i64 0, .int .i64 0, .int .i64 0, .int .i64 0, .int .i64 0, .int .i64 0, .int .i64 0, .int .i64 0, .int .i64 0, .int .i64 0, .int .i64 0, .int .i64 0, .int .i64 0, .int .i64 0, .int .i64 0] 80)).rowOther (b' := w1.heap.size) (by omega) (arrV .i64 64 F)
    have b4 := a1.setRow .i64 F
    have kk := below_setRow (k1.alloc k1.size (.cells #[.int .i64 0, .int .i64 0, .int .i64 0, .int .i64 0, .int .i64 0, .int .i64 0, .int .i64 0, .int .i64 0, .int .i64 0, .int .i64 0, .int .i64 0, .int .i64 0, .int .i64 0, .int .i64 0, .int .i64 0, .int .i64 0, .int .i64 0, .int .i64 0, .int .i64 0, .int .i64 0, .int .i64 0, .int .i64 0, .int .i64 0, .int .i64 0, .int .i64 0, .int .i64 0, .int .i64 0, .int .i64 0, .int .i64 0, .int .i64 0, .int .i64 0, .int .i64 0, .int .i64 0, .int .i64 0, .int .i64 0, .int .i64 0, .int .i64 0, .int .i64 0, .int .i64 0, .int .i64 0, .int .i64 0, .int .i64 0, .int .i64 0, .int .i64 0, .int .i64 0, .int .i64 0, .int .i64 0, .int .i64 0, .int .i64 0, .int .i64 0, .int .i64 0, .int .i64 0, .int .i64 0, .int .i64 0, .int .i64 0, .int .i64 0, .int .i64 0, .int .i64 0, .int .i64 0, .int .i64 0, .int .i64 0, .int .i64 0, .int .i64 0, .int .i64 0] 80)) (b := w1.heap.size) k1.size (arrV .i64 64 F)
    have a6 := HasArr.zeroI ((w1.alloc (.cells #[.int .i64 0, .int .i64 0, .int .i64 0, .int .i64 0, .int .i64 0, .int .i64 0, .int .i64 0, .int .i64 0, .int .i64 0, .int .i64 0, .int .i64 0, .int .i64 0, .int .i64 0, .int .i64 0, .int .i64 0, .int .i64 0, .int .i64 0, .int .i64 0, .int .i64 0, .int .i64 0, .int .i64 0, .int .i64 0, .int .i64 0, .int .i64 0, .int .i64 0, .int .i64 0, .int .i64 0, .int .i64 0, .int .i64 0, .int .i64 0, .int .i64 0, .int .i64 0, .int .i64 0, .int .i64 0, .int .i64 0, .int .i64 0, .int .i64 0, .int .i64 0, .int .i64 0, .int .i64 0, .int .i64 0, .int .i64 0, .int .i64 0, .int .i64 0, .int .i64 0, .int .i64 0, .int .i64 0, .int .i64 0, .int .i64 0, .int .i64 0, .int .i64 0, .int .i64 0, .int .i64 0, .int .i64 0, .int .i64 0, .int .i64 0, .int .i64 0, .int .i64 0, .int .i64 0, .int .i64 0, .int .i64 0, .int .i64 0, .int .i64 0, .int .i64 0] 80)).setRow w1.heap.size (arrV .i64 64 F)) (b := w1.heap.size + 1) (by simp)
    have c2 := (b1.alloc (.cells #[.int .i64 0, .int .i64 0, .int .i64 0, .int .i64 0, .int .i64 0, .int .i64 0, .int .i64 0, .int .i64 0, .int .i64 0, .int .i64 0, .int .i64 0, .int .i64 0, .int .i64 0, .int .i64 0, .int .i64 0, .int .i64 0, .int .i64 0, .int .i64 0, .int .i64 0, .int .i64 0, .int .i64 0, .int .i64 0, .int .i64 0, .int .i64 0, .int .i64 0, .int .i64 0, .int .i64 0, .int .i64 0, .int .i64 0, .int .i64 0, .int .i64 0, .int .i64 0, .int .i64 0, .int .i64 0, .int .i64 0, .int .i64 0, .int .i64 0, .int .i64 0, .int .i64 0, .int .i64 0, .int .i64 0, .int .i64 0, .int .i64 0, .int .i64 0, .int .i64 0, .int .i64 0, .int .i64 0, .int .i64 0, .int .i64 0, .int .i64 0, .int .i64 0, .int .i64 0, .int .i64 0, .int .i64 0, .int .i64 0, .int .i64 0, .int .i64 0, .int .i64 0, .int .i64 0, .int .i64 0, .int .i64 0, .int .i64 0, .int .i64 0, .int .i64 0] 80)).rowOther (b' := w1.heap.size + 1) (by omega) (arrV .i64 64 fun _ => 0)
    have c4 := (b4.alloc (.cells #[.int .i64 0, .int .i64 0, .int .i64 0, .int .i64 0, .int .i64 0, .int .i64 0, .int .i64 0, .int .i64 0, .int .i64 0, .int .i64 0, .int .i64 0, .int .i64 0, .int .i64 0, .int .i64 0, .int .i64 0, .int .i64 0, .int .i64 0, .int .i64 0, .int .i64 0, .int .i64 0, .int .i64 0, .int .i64 0, .int .i64 0, .int .i64 0, .int .i64 0, .int .i64 0, .int .i64 0, .int .i64 0, .int .i64 0, .int .i64 0, .int .i64 0, .int .i64 0, .int .i64 0, .int .i64 0, .int .i64 0, .int .i64 0, .int .i64 0, .int .i64 0, .int .i64 0, .int .i64 0, .int .i64 0, .int .i64 0, .int .i64 0, .int .i64 0, .int .i64 0, .int .i64 0, .int .i64 0, .int .i64 0, .int .i64 0, .int .i64 0, .int .i64 0, .int .i64 0, .int .i64 0, .int .i64 0, .int .i64 0, .int .i64 0, .int .i64 0, .int .i64 0, .int .i64 0, .int .i64 0, .int .i64 0, .int .i64 0, .int .i64 0, .int .i64 0] 80)).rowOther (b' := w1.heap.size + 1) (by omega) (arrV .i64 64 fun _ => 0)
    have c6 := (a6.setRow .i64 fun _ => 0).congr (fun j _ => mixG_0 (fun _ => 0) (fun c => thin (F c)) j)
    have kz : w.heap.size ≤ ((w1.alloc (.cells #[.int .i64 0, .int .i64 0, .int .i64 0, .int .i64 0, .int .i64 0, .int .i64 0, .int .i64 0, .int .i64 0, .int .i64 0, .int .i64 0, .int .i64 0, .int .i64 0, .int .i64 0, .int .i64 0, .int .i64 0, .int .i64 0, .int .i64 0, .int .i64 0, .int .i64 0, .int .i64 0, .int .i64 0, .int .i64 0, .int .i64 0, .int .i64 0, .int .i64 0, .int .i64 0, .int .i64 0, .int .i64 0, .int .i64 0, .int .i64 0, .int .i64 0, .int .i64 0, .int .i64 0, .int .i64 0, .int .i64 0, .int .i64 0, .int .i64 0, .int .i64 0, .int .i64 0, .int .i64 0, .int .i64 0, .int .i64 0, .int .i64 0, .int .i64 0, .int .i64 0, .int .i64 0, .int .i64 0, .int .i64 0, .int .i64 0, .int .i64 0, .int .i64 0, .int .i64 0, .int .i64 0, .int .i64 0, .int .i64 0, .int .i64 0, .int .i64 0, .int .i64 0, .int .i64 0, .int .i64 0, .int .i64 0, .int .i64 0, .int .i64 0, .int .i64 0] 80)).setRow w1.heap.size (arrV .i64 64 F)).heap.size := by simp; omega
    have k6 := below_setRow (kk.alloc kz (.cells #[.int .i64 0, .int .i64 0, .int .i64 0, .int .i64 0, .int .i64 0, .int .i64 0, .int .i64 0, .int .i64 0, .int .i64 0, .int .i64 0, .int .i64 0, .int .i64 0, .int .i64 0, .int .i64 0, .int .i64 0, .int .i64 0, .int .i64 0, .int .i64 0, .int .i64 0, .int .i64 0, .int .i64 0, .int .i64 0, .int .i64 0, .int .i64 0, .int .i64 0, .int .i64 0, .int .i64 0, .int .i64 0, .int .i64 0, .int .i64 0, .int .i64 0, .int .i64 0, .int .i64 0, .int .i64 0, .int .i64 0, .int .i64 0, .int .i64 0, .int .i64 0, .int .i64 0, .int .i64 0, .int .i64 0, .int .i64 0, .int .i64 0, .int .i64 0, .int .i64 0, .int .i64 0, .int .i64 0, .int .i64 0, .int .i64 0, .int .i64 0, .int .i64 0, .int .i64 0, .int .i64 0, .int .i64 0, .int .i64 0, .int .i64 0, .int .i64 0, .int .i64 0, .int .i64 0, .int .i64 0, .int .i64 0, .int .i64 0, .int .i64 0, .int .i64 0] 80)) (b := w1.heap.size + 1) (by omega) (arrV .i64 64 fun _ => 0)
    have K0 := Lib.hid (And.intro c2 (And.intro c6 k6))
    clear a0 k0 hb1 b0 k1 b1 b4 kk c2 c6 k6 kz
    go_wp2_with (first | (refine wpList_store_arr a1 _ _ _ rfl rfl rfl rfl sizeI64 ?_) | (refine wpList_store_zI a6 _ _ _ rfl rfl rfl rfl sizeI64 ?_) | (refine wpList_load_arr c4 _ _ rfl rfl rfl Tryd.underlying80 sizeI64 ?_))
    clear a1 a6 c4
    go_loopw [20] (fun i wr => ∃ c : Nat, c ≤ 64 ∧ i = .int .i64 (c : Int) ∧ HasArr wr w.heap.size 80 .i64 64 (fun _ => 0) ∧ HasArr wr (w1.heap.size + 1) 80 .i64 64 (mixG (fun _ => 0) (fun c => thin (F c)) c) ∧ Below w.heap.size w wr) (fun i _ => 64 - (intOf i).toNat)
    case atStart => exact ⟨0, by omega, rfl, K0.out⟩
    case round =>
      obtain ⟨c, hc, rfl, h0, h1, hB⟩ := hrel
      clear K0
      by_cases hcn : c < 64
      · have w4 : (c : Int) < 64 := by omega
        have ix := Hix.out c hcn wr
        have hbc := Hbd.out c
        have hst := fun (W : World) (h : HasArr W (w1.heap.size + 1) 80 .i64 64 (mixG (fun _ => 0) (fun c => thin (F c)) c)) => (h.set c (thin (F c))).congr (fun j _ => mixG_step (fun _ => 0) (fun c => thin (F c)) c j)
        have hin := Hli.out (F c) hbc.1 (by omega) wr (HT.out.below hB (Nat.le_refl _)) (HE.out.below hB (Nat.le_refl _))
        generalize thin (F c) = X at *
        generalize F c = Y at *
        have Hst := Lib.hid hst; clear hst
        have Hin := Lib.hid hin; clear hin
        have HR0 := Lib.hid h0; clear h0
        have HR1 := Lib.hid h1; clear h1
        have HB := Lib.hid hB; clear hB
        go_wp2_with fail
        refine Hin.out.mono ?_; rintro e w2 ⟨rfl, hb2⟩
        have g0 := HR0.out.below hb2 HR0.out.lt
        have g1 := HR1.out.below hb2 HR1.out.lt
        have gB := HB.out.trans (hb2.mono HB.out.size)
        have d0 := g1.cell hcn
        have e0 := g1.free c
        have K := Lib.hid (And.intro (g0.other (a := ⟨w1.heap.size + 1, c, none⟩) (by simp; omega) (.int .i64 X)) (And.intro (Hst.out _ g1) (gB.setCell (p := ⟨w1.heap.size + 1, c, none⟩) (by simp; omega) (.int .i64 X))))
        clear g0 g1 gB
        go_wp2_with fail
        go_roundw
        case rel => exact ⟨c + 1, by omega, by go_num, K.out⟩
        case measure => simp [intOf]; omega
      · obtain rfl : c = 64 := by omega
        have h1 := h1.congr (g := fun c => thin (F c)) (fun j hj => mixG_64 hj)
        have hB' := below_setRow hB (b := w.heap.size) (by omega) (arrV .i64 64 fun c => thin (F c))
        go_wp2_with (first | (refine wpList_load_arr h1 _ _ rfl rfl rfl Tryd.underlying80 sizeI64 ?_) | (refine wpList_store_arr h0 _ _ _ rfl rfl rfl rfl sizeI64 ?_))
        refine bodyPost_ret (v := .tuple #[.agg (arrV .i64 64 fun c => thin (F c)), .nilIface]) ?_ rfl ⟨_, rfl, .ok, hB'⟩
        exact results_row_tmp rfl _ _ _ _ _ _ _ rfl (h0.setRow .i64 fun c => thin (F c)) Tryd.underlying80 rfl (by rw [arrV_size]; exact sizeI64) _ rfl

end Go.Proofs.YtnlcjbobfhmnmaaDoor

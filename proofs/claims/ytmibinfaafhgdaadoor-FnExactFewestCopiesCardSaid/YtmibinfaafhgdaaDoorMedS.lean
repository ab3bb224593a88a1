/-
  The median of copies in the reference. Condition: numbers of 16 bits.
-/
import Derived.Test.YtmibinfaafhgdaaDoorMed
namespace Go.Proofs.YtmibinfaafhgdaaDoor
open Go.RowKit

set_option maxRecDepth 100000 in
set_option maxHeartbeats 8000000 in
theorem l07Median_any (A : Option Addr) (n cap : Nat) (g : Nat → Nat → Int) (h1 : 1 ≤ n) (hn : n ≤ 8) (hs : ∀ i, i < n → S16 (g i)) (w : World) (hr : PrsIn w A n g) :
    Calls Tryd.prog 14 #[.slice A n cap] w fun e w' => e = .returned (.agg (arrV .i16 64 (medF g n))) ∧ Below w.heap.size w w' := by
  have a1 := (HasArr.zero w 37 (b := w.heap.size) rfl).alloc (.cells #[.int .i16 0, .int .i16 0, .int .i16 0, .int .i16 0, .int .i16 0, .int .i16 0, .int .i16 0, .int .i16 0, .int .i16 0, .int .i16 0, .int .i16 0, .int .i16 0, .int .i16 0, .int .i16 0, .int .i16 0, .int .i16 0, .int .i16 0, .int .i16 0, .int .i16 0, .int .i16 0, .int .i16 0, .int .i16 0, .int .i16 0, .int .i16 0, .int .i16 0, .int .i16 0, .int .i16 0, .int .i16 0, .int .i16 0, .int .i16 0, .int .i16 0, .int .i16 0, .int .i16 0, .int .i16 0, .int .i16 0, .int .i16 0, .int .i16 0, .int .i16 0, .int .i16 0, .int .i16 0, .int .i16 0, .int .i16 0, .int .i16 0, .int .i16 0, .int .i16 0, .int .i16 0, .int .i16 0, .int .i16 0, .int .i16 0, .int .i16 0, .int .i16 0, .int .i16 0, .int .i16 0, .int .i16 0, .int .i16 0, .int .i16 0, .int .i16 0, .int .i16 0, .int .i16 0, .int .i16 0, .int .i16 0, .int .i16 0, .int .i16 0, .int .i16 0] 37)
  have a2 := HasArr.zero (w.alloc (.cells #[.int .i16 0, .int .i16 0, .int .i16 0, .int .i16 0, .int .i16 0, .int .i16 0, .int .i16 0, .int .i16 0, .int .i16 0, .int .i16 0, .int .i16 0, .int .i16 0, .int .i16 0, .int .i16 0, .int .i16 0, .int .i16 0, .int .i16 0, .int .i16 0, .int .i16 0, .int .i16 0, .int .i16 0, .int .i16 0, .int .i16 0, .int .i16 0, .int .i16 0, .int .i16 0, .int .i16 0, .int .i16 0, .int .i16 0, .int .i16 0, .int .i16 0, .int .i16 0, .int .i16 0, .int .i16 0, .int .i16 0, .int .i16 0, .int .i16 0, .int .i16 0, .int .i16 0, .int .i16 0, .int .i16 0, .int .i16 0, .int .i16 0, .int .i16 0, .int .i16 0, .int .i16 0, .int .i16 0, .int .i16 0, .int .i16 0, .int .i16 0, .int .i16 0, .int .i16 0, .int .i16 0, .int .i16 0, .int .i16 0, .int .i16 0, .int .i16 0, .int .i16 0, .int .i16 0, .int .i16 0, .int .i16 0, .int .i16 0, .int .i16 0, .int .i16 0] 37)) 37 (b := w.heap.size + 1) (by simp)
  have k0 := ((Below.refl w.heap.size w).alloc (Nat.le_refl _) (.cells #[.int .i16 0, .int .i16 0, .int .i16 0, .int .i16 0, .int .i16 0, .int .i16 0, .int .i16 0, .int .i16 0, .int .i16 0, .int .i16 0, .int .i16 0, .int .i16 0, .int .i16 0, .int .i16 0, .int .i16 0, .int .i16 0, .int .i16 0, .int .i16 0, .int .i16 0, .int .i16 0, .int .i16 0, .int .i16 0, .int .i16 0, .int .i16 0, .int .i16 0, .int .i16 0, .int .i16 0, .int .i16 0, .int .i16 0, .int .i16 0, .int .i16 0, .int .i16 0, .int .i16 0, .int .i16 0, .int .i16 0, .int .i16 0, .int .i16 0, .int .i16 0, .int .i16 0, .int .i16 0, .int .i16 0, .int .i16 0, .int .i16 0, .int .i16 0, .int .i16 0, .int .i16 0, .int .i16 0, .int .i16 0, .int .i16 0, .int .i16 0, .int .i16 0, .int .i16 0, .int .i16 0, .int .i16 0, .int .i16 0, .int .i16 0, .int .i16 0, .int .i16 0, .int .i16 0, .int .i16 0, .int .i16 0, .int .i16 0, .int .i16 0, .int .i16 0] 37)).alloc (by simp) (.cells #[.int .i16 0, .int .i16 0, .int .i16 0, .int .i16 0, .int .i16 0, .int .i16 0, .int .i16 0, .int .i16 0, .int .i16 0, .int .i16 0, .int .i16 0, .int .i16 0, .int .i16 0, .int .i16 0, .int .i16 0, .int .i16 0, .int .i16 0, .int .i16 0, .int .i16 0, .int .i16 0, .int .i16 0, .int .i16 0, .int .i16 0, .int .i16 0, .int .i16 0, .int .i16 0, .int .i16 0, .int .i16 0, .int .i16 0, .int .i16 0, .int .i16 0, .int .i16 0, .int .i16 0, .int .i16 0, .int .i16 0, .int .i16 0, .int .i16 0, .int .i16 0, .int .i16 0, .int .i16 0, .int .i16 0, .int .i16 0, .int .i16 0, .int .i16 0, .int .i16 0, .int .i16 0, .int .i16 0, .int .i16 0, .int .i16 0, .int .i16 0, .int .i16 0, .int .i16 0, .int .i16 0, .int .i16 0, .int .i16 0, .int .i16 0, .int .i16 0, .int .i16 0, .int .i16 0, .int .i16 0, .int .i16 0, .int .i16 0, .int .i16 0, .int .i16 0] 37)
  have HR := Lib.hid hr; clear hr
  have HS := Lib.hid hs; clear hs
  have b1 := a1.rowOther (b' := w.heap.size + 1) (by omega) (arrV .i16 64 fun _ => 0)
  have b2 := a2.setRow .i16 (fun _ => 0)
  have k1 := below_setRow k0 (b := w.heap.size + 1) (by omega) (arrV .i16 64 fun _ => 0)
  go_enter Tryd.func14, Tryd.ntmps14
  go_wp2_with (refine wpList_store_arr (g := fun _ => 0) a2 37 (.tmp 3) (.tmp 9) rfl rfl rfl (by rw [zeroArr16]; rfl) sizePrint ?_)
  clear a1 a2 k0
  generalize (((w.alloc (.cells #[.int .i16 0, .int .i16 0, .int .i16 0, .int .i16 0, .int .i16 0, .int .i16 0, .int .i16 0, .int .i16 0, .int .i16 0, .int .i16 0, .int .i16 0, .int .i16 0, .int .i16 0, .int .i16 0, .int .i16 0, .int .i16 0, .int .i16 0, .int .i16 0, .int .i16 0, .int .i16 0, .int .i16 0, .int .i16 0, .int .i16 0, .int .i16 0, .int .i16 0, .int .i16 0, .int .i16 0, .int .i16 0, .int .i16 0, .int .i16 0, .int .i16 0, .int .i16 0, .int .i16 0, .int .i16 0, .int .i16 0, .int .i16 0, .int .i16 0, .int .i16 0, .int .i16 0, .int .i16 0, .int .i16 0, .int .i16 0, .int .i16 0, .int .i16 0, .int .i16 0, .int .i16 0, .int .i16 0, .int .i16 0, .int .i16 0, .int .i16 0, .int .i16 0, .int .i16 0, .int .i16 0, .int .i16 0, .int .i16 0, .int .i16 0, .int .i16 0, .int .i16 0, .int .i16 0, .int .i16 0, .int .i16 0, .int .i16 0, .int .i16 0, .int .i16 0] 37)).alloc (.cells #[.int .i16 0, .int .i16 0, .int .i16 0, .int .i16 0, .int .i16 0, .int .i16 0, .int .i16 0, .int .i16 0, .int .i16 0, .int .i16 0, .int .i16 0, .int .i16 0, .int .i16 0, .int .i16 0, .int .i16 0, .int .i16 0, .int .i16 0, .int .i16 0, .int .i16 0, .int .i16 0, .int .i16 0, .int .i16 0, .int .i16 0, .int .i16 0, .int .i16 0, .int .i16 0, .int .i16 0, .int .i16 0, .int .i16 0, .int .i16 0, .int .i16 0, .int .i16 0, .int .i16 0, .int .i16 0, .int .i16 0, .int .i16 0, .int .i16 0, .int .i16 0, .int .i16 0, .int .i16 0, .int .i16 0, .int .i16 0, .int .i16 0, .int .i16 0, .int .i16 0, .int .i16 0, .int .i16 0, .int .i16 0, .int .i16 0, .int .i16 0, .int .i16 0, .int .i16 0, .int .i16 0, .int .i16 0, .int .i16 0, .int .i16 0, .int .i16 0, .int .i16 0, .int .i16 0, .int .i16 0, .int .i16 0, .int .i16 0, .int .i16 0, .int .i16 0] 37)).setRow (w.heap.size + 1) (arrV .i16 64 fun _ => 0)) = W1 at *
  have b3 : HasArr W1 (w.heap.size + 1) 37 .i16 64 (mixN (medF g n) 0) := b2.congr fun j _ => by simp [mixN]
  go_loopw [4] (fun iv wr => ∃ k : Nat, k ≤ 64 ∧ iv = .int .i64 (k : Int) ∧ HasArr wr w.heap.size 37 .i16 64 (fun _ => 0) ∧ HasArr wr (w.heap.size + 1) 37 .i16 64 (mixN (medF g n) k) ∧ Below w.heap.size w wr) (fun iv _ => 64 - (intOf iv).toNat)
  case atStart => exact ⟨0, by omega, rfl, b1, b3, k1⟩
  case round =>
    clear b1 b2 b3 k1
    obtain ⟨k, hk, rfl, hz, hm, hB⟩ := hrel
    by_cases hlt : k < 64
    rotate_left
    · obtain rfl : k = 64 := by omega
      have hm2 := hm.congr (g := medF g n) fun j hj => by unfold mixN; rw [if_pos hj]
      have KB := Lib.hid hB; clear hB
      go_wp2_with (first | (refine wpList_load_arr hm2 37 (.tmp 3) rfl rfl rfl Tryd.underlying37 sizePrint ?_) | (refine wpList_store_arr hz 37 (.tmp 2) (.tmp 67) rfl rfl rfl rfl sizePrint ?_))
      refine bodyPost_ret (v := .agg (arrV .i16 64 (medF g n))) ?_ rfl ⟨rfl, below_setRow KB.out (b := w.heap.size) (by omega) _⟩
      exact results_cell_row rfl _ _ _ _ _ _ _ rfl (hz.setRow .i16 (medF g n)) Tryd.underlying37 rfl (by rw [arrV_size]; exact sizePrint)
    have hk' : (k : Int) < 64 := by omega
    have hml := hm.lt
    have o1 := World.ownsRow_lit (base := w.heap.size + 2) (e := 35) (size := 1) wr #[] 0 (by omega) (Nat.zero_le _) rfl
    have hb1 := (Below.refl (w.heap.size + 2) wr).alloc (by omega) (.cells #[] 35)
    have HZ := Lib.hid hz; have HM := Lib.hid hm; have HB := Lib.hid hB; clear hz hm hB
    obtain ⟨wo, hwo⟩ : ∃ wo : World, wo = wr := ⟨_, rfl⟩
    rw [← hwo] at hb1 o1 HZ HM HB hml ⊢
    clear hwo
    have hsk := Lib.hid (fun i hi => HS.out i hi k hlt)
    go_wp2_with fail
    go_loopw [5, 6] (fun sv iv wr => ∃ i : Nat, i ≤ n ∧ iv = .int .i64 (i : Int) ∧ wr.ownsRow (w.heap.size + 2) 35 1 sv i (l16 (isF (fun j => g j k) i) i) ∧ Below (w.heap.size + 2) wo wr) (fun _ iv _ => n - (intOf iv).toNat)
    case atStart => exact ⟨0, by omega, rfl, o1, hb1⟩
    case round =>
      clear o1 hb1
      obtain ⟨i, hin, rfl, ho, hB2⟩ := hrel
      obtain ⟨A2, cap2, rfl⟩ := own_isSliceS ho
      by_cases hil : i < n
      rotate_left
      · obtain rfl : i = n := by omega
        rcases own16_row ho with ⟨_, h0⟩ | ⟨q, cap3, e3, hq, hR⟩
        · exfalso; omega
        injection e3 with e4 e5 e6
        subst e4
        have hh := half_cast i h1
        have hd : (i - 1) / 2 < i := by omega
        have hd' : (((i - 1) / 2 : Nat) : Int) < i := by omega
        have c4 := hR.cell hd
        have hmed : isF (fun j => g j k) i ((i - 1) / 2) = medF g i k := rfl
        rw [hmed] at c4
        have hst := Lib.hid (fun j => mixN_step (medF g i) k j)
        have m3 := HM.out.below hB2 (by omega)
        have z3 := HZ.out.below hB2 (by omega)
        have k3 := HB.out.trans (hB2.mono (by omega))
        have c3 := m3.cell hlt
        have f3 := m3.free k
        generalize hV : medF g i k = V at *
        have m4 := Lib.hid ((m3.set k V).congr fun j _ => hst.out j)
        have z4 := Lib.hid (z3.other (a := ⟨w.heap.size + 1, k, none⟩) (by simp) (.int .i16 V))
        have k4 := Lib.hid (k3.setCell (p := ⟨w.heap.size + 1, k, none⟩) (by simp) (.int .i16 V))
        generalize hMM : (i - 1) / 2 = M at *
        clear m3 z3 k3 HZ HM HB hR ho
        go_wp2_with fail
        go_roundw
        case rel => exact ⟨k + 1, by omega, by go_num, z4.out, m4.out, k4.out⟩
        case measure => simp [intOf]; omega
      have hil' : (i : Int) < n := by omega
      have hwz : w.heap.size + 2 ≤ wr.heap.size := Nat.le_trans (by omega) hB2.size
      rcases HR.out.below (HB.out.trans (hB2.mono (by omega))) (Nat.le_refl _) with h0 | ⟨b, o, rfl, hlb, hc⟩
      · exfalso; omega
      have c0 := hc i hil k hlt
      clear hc
      have hx := hsk.out i hil
      have hfs := Lib.hid (fun a ha => isF_bd (x := fun j => g j k) (n := n) (fun j hj => hsk.out j hj) i hin a ha)
      have hnx : Hid (isF (fun j => g j k) (i + 1) = shF (isF (fun j => g j k) i) (g i k) (posF (isF (fun j => g j k) i) (g i k) i)) := Lib.hid rfl
      generalize hFe : isF (fun j => g j k) i = F at *
      have HB2 := Lib.hid hB2; clear hB2
      generalize hXe : g i k = X at *
      have hXL := Lib.hid hXe; have hFL := Lib.hid hFe; clear hXe hFe
      go_wp2_with (at_builtin; refine wpList_append_i16 rfl _ _ rfl rfl ho rfl (by first | rfl | simp) (by omega) hwz ?_)
      intro v3 w3 o3 hb3
      have o4 : w3.ownsRow (w.heap.size + 2) 35 1 v3 (i + 1) (l16 (stF F X i i) (i + 1)) := by
        rw [← l16_congr (fun j hj => stF_start F X i j hj)]; exact o3
      have hB3 := Lib.hid (HB2.out.trans hb3)
      clear o3 hb3 ho HB2 hwz
      rcases own16_row o4 with ⟨_, h0⟩ | ⟨q, cap3, rfl, hq, hR⟩
      · exfalso; omega
      have O4 := Lib.hid o4; clear o4 hR
      go_wp2_with fail
      go_loopw [8] (fun av wr => ∃ a : Nat, a ≤ i ∧ av = .int .i64 (a : Int) ∧ posF F X i = posF F X a ∧ wr.ownsRow (w.heap.size + 2) 35 1 (.slice (some ⟨q, 0, none⟩) (i + 1) cap3) (i + 1) (l16 (stF F X i a) (i + 1)) ∧ Below (w.heap.size + 2) wo wr) (fun av _ => (intOf av).toNat)
      case atStart => exact ⟨i, Nat.le_refl _, rfl, rfl, O4.out, hB3.out⟩
      case round =>
        clear O4 hB3
        obtain ⟨a, hai, rfl, hp, ho, hB4⟩ := hrel
        have hR := (own16_rowS ho).2
        have HP := Lib.hid hp; clear hp
        have hend : Hid (posF F X i = a → ∀ W : World, W.ownsRow (w.heap.size + 2) 35 1 (.slice (some ⟨q, 0, none⟩) (i + 1) cap3) (i + 1) (l16 (upd (stF F X i a) a X) (i + 1)) → W.ownsRow (w.heap.size + 2) 35 1 (.slice (some ⟨q, 0, none⟩) (i + 1) cap3) (i + 1) (l16 (isF (fun j => g j k) (i + 1)) (i + 1))) := Lib.hid (fun h W hW => by
          rw [hnx.out, h]
          rw [l16_congr (fun j _ => stF_end F X i a j)] at hW
          exact hW)
        have cz := hR.cell (j := a) (by omega)
        have fz := hR.free a
        have ha' : (a : Int) < (i + 1 : Nat) := by omega
        by_cases ha0 : a = 0
        · subst ha0
          have o5 := Lib.hid (hend.out HP.out _ (own16_set ho (k := 0) (by omega) X))
          have k5 := Lib.hid (hB4.setCell (p := ⟨q, 0, none⟩) hq (.int .i16 X))
          clear ho hB4 hR hend HP
          go_wp2_with fail
          go_roundw
          case rel => exact ⟨i + 1, by omega, by go_num, o5.out, k5.out⟩
          case measure => simp [intOf]; omega
        · obtain ⟨a', rfl⟩ : ∃ a', a = a' + 1 := ⟨a - 1, by omega⟩
          have cy := hR.cell (j := a') (by omega)
          rw [stF_before] at cy
          have hyb := hfs.out a' (by omega)
          have ha2 : (a' : Int) < (i + 1 : Nat) := by omega
          have hyes := posF_yes (f := F) (v := X) (m := a')
          have hno := posF_no (f := F) (v := X) (m := a')
          have hst := Lib.hid (l16_congr (n := i + 1) (fun j (_ : j < i + 1) => stF_step F X i a' j hai))
          generalize hYe : F a' = Y at *
          by_cases hlt2 : X < Y
          · have HP2 := Lib.hid (HP.out.trans (hyes hlt2)); clear hyes hno hend HP
            have o5 : Hid ((wr.setCell ⟨q, a' + 1, none⟩ (.int .i16 Y)).ownsRow (w.heap.size + 2) 35 1 (.slice (some ⟨q, 0, none⟩) (i + 1) cap3) (i + 1) (l16 (stF F X i a') (i + 1))) := Lib.hid (by
              have := own16_set ho (k := a' + 1) (by omega) Y
              rw [hst.out] at this; exact this)
            have k5 := Lib.hid (hB4.setCell (p := ⟨q, a' + 1, none⟩) hq (.int .i16 Y))
            clear ho hB4 hR hst
            go_wp2_with fail
            go_roundw
            case rel => exact ⟨a', by omega, by go_num, HP2.out, o5.out, k5.out⟩
            case measure => simp [intOf]
          · have hdec : decide (X < Y) = false := decide_eq_false hlt2
            have o5 := Lib.hid (hend.out (HP.out.trans (hno (by omega))) _ (own16_set ho (k := a' + 1) (by omega) X))
            have k5 := Lib.hid (hB4.setCell (p := ⟨q, a' + 1, none⟩) hq (.int .i16 X))
            clear ho hB4 hR hend HP hyes hno hst
            go_wp2_with fail
            go_roundw
            case rel => exact ⟨i + 1, by omega, by go_num, o5.out, k5.out⟩
            case measure => simp [intOf]; omega
end Go.Proofs.YtmibinfaafhgdaaDoor

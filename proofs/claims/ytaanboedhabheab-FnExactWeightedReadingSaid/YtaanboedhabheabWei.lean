/-
  The mean in which the middle counts more: what both sides return, for every scene. Condition of the reference's: int8 numbers.
-/
import Derived.Test.YtaanboedhabheabFld
namespace Go.Proofs.Ytaanboedhabheab
open Go.RowKit

/-- The code of a scene. -/
def okC (f : Nat → Int) : Int := if scnB f = true then 0 else 1
/-- How often a cell counts. -/
def weiS (k : Nat) : Int := if 1 ≤ k % 6 ∧ k % 6 ≤ 4 ∧ 1 ≤ k / 6 ∧ k / 6 ≤ 2 then 3 else 1
theorem weiS_W3 : W3 weiS := fun k _ => by unfold weiS; split <;> omega
theorem weiS_pos : 1 ≤ cntS weiS 24 := cntS_pos weiS_W3 (j := 0) (by decide) 24 (by decide) (by decide)

set_option maxHeartbeats 1000000 in
theorem weightInScene_any (k : Nat) (hk : k < 24) (w : World) : Calls Try.prog 24 #[.int .i64 (k : Int)] w fun e w' => e = .returned (.int .i64 (weiS k)) ∧ w = w' := by
  have h1 := fun W => inRange_any ((k : Int) % 6) 1 4 W
  have h2 := fun W => inRange_any ((k : Int) / 6) 1 2 W
  have hm : 0 ≤ (k : Int) % 6 ∧ (k : Int) % 6 ≤ 5 := by omega
  have hd : 0 ≤ (k : Int) / 6 ∧ (k : Int) / 6 ≤ 3 := by omega
  have hw : weiS k = if inB ((k : Int) % 6) 1 4 = true then (if inB ((k : Int) / 6) 1 2 = true then 3 else 1) else 1 := by
    unfold weiS
    by_cases a : inB ((k : Int) % 6) 1 4 = true
    · have a' := inB_true.1 a
      rw [if_pos a]
      by_cases b : inB ((k : Int) / 6) 1 2 = true
      · have b' := inB_true.1 b
        rw [if_pos b, if_pos (by omega)]
      · have b' : ¬ _ := fun h => b (inB_true.2 h)
        rw [if_neg b, if_neg (by omega)]
    · have a' : ¬ _ := fun h => a (inB_true.2 h)
      rw [if_neg a, if_neg (by omega)]
  rw [hw]
  clear hw
  generalize inB ((k : Int) % 6) 1 4 = A at *
  generalize inB ((k : Int) / 6) 1 2 = B at *
  rcases A with _ | _
  · have H1 := Lib.hid h1; clear h1 h2
    go_enter Try.func24, Try.ntmps24
    go_wp2_with fail
    refine (H1.out _).mono ?_; rintro e w1 ⟨rfl, rfl⟩
    go_wp2_with fail
    go_ret
    exact ⟨rfl, rfl⟩
  rcases B with _ | _
  all_goals
    have H1 := Lib.hid h1; have H2 := Lib.hid h2; clear h1 h2
    go_enter Try.func24, Try.ntmps24
    go_wp2_with fail
    refine (H1.out _).mono ?_; rintro e w1 ⟨rfl, rfl⟩
    go_wp2_with fail
    refine (H2.out _).mono ?_; rintro e w1 ⟨rfl, rfl⟩
    go_wp2_with fail
    go_ret
    exact ⟨rfl, rfl⟩

set_option maxRecDepth 100000 in
set_option maxHeartbeats 1000000 in
theorem meanW_any (f : Nat → Int) (hf : ∀ k, k < 24 → 0 ≤ f k ∧ f k ≤ 60) (w : World) :
    Calls Try.prog 23 #[.agg (arrV .i8 24 f), .func (.func 24) #[] #[]] w fun e w' => e = .returned (.int .i64 (mnV f weiS)) ∧ Below w.heap.size w w' := by
  have hw := fun k (hk : k < 24) W => weightInScene_any k hk W
  have hr := fun k (hk : k < 24) W => readingS_any f k hk (fun j hj => by have := hf j hj; omega) W
  have hc := weiS_W3
  have hp := weiS_pos
  have Hf := Lib.hid hf; clear hf
  have Hc := Lib.hid hc; clear hc
  have Hw := Lib.hid hw; clear hw
  have Hr := Lib.hid hr; clear hr
  have hmn : mnV f weiS = sumS f weiS 24 / cntS weiS 24 := rfl
  have Hmn := Lib.hid hmn; clear hmn
  have Hp := Lib.hid hp; clear hp
  have K0 := Lib.hid (And.intro (HasArr.new w 25 .i8 24 f) ((Below.refl w.heap.size w).alloc (Nat.le_refl _) (.cells (arrV .i8 24 f) 25)))
  generalize weiS = c at *
  go_enter Try.func23, Try.ntmps23
  go_wp2_with fail
  go_loopw [5, 6, 8] (fun s n i wr => ∃ k : Nat, k ≤ 24 ∧ i = .int .i64 k ∧ s = .int .i64 (sumS f c k) ∧ n = .int .i64 (cntS c k) ∧ HasArr wr w.heap.size 25 .i8 24 f ∧ Below w.heap.size w wr) (fun _ _ i _ => 24 - (intOf i).toNat)
  case atStart => exact ⟨0, by omega, rfl, rfl, rfl, K0.out⟩
  case round =>
    obtain ⟨k, hk, rfl, rfl, rfl, h1, hB⟩ := hrel
    clear K0
    by_cases hkn : k < 24
    · have bs := sumS_bd Hf.out Hc.out k hk
      have bn := cntS_bd Hc.out k hk
      have bf := Hf.out k hkn
      have bc := Hc.out k hkn
      have bm := mul_bd bc.1 bc.2 bf.1 bf.2
      have hwk := fun W => Hw.out k hkn W
      have hrk := fun W => Hr.out k hkn W
      have HS := Lib.hid (show sumS f c (k + 1) = sumS f c k + c k * f k from rfl)
      have HN := Lib.hid (show cntS c (k + 1) = cntS c k + c k from rfl)
      have H1 := Lib.hid h1; clear h1
      have HB := Lib.hid hB; clear hB
      generalize sumS f c k = S at *
      generalize cntS c k = N at *
      generalize f k = X at *
      generalize c k = C at *
      generalize hPp : C * X = Pp at *
      have e0 : IntKind.i64.wrap (C * X) = Pp := by rw [hPp]; exact IntWalk.i64_in _ (by omega)
      have e1 : IntKind.i64.wrap (S + Pp) = S + Pp := IntWalk.i64_in _ (by omega)
      have HP := Lib.hid hPp; clear hPp
      have Hwk := Lib.hid hwk; clear hwk
      have Hrk := Lib.hid hrk; clear hrk
      go_wp2_with fail
      refine wp_region_quietD (Below wr.heap.size wr) (by kernel_rfl) (by kernel_rfl) (below_drew1 _) ?_
      have n0 := below_nonempty wr
      quiet_step (fail)
      quiet_step (fail)
      quiet_step (fail)
      quiet_step ((go_at_call 24; exact inCallS _ (Hwk.out _)))
      refine wpQuiet_load_arr (fun W hW => by obtain ⟨x, rfl⟩ := hW; exact H1.out.below x.ok H1.out.lt) 25 (.tmp 2) rfl rfl rfl Try.underlying25 sizeScn ?_
      quiet_step (fail)
      quiet_step ((go_at_call 30; exact inCall _ (Hrk.out _)))
      quiet_step (fail)
      quiet_step (fail)
      quiet_step (fail)
      refine wpQuiet_nil ?_
      rintro w2 ⟨⟨w3, hb2⟩, rfl⟩
      clear e0 e1
      have K := Lib.hid (And.intro (H1.out.below hb2 H1.out.lt) (HB.out.trans (Below.mono hb2 HB.out.size)))
      clear H1 HB hb2 n0
      go_wp2_with fail
      refine (Hwk.out _).mono ?_; rintro e w4 ⟨rfl, rfl⟩
      go_wp2_with fail
      go_roundw
      case rel => exact ⟨k + 1, by omega, by go_num, by rw [HS.out], by rw [HN.out], K.out⟩
      case measure => simp [intOf]; omega
    · obtain rfl : k = 24 := by omega
      have bs := sumS_bd Hf.out Hc.out 24 (by omega)
      have bn := Hp.out
      have hm := Hmn.out
      generalize sumS f c 24 = S at *
      generalize cntS c 24 = N at *
      have HM := Lib.hid hm; clear hm
      go_wp2_with fail
      go_ret
      exact ⟨ret_int HM.out.symm, hB⟩

set_option maxRecDepth 100000 in
set_option maxHeartbeats 1000000 in
theorem specWeightedReading_any (f : Nat → Int) (hf : S8 f) (w : World) :
    Calls Try.prog 11 #[.agg (arrV .i8 24 f)] w fun e w' => e = .returned (.tuple #[.int .i64 (ifS (okC f) (mnV f weiS)), .int .i64 (okC f)]) ∧ Below w.heap.size w w' := by
  have a1 := HasArr.new w 25 .i8 24 f
  have k0 := (Below.refl w.heap.size w).alloc (Nat.le_refl _) (.cells (arrV .i8 24 f) 25)
  have hok := l06Ok_any w.heap.size 25 f hf _ a1
  unfold okC
  rcases hv : scnB f with _ | _
  · simp only [Bool.false_eq_true, if_false, ifS_1]
    rw [hv] at hok
    have Hok := Lib.hid hok; clear hok hv a1 hf
    go_enter Try.func11, Try.ntmps11
    go_wp2_with fail
    refine Hok.out.mono ?_; rintro e w1 ⟨rfl, rfl⟩
    go_wp2_with fail
    go_ret2
    exact ⟨rfl, k0⟩
  · simp only [if_true, ifS_0]
    have hb := fun k hk => scnB_bd hv (k := k) hk
    have hmn := fun W g1 g2 => l06Mean_any w.heap.size (w.heap.size + 1) 25 40 f weiS hb weiS_W3 weiS_pos W g1 g2
    rw [hv] at hok
    have Hok := Lib.hid hok
    have Hmn := Lib.hid hmn
    clear hok hv hf hb hmn
    generalize mnV f weiS = V at *
    have hwe : ∀ k : Nat, weiS k = if inB ((k : Int) % 6) 1 4 = true then (if inB ((k : Int) / 6) 1 2 = true then 3 else 1) else 1 := fun k => by
      unfold weiS
      by_cases a : inB ((k : Int) % 6) 1 4 = true
      · have a' := inB_true.1 a
        rw [if_pos a]
        by_cases b : inB ((k : Int) / 6) 1 2 = true
        · have b' := inB_true.1 b
          rw [if_pos b, if_pos (by omega)]
        · have b' : ¬ _ := fun h => b (inB_true.2 h)
          rw [if_neg b, if_neg (by omega)]
      · have a' : ¬ _ := fun h => a (inB_true.2 h)
        rw [if_neg a, if_neg (by omega)]
    have Hwe := Lib.hid hwe; clear hwe
    have b1 := a1.alloc (.cells #[.int .i64 0, .int .i64 0, .int .i64 0, .int .i64 0, .int .i64 0, .int .i64 0, .int .i64 0, .int .i64 0, .int .i64 0, .int .i64 0, .int .i64 0, .int .i64 0, .int .i64 0, .int .i64 0, .int .i64 0, .int .i64 0, .int .i64 0, .int .i64 0, .int .i64 0, .int .i64 0, .int .i64 0, .int .i64 0, .int .i64 0, .int .i64 0] 40)
    have b2 := HasArr.zeroL (w.alloc (.cells (arrV .i8 24 f) 25)) 40 (b := w.heap.size + 1) (by simp)
    have k2 := k0.alloc (by simp) (.cells #[.int .i64 0, .int .i64 0, .int .i64 0, .int .i64 0, .int .i64 0, .int .i64 0, .int .i64 0, .int .i64 0, .int .i64 0, .int .i64 0, .int .i64 0, .int .i64 0, .int .i64 0, .int .i64 0, .int .i64 0, .int .i64 0, .int .i64 0, .int .i64 0, .int .i64 0, .int .i64 0, .int .i64 0, .int .i64 0, .int .i64 0, .int .i64 0] 40)
    have K0 := Lib.hid (And.intro (b1.rowOther (b' := w.heap.size + 1) (by omega) (arrV .i64 24 fun _ => 0)) (And.intro ((b2.setRow .i64 fun _ => 0).congr (fun j _ => mixFN_0 weiS (fun _ => 0) j)) (below_setRow k2 (b := w.heap.size + 1) (by omega) (arrV .i64 24 fun _ => 0))))
    clear a1 b1 k2 k0
    go_enter Try.func11, Try.ntmps11
    go_wp2_with fail
    refine Hok.out.mono ?_; rintro e w1 ⟨rfl, rfl⟩
    go_wp2_with (refine wpList_store_zL b2 _ _ _ rfl rfl rfl rfl sizeCnt ?_)
    clear b2
    go_loopw [5] (fun i wr => ∃ k : Nat, k ≤ 24 ∧ i = .int .i64 k ∧ HasArr wr w.heap.size 25 .i8 24 f ∧ HasArr wr (w.heap.size + 1) 40 .i64 24 (mixFN weiS (fun _ => 0) k) ∧ Below w.heap.size w wr) (fun i _ => 24 - (intOf i).toNat)
    case atStart => exact ⟨0, by omega, rfl, K0.out⟩
    case round =>
      obtain ⟨k, hk, rfl, h1, h2, hB⟩ := hrel
      clear K0
      by_cases hkn : k < 24
      · have c2 := h2.cell hkn
        have f2 := h2.free k
        have hwk := Hwe.out k
        have hm : 0 ≤ (k : Int) % 6 ∧ (k : Int) % 6 ≤ 5 := by omega
        have hd : 0 ≤ (k : Int) / 6 ∧ (k : Int) / 6 ≤ 3 := by omega
        have q1 := fun W => l00In_any ((k : Int) % 6) 1 4 W
        have q2 := fun W => l00In_any ((k : Int) / 6) 1 2 W
        generalize inB ((k : Int) % 6) 1 4 = A at *
        generalize inB ((k : Int) / 6) 1 2 = B at *
        have K := Lib.hid (And.intro h1 (And.intro h2 hB)); clear h1 hB
        have fin : ∀ (v : Int), weiS k = v → HasArr (wr.setCell ⟨w.heap.size + 1, k, none⟩ (.int .i64 v)) w.heap.size 25 .i8 24 f ∧ HasArr (wr.setCell ⟨w.heap.size + 1, k, none⟩ (.int .i64 v)) (w.heap.size + 1) 40 .i64 24 (mixFN weiS (fun _ => 0) (k + 1)) ∧ Below w.heap.size w (wr.setCell ⟨w.heap.size + 1, k, none⟩ (.int .i64 v)) := fun v hv =>
          ⟨K.out.1.other (a := ⟨w.heap.size + 1, k, none⟩) (by simp) _, (K.out.2.1.set k v).congr (fun j _ => by rw [← hv]; exact mixFN_step _ _ k j), K.out.2.2.setCell (p := ⟨w.heap.size + 1, k, none⟩) (by simp) _⟩
        have fin2 : ∀ (v : Int), weiS k = v → HasArr ((wr.setCell ⟨w.heap.size + 1, k, none⟩ (.int .i64 1)).setCell ⟨w.heap.size + 1, k, none⟩ (.int .i64 v)) w.heap.size 25 .i8 24 f ∧ HasArr ((wr.setCell ⟨w.heap.size + 1, k, none⟩ (.int .i64 1)).setCell ⟨w.heap.size + 1, k, none⟩ (.int .i64 v)) (w.heap.size + 1) 40 .i64 24 (mixFN weiS (fun _ => 0) (k + 1)) ∧ Below w.heap.size w ((wr.setCell ⟨w.heap.size + 1, k, none⟩ (.int .i64 1)).setCell ⟨w.heap.size + 1, k, none⟩ (.int .i64 v)) := fun v hv =>
          ⟨(K.out.1.other (a := ⟨w.heap.size + 1, k, none⟩) (by simp) _).other (a := ⟨w.heap.size + 1, k, none⟩) (by simp) _, ((K.out.2.1.set k 1).set k v).congr (fun j _ => by
            rw [show upd (upd (mixFN weiS (fun _ => 0) k) k 1) k v j = upd (mixFN weiS (fun _ => 0) k) k v j by unfold upd; split <;> rfl, ← hv]
            exact mixFN_step _ _ k j), (K.out.2.2.setCell (p := ⟨w.heap.size + 1, k, none⟩) (by simp) _).setCell (p := ⟨w.heap.size + 1, k, none⟩) (by simp) _⟩
        have Fin := Lib.hid fin; clear fin
        have Fin2 := Lib.hid fin2; clear fin2
        have Q1 := Lib.hid q1; have Q2 := Lib.hid q2; clear q1 q2 h2
        rcases A with _ | _
        · have HW := Lib.hid hwk; clear hwk
          go_wp2_with fail
          refine (Q1.out _).mono ?_; rintro e w1 ⟨rfl, rfl⟩
          go_wp2_with fail
          go_roundw
          case rel => exact ⟨k + 1, by omega, by go_num, Fin.out 1 (by rw [HW.out]; rfl)⟩
          case measure => simp [intOf]; omega
        rcases B with _ | _
        · have HW := Lib.hid hwk; clear hwk
          go_wp2_with fail
          refine (Q1.out _).mono ?_; rintro e w1 ⟨rfl, rfl⟩
          go_wp2_with fail
          refine (Q2.out _).mono ?_; rintro e w1 ⟨rfl, rfl⟩
          go_wp2_with fail
          go_roundw
          case rel => exact ⟨k + 1, by omega, by go_num, Fin.out 1 (by rw [HW.out]; rfl)⟩
          case measure => simp [intOf]; omega
        · have HW := Lib.hid hwk; clear hwk
          go_wp2_with fail
          refine (Q1.out _).mono ?_; rintro e w1 ⟨rfl, rfl⟩
          go_wp2_with fail
          refine (Q2.out _).mono ?_; rintro e w1 ⟨rfl, rfl⟩
          go_wp2_with fail
          go_roundw
          case rel => exact ⟨k + 1, by omega, by go_num, by first | exact Fin2.out 3 (by rw [HW.out]; rfl) | exact Fin.out 3 (by rw [HW.out]; rfl)⟩
          case measure => simp [intOf]; omega
      · obtain rfl : k = 24 := by omega
        have h2 := h2.congr (g := weiS) (fun j hj => mixFN_n _ _ hj)
        have hm := Hmn.out wr h1 h2
        have HM := Lib.hid hm; clear hm h1 h2
        go_wp2_with fail
        refine HM.out.mono ?_; rintro e w2 ⟨rfl, hb2⟩
        go_wp2_with fail
        go_ret2
        exact ⟨rfl, hB.trans (hb2.mono hB.size)⟩

set_option maxRecDepth 100000 in
set_option maxHeartbeats 1000000 in
theorem WeightedReading_any (f : Nat → Int) (w : World) :
    Calls Try.prog 12 #[.agg (arrV .i8 24 f)] w fun e w' => e = .returned (.tuple #[.int .i64 (ifS (okC f) (mnV f weiS)), .int .i64 (okC f)]) ∧ Below w.heap.size w w' := by
  have a1 := HasArr.new w 25 .i8 24 f
  have k0 := (Below.refl w.heap.size w).alloc (Nat.le_refl _) (.cells (arrV .i8 24 f) 25)
  have hok := fun W => ValidScene_any f W
  unfold okC
  rcases hv : scnB f with _ | _
  · simp only [Bool.false_eq_true, if_false, ifS_1]
    rw [hv] at hok
    have Hok := Lib.hid hok; clear hok hv
    go_enter Try.func12, Try.ntmps12
    go_wp2_with (refine wpList_load_arr a1 _ _ rfl rfl rfl Try.underlying25 sizeScn ?_)
    refine (Hok.out _).mono ?_; rintro e w1 ⟨rfl, hb1⟩
    go_wp2_with fail
    go_ret2
    exact ⟨rfl, k0.trans (hb1.mono k0.size)⟩
  · simp only [if_true, ifS_0]
    have hb := fun k hk => scnB_bd hv (k := k) hk
    have hmn := fun W => meanW_any f hb W
    rw [hv] at hok
    have Hok := Lib.hid hok
    have Hmn := Lib.hid hmn
    clear hok hv hb hmn
    generalize mnV f weiS = V at *
    go_enter Try.func12, Try.ntmps12
    go_wp2_with (refine wpList_load_arr a1 _ _ rfl rfl rfl Try.underlying25 sizeScn ?_)
    refine (Hok.out _).mono ?_; rintro e w1 ⟨rfl, hb1⟩
    have k1 := k0.trans (hb1.mono k0.size)
    have b1 := a1.below hb1 a1.lt
    clear a1 hb1 k0
    go_wp2_with (refine wpList_load_arr b1 _ _ rfl rfl rfl Try.underlying25 sizeScn ?_)
    refine (Hmn.out _).mono ?_; rintro e w3 ⟨rfl, hb3⟩
    go_wp2_with fail
    go_ret2
    exact ⟨rfl, k1.trans (hb3.mono k1.size)⟩
end Go.Proofs.Ytaanboedhabheab

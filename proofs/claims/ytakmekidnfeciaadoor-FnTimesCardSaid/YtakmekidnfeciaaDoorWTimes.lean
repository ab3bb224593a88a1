/-
  The walk of the law FnTimes: it returns true for all bytes. Condition: the listed variables hold what the row lists.
-/
import Derived.Test.YtakmekidnfeciaaDoorSrc
import Derived.Test.YtakmekidnfeciaaDoorTimes3
import Derived.Test.YtakmekidnfeciaaDoorTimesOf
import Derived.Test.YtakmekidnfeciaaDoorEnv
import Derived.Test.YtakmekidnfeciaaDoorPlainTimes2
import Derived.Deep.DeepCutAuto
import Derived.Lib.MinMax
namespace Go.Proofs.YtakmekidnfeciaaDoor
open Go.RowKit

theorem timeR_in {k : Int} (h0 : 0 ≤ k) (h1 : k ≤ 36) : timeR k = tm k ∧ timeC k = 0 := by
  have h := inB_true.2 ⟨h0, h1⟩
  simp [timeR, timeC, h]
theorem thinR_at {k : Int} (h0 : 0 ≤ k) (h1 : k ≤ 36) : thinR (tm k) = k ∧ thinC (tm k) = 0 := by
  have hb := tm_bd k h0 (by omega)
  exact thinR_in (inB_true.2 ⟨by omega, by omega⟩) h0 (thin_tm k h0 h1).symm
theorem nearR_at {n : Int} (h0 : 0 ≤ n) (h1 : n ≤ 100000000) : nearR n = near n ∧ nearC n = 0 := by
  have h : milB n = true := inB_true.2 ⟨h0, h1⟩
  simp [nearR, nearC, h]
theorem pow_pick {r : Int} (h : Picked 22 r) : 2 ≤ wrap64 (2 ^ (1 + r).toNat) ∧ wrap64 (2 ^ (1 + r).toNat) ≤ 4194304 := by
  obtain ⟨h0, h1⟩ := h.lt (by omega)
  obtain ⟨n, rfl⟩ := Int.eq_ofNat_of_zero_le h0
  have key : ∀ n : Nat, n < 22 → 2 ≤ wrap64 (2 ^ (1 + n)) ∧ wrap64 (2 ^ (1 + n)) ≤ 4194304 := by decide +kernel
  rw [show (1 + (n : Int)).toNat = 1 + n by omega]
  exact key n (by omega)

theorem ts3 {k : Int} (h0 : 0 ≤ k) (h1 : k ≤ 35) : tsR 3 (fun j => if j = 1 then k + 1 else k) = 2 * tm k + tm (k + 1) ∧ tsC 3 (fun j => if j = 1 then k + 1 else k) = 0 := by
  have a1 := inB_true.2 (show 0 ≤ k ∧ k ≤ 36 by omega)
  have a2 := inB_true.2 (show 0 ≤ k + 1 ∧ k + 1 ≤ 36 by omega)
  have h : tsOk 3 (fun j => if j = 1 then k + 1 else k) = true := by simp [tsOk, allIn, a1, a2]
  rw [(ts_yes h).1, (ts_yes h).2]
  refine ⟨?_, rfl⟩
  simp [sumT]; omega
theorem row3 (w : World) (x y : Int) : (w.alloc (.cells #[.int .i64 x, .int .i64 y, .int .i64 x] 2)).rowIs w.heap.size 2 3 (fun j => .int .i64 (if j = 1 then y else x)) :=
  World.rowIs_alloc w #[.int .i64 x, .int .i64 y, .int .i64 x] 2 _ fun i hi => by
    have : i = 0 ∨ i = 1 ∨ i = 2 := by simp at hi; omega
    rcases this with rfl | rfl | rfl <;> rfl
theorem enl_at {k b : Int} (h0 : 0 ≤ k) (h1 : k ≤ 36) (b0 : 1 ≤ b) (b1 : b ≤ 100) : enlR k b b = k ∧ enlC k b b = 0 := by
  have h : enlOk k b b = true := by simp [enlOk, inB_true.2 ⟨h0, h1⟩, inB_true.2 ⟨b0, b1⟩]
  have e : enlN k b b = tm k := enl_same k b b0
  have hb := tm_bd k h0 (by omega)
  rw [(enl_yes h).1, (enl_yes h).2, e, if_neg (by omega), if_neg (by omega)]
  exact ⟨near_tm k h0 h1, rfl⟩
theorem enl_up {k b : Int} (h0 : 0 ≤ k) (h1 : k ≤ 36) (b0 : 1 ≤ b) (b1 : b ≤ 99) : enlC k b (b + 1) = 0 ∧ k ≤ enlR k b (b + 1) ∨ enlC k b (b + 1) = 3 := by
  have h : enlOk k b (b + 1) = true := by simp [enlOk, inB_true.2 ⟨h0, h1⟩, inB_true.2 (show 1 ≤ b ∧ b ≤ 100 by omega), inB_true.2 (show 1 ≤ b + 1 ∧ b + 1 ≤ 100 by omega)]
  rw [(enl_yes h).1, (enl_yes h).2]
  by_cases hc : 100000000 < enlN k b (b + 1)
  · rw [if_pos hc, if_pos hc]; exact .inr rfl
  · rw [if_neg hc, if_neg hc]
    exact .inl ⟨rfl, near_ge _ _ h0 h1 (enl_more k b h0 h1 b0)⟩

set_option maxRecDepth 100000 in
set_option maxHeartbeats 4000000 in
theorem walk_FnTimes (A : Option Addr) (n cap : Nat) (bs : Nat → Int) (A' : Option Addr) (n' cap' : Nat) (bs' : Nat → Int) (w : World) (hL : laidMetH Tryd.prog Rows.fnTimesRow.laid w)
    (hr : BytesIn w A n bs) (hm : n ≤ maxLen) (hbs : ∀ j, j < n → 0 ≤ bs j ∧ bs j ≤ 255) (hr' : BytesIn w A' n' bs') (hm' : n' ≤ maxLen) (hbs' : ∀ j, j < n' → 0 ≤ bs' j ∧ bs' j ≤ 255) :
    Calls Tryd.prog 12 #[.slice A n cap, .slice A' n' cap'] w fun e w' => e = .returned (.bool true) ∧ Below w.heap.size w w' := by
  obtain ⟨s, hE⟩ := errEnv_of_row hL (by kernel_rfl) (by kernel_rfl)
  have hT := timEnv_of_row hL (by kernel_rfl) (by kernel_rfl)
  unfold maxLen at hm hm'
  have HE := Lib.hid hE; clear hE
  have HT := Lib.hid hT; clear hT
  by_cases hn : 4096 < n
  · go_enter Tryd.func12, Tryd.ntmps12
    have e1 := f6big_any A n cap w hm
    rw [decide_eq_true hn] at e1
    have E1 := Lib.hid e1; clear e1
    go_wp2_with fail
    refine E1.out.mono ?_; rintro e w1 ⟨rfl, rfl⟩
    go_wp2_with fail
    go_ret
    exact ⟨rfl, Below.refl _ _⟩
  have e1 := f6big_any A n cap w hm
  rw [decide_eq_false hn] at e1
  have E1 := Lib.hid e1; clear e1
  by_cases hn' : 4096 < n'
  · have e2 := f6big_any A' n' cap' w hm'
    rw [decide_eq_true hn'] at e2
    have E2 := Lib.hid e2; clear e2
    go_enter Tryd.func12, Tryd.ntmps12
    go_wp2_with fail
    refine E1.out.mono ?_; rintro e w1 ⟨rfl, rfl⟩
    go_wp2_with fail
    refine E2.out.mono ?_; rintro e w1 ⟨rfl, rfl⟩
    go_wp2_with fail
    go_ret
    exact ⟨rfl, Below.refl _ _⟩
  have e2 := f6big_any A' n' cap' w hm'
  rw [decide_eq_false hn'] at e2
  have E2 := Lib.hid e2; clear e2
  have Hbs := Lib.hid hbs; clear hbs
  have Hbs' := Lib.hid hbs'; clear hbs'
  go_enter Tryd.func12, Tryd.ntmps12
  go_wp2_with fail
  refine E1.out.mono ?_; rintro e w1 ⟨rfl, rfl⟩
  go_wp2_with fail
  refine E2.out.mono ?_; rintro e w1 ⟨rfl, rfl⟩
  go_wp2_with fail
  refine (P6Pick_any A n cap bs 36 (by omega) (by omega) (by omega) Hbs.out _ hr).mono ?_; rintro e w1 ⟨k, rfl, hk, k1⟩
  have hk := hk.lt (by omega)
  have hk3 := timeR_in (k := k) hk.1 (by omega)
  have hk4 := timeR_in (k := k + 1) (by omega) (by omega)
  have t1 := TimeOf_any s k
  have t2 := TimeOf_any s (k + 1)
  have t3 := specTimeOf_any k
  rw [hk3.1, hk3.2] at t1 t3
  rw [hk4.1, hk4.2] at t2
  have T1 := Lib.hid t1; clear t1
  have T2 := Lib.hid t2; clear t2
  have T3 := Lib.hid t3; clear t3
  clear hk3 hk4
  go_wp2_with fail
  refine (T1.out _ (HT.out.below k1 (Nat.le_refl _)) (HE.out.below k1 (Nat.le_refl _))).mono ?_; rintro e w2 ⟨rfl, hb2⟩
  have k2 := k1.trans (hb2.mono k1.size)
  go_wp2_with fail
  refine (T2.out _ (HT.out.below k2 (Nat.le_refl _)) (HE.out.below k2 (Nat.le_refl _))).mono ?_; rintro e w3 ⟨rfl, hb3⟩
  have k3 := k2.trans (hb3.mono k2.size)
  go_wp2_with fail
  refine (T3.out _).mono ?_; rintro e w4 ⟨rfl, hb4⟩
  have k4 := k3.trans (hb4.mono k3.size)
  go_wp2_with fail
  have tS := ts3 hk.1 (by omega)
  have t5 := fun (b cap : Nat) (W : World) hrW hTW hEW => TimesOf_any s b 3 cap (fun j => if j = 1 then k + 1 else k) W hrW hTW hEW
  rw [tS.1, tS.2] at t5
  have T5 := Lib.hid t5; clear t5 tS
  have k4' := k4.alloc k4.size (.cells #[.int .i64 k, .int .i64 (k + 1), .int .i64 k] 2)
  have hR := row3 w4 k (k + 1)
  have HR := Lib.hid hR; clear hR
  go_wp2_with fail
  refine (T5.out _ _ _ HR.out (HT.out.below k4' (Nat.le_refl _)) (HE.out.below k4' (Nat.le_refl _))).mono ?_; rintro e w5 ⟨rfl, hb5⟩
  have k5 := k4'.trans (hb5.mono k4'.size)
  have t6 := ThirdsIn_any s (tm k)
  have t7 := NearestThirds_any s (tm k)
  have hb := tm_bd k hk.1 (by omega)
  have hbu := tm_bd (k + 1) (by omega) (by omega)
  have hlt := tm_lt k (k + 1) hk.1 (by omega) (by omega)
  have n1 := nearR_at (n := tm k) (by omega) (by omega)
  rw [(thinR_at hk.1 (by omega)).1, (thinR_at hk.1 (by omega)).2] at t6
  rw [n1.1, n1.2, near_tm k hk.1 (by omega)] at t7
  have T6 := Lib.hid t6; clear t6
  have T7 := Lib.hid t7; clear t7
  clear n1
  go_wp2_with fail
  refine (T6.out _ (HT.out.below k5 (Nat.le_refl _)) (HE.out.below k5 (Nat.le_refl _))).mono ?_; rintro e w6 ⟨rfl, hb6⟩
  have k6 := k5.trans (hb6.mono k5.size)
  go_wp2_with fail
  refine (T7.out _ (HT.out.below k6 (Nat.le_refl _)) (HE.out.below k6 (Nat.le_refl _))).mono ?_; rintro e w7 ⟨rfl, hb7⟩
  have k7 := k6.trans (hb7.mono k6.size)
  clear T1 T2 T3 T5 T6 T7 hb2 hb3 hb4 hb5 hb6 hb7 k1 k2 k3 k4 k4' HR k5 k6
  go_upto_if 137 with (fail)
  go_cut [] (fun wx => Below w.heap.size w wx)
  case first =>
    as_aux_lemma =>
      by_cases h33 : k + 3 ≤ 36
      · have hk5 := timeR_in (k := k + 3) (by omega) (by omega)
        have t8 := TimeOf_any s (k + 3)
        rw [hk5.1, hk5.2, tm_3 k hk.1 (by omega)] at t8
        have T8 := Lib.hid t8; clear t8 hk5
        go_wp2_with fail
        refine (T8.out _ (HT.out.below k7 (Nat.le_refl _)) (HE.out.below k7 (Nat.le_refl _))).mono ?_; rintro e w8 ⟨rfl, hb8⟩
        go_wp2_with fail
        go_meet
        exact k7.trans (hb8.mono k7.size)
      · go_wp2_with fail
        go_meet
        exact k7
  case rest =>
    as_aux_lemma =>
      have k8 := hcut
      clear hcut k7
      go_wp2_with fail
      refine (P6Pick_any A n cap bs 22 (by omega) (by omega) (by omega) Hbs.out _ (hr.below k8 (Nat.le_refl _))).mono ?_; rintro e w9 ⟨r, rfl, hr22, hb9⟩
      have k9 := k8.trans (hb9.mono k8.size)
      have hp := pow_pick hr22
      have hr22 := hr22.lt (by omega)
      clear k8 hb9
      go_wp2_with fail
      generalize wrap64 (2 ^ (1 + r).toNat) = m at hp ⊢
      refine (P6Pick_any A' n' cap' bs' m (by omega) (by omega) (by omega) Hbs'.out _ (hr'.below k9 (Nat.le_refl _))).mono ?_; rintro e w10 ⟨x, rfl, hx, hb10⟩
      have hx := hx.lt (by omega)
      have k10 := k9.trans (hb10.mono k9.size)
      clear k9 hb10 hr22
      have x1 : x < 4194304 := by omega
      have x0 := hx.1
      clear hx hp
      have n2 := nearR_at (n := x) (by omega) (by omega)
      have hM := near_bd x
      have hfar := near_far x
      have hthin := thin_le_near x
      have hthc := @thinR_none x
      have t9 := NearestThirds_any s x
      have t10 := specNearestThirds_any x
      rw [n2.1, n2.2] at t9 t10
      have tM := timeR_in hM.1 hM.2
      have t11 := TimeOf_any s (near x)
      rw [tM.1, tM.2] at t11
      have hbM := tm_bd (near x) hM.1 (by omega)
      unfold far at hfar
      generalize near x = M at hM hfar hthin t9 t10 t11 hbM
      generalize tm M = V at hfar t11 hbM
      have T9 := Lib.hid t9; clear t9
      have T10 := Lib.hid t10; clear t10
      have T11 := Lib.hid t11; clear t11
      have Hfar := Lib.hid hfar; clear hfar
      have Hthin := Lib.hid hthin; clear hthin
      have Hthc := Lib.hid hthc; clear hthc
      clear n2 tM
      go_wp2_with fail
      refine (T9.out _ (HT.out.below k10 (Nat.le_refl _)) (HE.out.below k10 (Nat.le_refl _))).mono ?_; rintro e w11 ⟨rfl, hb11⟩
      have k11 := k10.trans (hb11.mono k10.size)
      clear k10 hb11 T9
      go_wp2_with fail
      refine (T10.out _).mono ?_; rintro e w12 ⟨rfl, hb12⟩
      have k12 := k11.trans (hb12.mono k11.size)
      clear k11 hb12 T10
      go_wp2_with fail
      refine (T11.out _ (HT.out.below k12 (Nat.le_refl _)) (HE.out.below k12 (Nat.le_refl _))).mono ?_; rintro e w13 ⟨rfl, hb13⟩
      have k13 := k12.trans (hb13.mono k12.size)
      clear k12 hb13 T11
      go_wp2_with fail
      go_loopw [27] (fun i wr => ∃ j : Nat, j ≤ 37 ∧ i = .int .i64 j ∧ Below w.heap.size w wr) (fun i _ => 37 - (intOf i).toNat)
      case atStart => exact ⟨0, by omega, rfl, k13⟩
      case round =>
        obtain ⟨j, hj, rfl, hB⟩ := hrel
        by_cases hj37 : j < 37
        · have tj := specTimeOf_any j
          have hjt := timeR_in (k := (j : Int)) (by omega) (by omega)
          rw [hjt.1, hjt.2] at tj
          have hf := Hfar.out j (by omega) (by omega)
          have hbt := tm_bd (j : Int) (by omega) (by omega)
          clear hjt
          generalize tm (j : Int) = t at tj hf hbt
          obtain ⟨hf1, hf2⟩ := hf
          have Tj := Lib.hid tj; clear tj
          by_cases hjM : (j : Int) < M
          · as_aux_lemma =>
            have hf3 : (max (t - x) (x - t) == max (V - x) (x - V)) = false := by
              cases hb : (max (t - x) (x - t) == max (V - x) (x - V))
              · rfl
              · exact absurd (beq_iff_eq.1 hb) (by first | exact fun h => hf2 ⟨hjM, h⟩ | exact hf2 hjM | exact fun h => hf2 hjM h | omega)
            clear hf2
            go_wp2_with fail
            refine (Tj.out _).mono ?_; rintro e w14 ⟨rfl, hb14⟩
            go_wp2_with fail
            go_roundw
            case rel => exact ⟨j + 1, by omega, by go_num, hB.trans (hb14.mono hB.size)⟩
            case measure => simp [intOf]; omega
          · as_aux_lemma =>
              clear hf2
              go_wp2_with fail
              refine (Tj.out _).mono ?_; rintro e w14 ⟨rfl, hb14⟩
              go_wp2_with fail
              go_roundw
              case rel => exact ⟨j + 1, by omega, by go_num, hB.trans (hb14.mono hB.size)⟩
              case measure => simp [intOf]; omega
        · as_aux_lemma =>
            have e : j = 37 := by omega
            subst e
            clear k13 hj hj37
            have t12 := ThirdsIn_any s x
            have hX : (x < 1000 → thinC x = 6) ∧ (1000 ≤ x → thinC x = 0 ∧ 0 ≤ thinR x ∧ thinR x ≤ 36 ∧ tm (thinR x) ≤ x ∧ thinR x ≤ M) := by
              have hmil : milB x = true := inB_true.2 ⟨by omega, by omega⟩
              refine ⟨fun h => (Hthc.out hmil h).2, fun h => ?_⟩
              have hth := Hthin.out h
              have hin := thinR_in (n := x) hmil hth.1 rfl
              have hL := thin_bd x
              rw [hin.1, hin.2]
              exact ⟨rfl, hth.1, hL.2, hth.2.1, hth.2.2⟩
            generalize thinR x = R at t12 hX
            generalize thinC x = C at t12 hX
            have T12 := Lib.hid t12; clear t12
            have HX := Lib.hid hX; clear hX
            go_wp2_with fail
            refine (T12.out _ (HT.out.below hB (Nat.le_refl _)) (HE.out.below hB (Nat.le_refl _))).mono ?_; rintro e w15 ⟨rfl, hb15⟩
            have k15 := hB.trans (hb15.mono hB.size)
            clear T12 hB hb15
            go_upto_if 246 with (fail)
            go_cut [] (fun wx => Below w.heap.size w wx)
            case first =>
              as_aux_lemma =>
                by_cases hx3 : x < 1000
                · obtain rfl := HX.out.1 hx3
                  go_wp2_with fail
                  go_meet
                  exact k15
                · obtain ⟨rfl, r0, r1, r2, r3⟩ := HX.out.2 (by omega)
                  have t13 := specTimeOf_any R
                  have hLt := timeR_in r0 r1
                  rw [hLt.1, hLt.2] at t13
                  clear hLt
                  generalize tm R = U at r2 t13
                  have T13 := Lib.hid t13; clear t13
                  go_wp2_with fail
                  refine (T13.out _).mono ?_; rintro e w16 ⟨rfl, hb16⟩
                  go_wp2_with fail
                  go_meet
                  exact k15.trans (hb16.mono k15.size)
            case rest =>
              as_aux_lemma =>
                have k16 := hcut
                clear hcut k15 HX
                go_wp2_with fail
                refine (P6Pick_any A' n' cap' bs' 60 (by omega) (by omega) (by omega) Hbs'.out _ (hr'.below k16 (Nat.le_refl _))).mono ?_; rintro e w17 ⟨g, rfl, hg, hb17⟩
                have k17 := k16.trans (hb17.mono k16.size)
                have hg := hg.lt (by omega)
                clear k16 hb17
                have t14 := EnlargedBy_any s k (1 + g) (1 + g)
                have he1 := enl_at (k := k) (b := 1 + g) hk.1 (by omega) (by omega) (by omega)
                rw [he1.1, he1.2] at t14
                have he2 := enl_up (k := k) (b := 1 + g) hk.1 (by omega) (by omega) (by omega)
                have t15 := EnlargedBy_any s k (1 + g) (1 + g + 1)
                have t16 := specEnlargedBy_any k (1 + g) (1 + g + 1)
                generalize enlR k (1 + g) (1 + g + 1) = R2 at he2 t15 t16
                generalize enlC k (1 + g) (1 + g + 1) = C2 at he2 t15 t16
                clear he1
                have T14 := Lib.hid t14; clear t14
                have T15 := Lib.hid t15; clear t15
                have T16 := Lib.hid t16; clear t16
                have He2 := Lib.hid he2; clear he2
                go_wp2_with fail
                refine (T14.out _ (HT.out.below k17 (Nat.le_refl _)) (HE.out.below k17 (Nat.le_refl _))).mono ?_; rintro e w18 ⟨rfl, hb18⟩
                have k18 := k17.trans (hb18.mono k17.size)
                clear T14 k17 hb18
                go_wp2_with fail
                refine (T15.out _ (HT.out.below k18 (Nat.le_refl _)) (HE.out.below k18 (Nat.le_refl _))).mono ?_; rintro e w19 ⟨rfl, hb19⟩
                have k19 := k18.trans (hb19.mono k18.size)
                clear T15 k18 hb19
                go_wp2_with fail
                refine (T16.out _).mono ?_; rintro e w20 ⟨rfl, hb20⟩
                have k20 := k19.trans (hb20.mono k19.size)
                clear T16 k19 hb20
                rcases He2.out with ⟨rfl, hkR⟩ | rfl
                all_goals
                  go_wp2_with fail
                  go_ret
                  exact ⟨rfl, k20⟩
end Go.Proofs.YtakmekidnfeciaaDoor

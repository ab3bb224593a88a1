/-
  The fewest copies that are enough: what the reference returns. Condition: at most 1048576 copies of 16-bit numbers.
-/
import Derived.Test.YtmibinfaafhgdaaGreatDoorFewU
namespace Go.Proofs.YtmibinfaafhgdaaGreatDoor
open Go.RowKit

set_option maxRecDepth 100000 in
set_option maxHeartbeats 8000000 in
theorem specFewestCopies_any (A : Option Addr) (n cap : Nat) (g : Nat → Nat → Int) (x : Int) (hn : n ≤ 1048576) (hs : ∀ i, i < n → S16 (g i)) (w : World) (hr : PrsIn w A n g) :
    Calls Tryz.prog 14 #[.slice A n cap, .int .i64 x] w fun e w' => ∃ v, e = .returned (.tuple #[v, .int .i64 (copC n g x)]) ∧ OwnL w' w.heap.size w'.heap.size v (fewL n g x) ∧ Below w.heap.size w w' := by
  have hq := l07Copies_any A n cap g x hn hs _ hr
  have HR := Lib.hid hr; clear hr
  by_cases hc : copC n g x = 0
  rotate_left
  · rw [fewL_no hc]
    have Hq := Lib.hid hq; clear hq hs
    generalize copC n g x = C at *
    go_enter Tryz.func14, Tryz.ntmps14
    go_wp2_with fail
    refine Hq.out.mono ?_; rintro e w2 ⟨rfl, hb2⟩
    go_wp2_with fail
    go_ret2
    exact ⟨_, rfl, OwnL.nil _ _ _ _ _, hb2.alloc hb2.size _⟩
  rw [fewL_ok hc]
  rw [hc] at hq ⊢
  have h8 := copC_pos hc
  have hms := medF_s h8.1 hs
  have Hm := Lib.hid (fun W h => l07Median_any A n cap g h8.1 h8.2 hs W h)
  have Hd := Lib.hid (fun j (hj : j < n) b o q W h1 h2 => show Calls Tryz.prog 31 #[.pointer (some ⟨b, o, none⟩), .pointer (some ⟨q, 0, none⟩), .int .i64 x] W fun e w' => e = .returned (.int .u64 (bvI (dBs g n x j))) ∧ Below W.heap.size W w' from l07Dust_any b o q 0 (g j) (medF g n) x (hs j hj) hms W h1 h2)
  have Hq := Lib.hid hq; clear hq hs hc hms
  have HcB := Lib.hid (show ∀ j, ~~~dBs g n x j = cB g n x j from fun _ => rfl)
  obtain ⟨T, hT⟩ : ∃ T, 2 ^ n = T := ⟨_, rfl⟩
  have hT1 : 2 ≤ T ∧ T ≤ 256 := by
    have : n = 1 ∨ n = 2 ∨ n = 3 ∨ n = 4 ∨ n = 5 ∨ n = 6 ∨ n = 7 ∨ n = 8 := by omega
    rcases this with rfl | rfl | rfl | rfl | rfl | rfl | rfl | rfl <;> (subst hT; decide)
  rw [hT]
  generalize dBs g n x = D at *
  generalize cB g n x = c at *
  have HokB := Lib.hid (show ∀ t, okB c n t = decide (unS c t n = unA c n) from fun _ => rfl)
  generalize okB c n = ok at *
  generalize hMe : medF g n = M at *
  clear hMe
  go_enter Tryz.func14, Tryz.ntmps14
  go_wp2_with fail
  refine Hq.out.mono ?_; rintro e w2 ⟨rfl, hb2⟩
  have HR2 := Lib.hid (HR.out.below hb2 (Nat.le_refl _))
  clear Hq
  go_wp2_with fail
  refine (Hm.out _ HR2.out).mono ?_; rintro e w3 ⟨rfl, hb3⟩
  have k3 := hb2.trans (hb3.mono hb2.size)
  clear HR2 hb3 hb2 Hm
  have z0 := HasArr.zero w3 29 (b := w3.heap.size) rfl
  have z1 := z0.setRow .i16 M
  have k4 := below_setRow (k3.alloc k3.size (.cells #[.int .i16 0, .int .i16 0, .int .i16 0, .int .i16 0, .int .i16 0, .int .i16 0, .int .i16 0, .int .i16 0, .int .i16 0, .int .i16 0, .int .i16 0, .int .i16 0, .int .i16 0, .int .i16 0, .int .i16 0, .int .i16 0, .int .i16 0, .int .i16 0, .int .i16 0, .int .i16 0, .int .i16 0, .int .i16 0, .int .i16 0, .int .i16 0, .int .i16 0, .int .i16 0, .int .i16 0, .int .i16 0, .int .i16 0, .int .i16 0, .int .i16 0, .int .i16 0, .int .i16 0, .int .i16 0, .int .i16 0, .int .i16 0, .int .i16 0, .int .i16 0, .int .i16 0, .int .i16 0, .int .i16 0, .int .i16 0, .int .i16 0, .int .i16 0, .int .i16 0, .int .i16 0, .int .i16 0, .int .i16 0, .int .i16 0, .int .i16 0, .int .i16 0, .int .i16 0, .int .i16 0, .int .i16 0, .int .i16 0, .int .i16 0, .int .i16 0, .int .i16 0, .int .i16 0, .int .i16 0, .int .i16 0, .int .i16 0, .int .i16 0, .int .i16 0] 29)) (b := w3.heap.size) k3.size (arrV .i16 64 M)
  have s4 : ((w3.alloc (.cells #[.int .i16 0, .int .i16 0, .int .i16 0, .int .i16 0, .int .i16 0, .int .i16 0, .int .i16 0, .int .i16 0, .int .i16 0, .int .i16 0, .int .i16 0, .int .i16 0, .int .i16 0, .int .i16 0, .int .i16 0, .int .i16 0, .int .i16 0, .int .i16 0, .int .i16 0, .int .i16 0, .int .i16 0, .int .i16 0, .int .i16 0, .int .i16 0, .int .i16 0, .int .i16 0, .int .i16 0, .int .i16 0, .int .i16 0, .int .i16 0, .int .i16 0, .int .i16 0, .int .i16 0, .int .i16 0, .int .i16 0, .int .i16 0, .int .i16 0, .int .i16 0, .int .i16 0, .int .i16 0, .int .i16 0, .int .i16 0, .int .i16 0, .int .i16 0, .int .i16 0, .int .i16 0, .int .i16 0, .int .i16 0, .int .i16 0, .int .i16 0, .int .i16 0, .int .i16 0, .int .i16 0, .int .i16 0, .int .i16 0, .int .i16 0, .int .i16 0, .int .i16 0, .int .i16 0, .int .i16 0, .int .i16 0, .int .i16 0, .int .i16 0, .int .i16 0] 29)).setRow w3.heap.size (arrV .i16 64 M)).heap.size = w3.heap.size + 1 := by simp
  have hk3 := k3.size
  go_wp2_with (refine wpList_store_arr z0 29 (.tmp 7) (.tmp 26) rfl rfl rfl rfl sizePrint ?_)
  clear z0 k3
  generalize ((w3.alloc (.cells #[.int .i16 0, .int .i16 0, .int .i16 0, .int .i16 0, .int .i16 0, .int .i16 0, .int .i16 0, .int .i16 0, .int .i16 0, .int .i16 0, .int .i16 0, .int .i16 0, .int .i16 0, .int .i16 0, .int .i16 0, .int .i16 0, .int .i16 0, .int .i16 0, .int .i16 0, .int .i16 0, .int .i16 0, .int .i16 0, .int .i16 0, .int .i16 0, .int .i16 0, .int .i16 0, .int .i16 0, .int .i16 0, .int .i16 0, .int .i16 0, .int .i16 0, .int .i16 0, .int .i16 0, .int .i16 0, .int .i16 0, .int .i16 0, .int .i16 0, .int .i16 0, .int .i16 0, .int .i16 0, .int .i16 0, .int .i16 0, .int .i16 0, .int .i16 0, .int .i16 0, .int .i16 0, .int .i16 0, .int .i16 0, .int .i16 0, .int .i16 0, .int .i16 0, .int .i16 0, .int .i16 0, .int .i16 0, .int .i16 0, .int .i16 0, .int .i16 0, .int .i16 0, .int .i16 0, .int .i16 0, .int .i16 0, .int .i16 0, .int .i16 0, .int .i16 0] 29)).setRow w3.heap.size (arrV .i16 64 M)) = W4 at *
  obtain ⟨B, hB⟩ : ∃ B, B = w3.heap.size := ⟨_, rfl⟩
  rw [← hB] at z1 s4 hk3 ⊢
  clear hB
  have o1 := World.ownsRow_lit (base := B + 1) (e := 32) (size := 1) W4 #[] 0 (by omega) (Nat.zero_le _) rfl
  have kk := (Below.refl W4.heap.size W4).alloc (Nat.le_refl _) (.cells #[] 32)
  have z2 := z1.below kk (by omega)
  have k5 := k4.trans (kk.mono k4.size)
  clear kk z1 k4
  rw [s4] at o1
  generalize W4.alloc (.cells #[] 32) = W5 at *
  have h00 : bvI 0#64 = 0 := rfl
  go_loopw [8, 9, 10] (fun cv av iv wr => ∃ k : Nat, k ≤ n ∧ iv = .int .i64 (k : Int) ∧ av = .int .u64 (bvI (unA c k)) ∧ wr.ownsRow (B + 1) 32 1 cv k (u64L (clL c k)) ∧ HasArr wr B 29 .i16 64 M ∧ Below w.heap.size w wr) (fun _ _ iv _ => n - (intOf iv).toNat)
  case atStart => exact ⟨0, by omega, rfl, rfl, o1, z2, k5⟩
  case round =>
    clear o1 z2 k5
    obtain ⟨k, hk, rfl, rfl, ho, hz, hB⟩ := hrel
    obtain ⟨A2, cap2, rfl⟩ := own_isSliceS ho
    by_cases hlt : k < n
    · have hlt' : (k : Int) < n := by omega
      rcases HR.out.below hB (Nat.le_refl _) with h0 | ⟨b, o, rfl, hlb, hcc⟩
      · exfalso; omega
      have hd := Lib.hid (Hd.out k hlt b (o + k * 64) B wr (hcc k hlt) (PartA.of_arr hz))
      have HZ := Lib.hid hz; have HBB := Lib.hid hB; have HO := Lib.hid ho; clear hz hB hcc ho
      have hzl := HZ.out.lt
      have hun : Hid (unA c k ||| c k = unA c (k + 1)) := Lib.hid rfl
      have hcl : Hid (clL c k ++ [c k] = clL c (k + 1)) := Lib.hid rfl
      have HCK := Lib.hid (show bits .xor .u64 (if IntKind.u64.signed = true then -1 else IntKind.u64.max) (bvI (D k)) = bvI (c k) from (notU_bvF (D k)).trans (by rw [HcB.out k]))
      generalize unA c k = U at *
      generalize clL c k = CL at *
      go_wp2_with fail
      refine hd.out.mono ?_; rintro e w6 ⟨rfl, hb6⟩
      have z6 := Lib.hid (HZ.out.below hb6 HZ.out.lt)
      have k6 := Lib.hid (HBB.out.trans (hb6.mono HBB.out.size))
      have o6 := Lib.hid (own_belowS HO.out hb6)
      have hs6 := hb6.size
      have hk6 : k ≤ 1000000 := by omega
      have hl6 : B + 1 ≤ w6.heap.size := by omega
      clear hb6 hd HZ HBB HO
      go_wp2_with (at_builtin; rw [HCK.out]; refine wpList_append_u64 (b := c k) rfl _ _ rfl rfl o6.out rfl hk6 hl6 ?_)
      intro v2 w7 o7 hb7
      have z7 := Lib.hid (z6.out.below hb7 (by omega))
      have k7 := Lib.hid (k6.out.trans (hb7.mono (by omega)))
      have O7 := Lib.hid o7
      clear hb7 o7 z6 k6 o6
      go_wp2_with (refine wpList_yield rfl (run_or_bv (a := U) (b := c k) rfl rfl rfl) ?_)
      go_roundw
      case rel => exact ⟨k + 1, by omega, by go_num, by rw [hun.out], by rw [← hcl.out]; exact O7.out, z7.out, k7.out⟩
      case measure => simp [intOf]; omega
    · obtain rfl : n = k := by omega
      obtain ⟨Ac, cc, e2, hcs⟩ := mask_cells ho (clL_len c n)
      injection e2 with e3 e4 e5
      subst e3
      rcases hcs with h0 | ⟨gc, rfl, hgc, hcell⟩
      · exfalso; omega
      have Hcell := Lib.hid (fun W j (hb : Below wr.heap.size wr W) (hj : j < n) => by
        have h := below_cellOf hb (hcell j hj) (Nat.le_refl _)
        rw [clL_get c n j hj] at h
        exact h)
      have HBw := Lib.hid hB
      obtain ⟨w5, hw5⟩ : ∃ X : World, X = wr := ⟨_, rfl⟩
      rw [← hw5] at Hcell HBw ⊢
      clear hw5 ho hz hB hcell hk hgc Hd HcB HR hlt e4 e5
      generalize unA c n = UA at *
      have hkw := HBw.out.size
      have kk := (Below.refl w5.heap.size w5).alloc (Nat.le_refl _) (.cells #[] 2)
      go_wp2_with fail
      generalize w5.alloc (.cells #[] 2) = W6 at *
      go_loopw [12, 13, 14] (fun bv fv tv wr => ∃ k : Nat, k + 1 ≤ T ∧ tv = .int .i64 ((k : Int) + 1) ∧ fv = .bool (fewB n ok k).isSome ∧ OwnL wr w.heap.size wr.heap.size bv ((fewB n ok k).getD []) ∧ Below w5.heap.size w5 wr) (fun _ _ tv _ => T - (intOf tv).toNat)
      case atStart => exact ⟨0, by omega, rfl, rfl, OwnL.nil _ _ _ _ _, kk⟩
      case round =>
        clear kk
        obtain ⟨k, hkT, rfl, rfl, hb, hB⟩ := hrel
        by_cases hlt : k + 1 < T
        rotate_left
        · have hlt' : ¬ (k : Int) + 1 < T := by omega
          have e1 : T - 1 = k := by omega
          have HB := Lib.hid hb; clear hb
          go_wp2_with (refine wpList_yield rfl (run_shlI (t := T) rfl rfl rfl h8.2 hT) ?_)
          go_ret2
          exact ⟨_, rfl, HB.out, HBw.out.trans (hB.mono hkw)⟩
        have hlt' : (k : Int) + 1 < T := by omega
        obtain ⟨Ab, cb, rfl, hbi⟩ := hb.ints
        have HF : Hid (((fewB n ok k).isSome = false → fewB n ok k = none) ∧ ((fewB n ok k).isSome = true → fewB n ok k = some ((fewB n ok k).getD []))) := Lib.hid (by cases fewB n ok k <;> simp)
        have hln : ((fewB n ok k).getD []).length ≤ n := by
          cases h : fewB n ok k with
          | none => exact Nat.zero_le _
          | some b => exact fewB_len h
        generalize hfb : (fewB n ok k).isSome = fb at *
        generalize hbl : (fewB n ok k).getD [] = bl at *
        have HFB := Lib.hid hfb; have HBL := Lib.hid hbl
        clear hfb hbl
        obtain ⟨wo, hwo⟩ : ∃ wo : World, wo = wr := ⟨_, rfl⟩
        rw [← hwo] at hb hB hbi ⊢
        clear hwo
        have HBo := Lib.hid hB; have Hb := Lib.hid hb; have Hbi := Lib.hid hbi
        clear hB hb hbi
        have o1 := World.ownsRow_lit (base := wo.heap.size) (e := 2) (size := 1) wo #[] 0 (Nat.le_refl _) (Nat.zero_le _) rfl
        have kk := (Below.refl wo.heap.size wo).alloc (Nat.le_refl _) (.cells #[] 2)
        go_wp2_with (refine wpList_yield rfl (run_shlI (t := T) rfl rfl rfl h8.2 hT) ?_)
        generalize wo.alloc (.cells #[] 2) = W7 at *
        go_loopw [15, 16, 17] (fun lv sv iv wr => ∃ i : Nat, i ≤ n ∧ iv = .int .i64 (i : Int) ∧ sv = .int .u64 (bvI (unS c (k + 1) i)) ∧ wr.ownsRow wo.heap.size 2 1 lv (subI (k + 1) i).length ((subI (k + 1) i).map (Value.int .i64)) ∧ Below wo.heap.size wo wr) (fun _ _ iv _ => n - (intOf iv).toNat)
        case atStart => exact ⟨0, Nat.zero_le _, rfl, rfl, o1, kk⟩
        case round =>
          clear o1 kk
          obtain ⟨i, hi, rfl, rfl, ho, hB2⟩ := hrel
          obtain ⟨A3, cap3, rfl⟩ := own_isSliceS ho
          have hsl := subI_len (k + 1) i
          by_cases hin : i < n
          · have hin' : (i : Int) < n := by omega
            have hi64 : i < 64 := by omega
            obtain ⟨q, hq⟩ : ∃ q, (k + 1) / 2 ^ i = q := ⟨_, rfl⟩
            have hq256 : q < 256 := by
              have := Nat.div_le_self (k + 1) (2 ^ i)
              omega
            have hbd := bit_div (k + 1) i
            rw [hq] at hbd
            have HO := Lib.hid ho; have HB2 := Lib.hid hB2; clear ho hB2
            rcases hbit : (k + 1).testBit i with _ | _
            · have ha : bits .and .i64 (q : Int) 1 = 0 := by
                rw [hbit] at hbd
                have : ¬ q % 2 = 1 := by simpa using hbd.symm
                rw [and1 hq256, show q % 2 = 0 by omega]; rfl
              have HN := Lib.hid (And.intro (unS_no (c := c) hbit) (subI_no hbit))
              clear hbd hbit
              generalize unS c (k + 1) i = US at *
              generalize subI (k + 1) i = l at *
              go_wp2_with (refine wpList_yield rfl (run_shrI (m := k + 1) (k := i) (t := q) rfl rfl rfl hi64 hq) ?_)
              go_roundw
              case rel => exact ⟨i + 1, by omega, by go_num, by rw [HN.out.1], by rw [HN.out.2]; exact HO.out, HB2.out⟩
              case measure => simp [intOf]; omega
            · have ha : bits .and .i64 (q : Int) 1 = 1 := by
                rw [hbit] at hbd
                have : q % 2 = 1 := by simpa using hbd.symm
                rw [and1 hq256, this]; rfl
              have HN := Lib.hid (And.intro (unS_yes (c := c) hbit) (subI_yes hbit))
              have hsz := HB2.out.size
              clear hbd hbit
              generalize unS c (k + 1) i = US at *
              generalize subI (k + 1) i = l at *
              go_wp2_with (first
                | (refine wpList_yield rfl (run_shrI (m := k + 1) (k := i) (t := q) rfl rfl rfl hi64 hq) ?_)
                | (at_builtin; refine wpList_append_i64L (y := (i : Int)) rfl _ _ rfl rfl HO.out rfl (by omega) hsz ?_))
              intro v8 w8 o8 hb8
              have hcc := Hcell.out w8 i (HBo.out.trans ((HB2.out.trans hb8).mono HBo.out.size)) hin
              have HB8 := Lib.hid (HB2.out.trans hb8)
              have HO8 := Lib.hid o8
              clear o8 hb8 HO HB2
              go_wp2_with (refine wpList_yield rfl (run_or_bv (a := US) (b := c i) rfl rfl rfl) ?_)
              go_roundw
              case rel => exact ⟨i + 1, by omega, by go_num, by rw [HN.out.1], by rw [HN.out.2, List.length_append, List.map_append]; exact HO8.out, HB8.out⟩
              case measure => simp [intOf]; omega
          · obtain rfl : n = i := by omega
            have hl := OwnL.of ho
            have HL := Lib.hid (hl.mono (HBw.out.trans (HBo.out.mono hkw)).size (Nat.le_refl _))
            have HBst := Lib.hid ((Hb.out.below hB2 (Nat.le_refl _)).mono (Nat.le_refl _) hB2.size)
            have HB2 := Lib.hid (HBo.out.trans (hB2.mono HBo.out.size))
            have hli := hl.ints
            have hok := HokB.out (k + 1)
            have hbi2 := Hbi.out.below hB2 (Nat.le_refl _)
            clear ho hl hB2 hi hin HBo Hb Hbi HokB Hcell
            obtain ⟨A4, c4, e6, hli⟩ := hli
            injection e6 with e7 e8 e9
            subst e7 e9
            by_cases hus : unS c (k + 1) n = UA
            rotate_left
            · rw [decide_eq_false hus] at hok
              have HN := Lib.hid (fewB_no (n := n) hok)
              have hne : (bvI (unS c (k + 1) n) == bvI UA) = false := beq_eq_false_iff_ne.2 (fun e => hus (bvI_inj.1 e))
              have hne2 : ¬ bvI (unS c (k + 1) n) = bvI UA := fun e => hus (bvI_inj.1 e)
              clear hok hus hli hbi2 HL
              generalize unS c (k + 1) n = US at *
              generalize subI (k + 1) n = l at *
              go_wp2_with fail
              go_roundw
              case rel => exact ⟨k + 1, by omega, by go_num, by rw [HN.out, HFB.out], by rw [HN.out, HBL.out]; exact HBst.out, HB2.out⟩
              case measure => simp [intOf]; omega
            rw [decide_eq_true hus] at hok
            rw [hus]
            rcases fb with _ | _
            · have HN := Lib.hid (fewB_first (n := n) hok (HF.out.1 rfl))
              clear hok hus hli hbi2 HF HBst
              generalize subI (k + 1) n = l at *
              go_wp2_with fail
              go_roundw
              case rel => exact ⟨k + 1, by omega, by go_num, by rw [HN.out]; rfl, by rw [HN.out]; exact HL.out, HB2.out⟩
              case measure => simp [intOf]; omega
            have h0 := HF.out.2 rfl
            rcases Nat.lt_trichotomy (subI (k + 1) n).length bl.length with hlb | hlb | hlb
            · have HN := Lib.hid (fewB_beat (n := n) hok h0 (beatL_lt hlb))
              have hlb' : ((subI (k + 1) n).length : Int) < bl.length := by omega
              clear hok hus hli hbi2 HF HBst h0
              generalize subI (k + 1) n = l at *
              go_wp2_with fail
              go_roundw
              case rel => exact ⟨k + 1, by omega, by go_num, by rw [HN.out]; rfl, by rw [HN.out]; exact HL.out, HB2.out⟩
              case measure => simp [intOf]; omega
            · have HNk := Lib.hid (fun (h : beatL (subI (k + 1) n) bl = false) => fewB_keep (n := n) hok h0 h)
              have HNb := Lib.hid (fun (h : beatL (subI (k + 1) n) bl = true) => fewB_beat (n := n) hok h0 h)
              have hmx : (subI (k + 1) n).length ≤ 1048576 := by omega
              clear hok hus HF h0 hln hsl
              generalize subI (k + 1) n = l at *
              rw [beatL_eq hlb] at HNk HNb
              have Hlb := Lib.hid hlb
              rw [← hlb] at hbi2
              rw [← hlb]
              have hbf := l07Before_any A3 Ab l.length cap3 cb (fun j => l.getD j 0) (fun j => bl.getD j 0) wr hli hbi2 hmx
              have e0 : lexF (fun j => l.getD j 0) (fun j => bl.getD j 0) l.length 0 = lexL l bl := lexL_F l bl hlb _ _ 0 (fun j _ => by show l.getD (0 + j) 0 = _; rw [Nat.zero_add]) (fun j _ => by show bl.getD (0 + j) 0 = _; rw [Nat.zero_add])
              rw [e0] at hbf
              have Hbf := Lib.hid hbf
              clear hbf e0 hlb hli hbi2 hmx
              rcases hlx : lexL l bl with _ | _
              · have HN := Lib.hid (HNk.out hlx)
                rw [hlx] at Hbf
                clear HL HNk HNb hlx
                go_wp2_with fail
                refine Hbf.out.mono ?_; rintro e w40 ⟨rfl, hb40⟩
                go_wp2_with fail
                go_roundw
                case rel => exact ⟨k + 1, by omega, by go_num, by rw [HN.out]; rfl, by rw [HN.out]; refine (?_ : OwnL w40 w.heap.size w40.heap.size (.slice Ab l.length cb) bl); rw [Hlb.out]; exact ((HBst.out.below hb40 (Nat.le_refl _)).mono (Nat.le_refl _) hb40.size), HB2.out.trans (hb40.mono HB2.out.size)⟩
                case measure => simp [intOf]; omega
              · have HN := Lib.hid (HNb.out hlx)
                rw [hlx] at Hbf
                clear HBst HNk HNb hlx
                go_wp2_with fail
                refine Hbf.out.mono ?_; rintro e w40 ⟨rfl, hb40⟩
                go_wp2_with fail
                go_roundw
                case rel => exact ⟨k + 1, by omega, by go_num, by rw [HN.out]; rfl, by rw [HN.out]; exact ((HL.out.below hb40 (Nat.le_refl _)).mono (Nat.le_refl _) hb40.size), HB2.out.trans (hb40.mono HB2.out.size)⟩
                case measure => simp [intOf]; omega
            · have HN := Lib.hid (fewB_keep (n := n) hok h0 (beatL_gt hlb))
              have hl1 : ¬ ((subI (k + 1) n).length : Int) < bl.length := by omega
              have hl2 : (((subI (k + 1) n).length : Int) == bl.length) = false := beq_eq_false_iff_ne.2 (by omega)
              have hl3 : ¬ ((subI (k + 1) n).length : Int) = bl.length := by omega
              have hl4 : ¬ (subI (k + 1) n).length = bl.length := by omega
              clear hok hus hli hbi2 HF HL h0
              generalize subI (k + 1) n = l at *
              go_wp2_with fail
              go_roundw
              case rel => exact ⟨k + 1, by omega, by go_num, by rw [HN.out]; rfl, by rw [HN.out]; exact HBst.out, HB2.out⟩
              case measure => simp [intOf]; omega
end Go.Proofs.YtmibinfaafhgdaaGreatDoor

/-
  Sheets without replenishing: what the reference and the program return. Condition of the program's: its errors, and its table of times.
-/
import Derived.Test.YtkgjkjecfpmlnaaDoorFixR
import Derived.Test.YtkgjkjecfpmlnaaDoorPhaseB
import Derived.Test.YtkgjkjecfpmlnaaDoorInts
namespace Go.Proofs.YtkgjkjecfpmlnaaDoor
open Go.RowKit

/-! ### PLAIN -/
/-- The areas of the first sheets. -/
def preA (xs : Nat → Int) : Nat → Int
  | 0 => 0
  | n + 1 => preA xs n + xs n
/-- Is the sheet j not to be developed? -/
def sfQ (p k b t v u a sl : Int) (xs : Nat → Int) (j : Nat) : Bool := !readyB p k b t v (u + preA xs j) a (xs j) sl
def sfN (p k b t v u a sl : Int) (n : Nat) (xs : Nat → Int) : Nat := least (sfQ p k b t v u a sl xs) n
def sfR (p k b t v u a sl : Int) (n : Nat) (xs : Nat → Int) : Int := ifC (arC (bathOk p k b t v u a) n xs sl) (sfN p k b t v u a sl n xs)
theorem arC_zero {ok : Bool} {n : Nat} {xs : Nat → Int} {sl : Int} (h : arC ok n xs sl = 0) : ok = true ∧ n ≤ 60 ∧ allA xs n = true ∧ 0 ≤ sl ∧ sl ≤ 36 := by
  unfold arC at h
  cases ok with
  | false => simp at h
  | true =>
    by_cases h60 : n ≤ 60
    · rcases h1 : allA xs n with _ | _
      · rw [h1] at h; simp [h60] at h
      · rcases h2 : inB sl 0 36 with _ | _
        · rw [h1, h2] at h; simp [h60] at h
        · have := inB_true.1 h2
          exact ⟨rfl, h60, rfl, this.1, this.2⟩
    · simp [h60] at h

section
variable {p k b t v u a : Int}
theorem ready_ok {s sl : Int} (h : BOk p k b t v u a) (hr : readyB p k b t v u a s sl = true) : BOk p k b t v (u + s) a ∧ slw (strn p k v u a) ≤ sl ∧ slw (strn p k v u a) ≠ 37 := by
  unfold readyB sheetB at hr
  simp only [Bool.and_eq_true, decide_eq_true_eq] at hr
  exact ⟨bathOk_true.1 hr.2.2, hr.1, hr.2.1⟩

set_option maxRecDepth 100000 in
set_option maxHeartbeats 2000000 in
theorem l04Areas_any (g n cap : Nat) (xs : Nat → Int) (sl : Int) (hn : n ≤ 1048576) (hb : -128 ≤ b) (hb' : b ≤ 127) (ht : -128 ≤ t) (ht' : t ≤ 127) (w : World) (hr : RowN w g n xs) :
    Calls Tryd.prog 39 #[devV p k b t, batV v u a, .slice (some ⟨g, 0, none⟩) n cap, .int .i64 sl] w fun e w' => e = .returned (.int .i64 (arC (bathOk p k b t v u a) n xs sl)) ∧ Below w.heap.size w w' := by
  have hok := fun W => l04Ok_any (p := p) (k := k) (b := b) (t := t) (v := v) (u := u) (a := a) hb hb' ht ht' W
  have kk := below_2 w (.cells #[.int .i64 p, .int .i64 k, .int .i8 b, .int .i8 t] 26) (.cells #[.int .i64 v, .int .i64 u, .int .i64 a] 28)
  unfold arC
  rcases h1 : bathOk p k b t v u a with _ | _
  · rw [h1] at hok
    simp only [Bool.false_eq_true, if_false]
    have Hok := Lib.hid hok; clear hok h1
    go_enter Tryd.func39, Tryd.ntmps39
    go_wp2_with fail
    refine (Hok.out _).mono ?_; rintro e w1 ⟨rfl, hb1⟩
    go_wp2_with fail
    go_ret
    exact ⟨rfl, kk.trans (hb1.mono kk.size)⟩
  rw [h1] at hok
  have Hok := Lib.hid hok; clear hok h1
  simp only [if_true]
  by_cases h60 : n ≤ 60
  rotate_left
  · rw [if_neg h60]
    have h61 : ¬ (n : Int) ≤ 60 := by omega
    go_enter Tryd.func39, Tryd.ntmps39
    go_wp2_with fail
    refine (Hok.out _).mono ?_; rintro e w1 ⟨rfl, hb1⟩
    go_wp2_with fail
    go_ret
    exact ⟨rfl, kk.trans (hb1.mono kk.size)⟩
  rw [if_pos h60]
  have h61 : (n : Int) ≤ 60 := by omega
  generalize hCd : (if (allA xs n && inB sl 0 36) = true then (0 : Int) else 2) = C
  have HC := Lib.hid hCd; clear hCd
  have hlt := hr.lt
  go_enter Tryd.func39, Tryd.ntmps39
  go_wp2_with fail
  refine (Hok.out _).mono ?_; rintro e w1 ⟨rfl, hb1⟩
  have k1 := kk.trans (hb1.mono kk.size)
  clear hb1 kk
  go_wp2_with fail
  refine (l00In_any _ _ _ _).mono ?_; rintro e w2 ⟨rfl, rfl⟩
  go_wp2_with fail
  go_loopw [9, 10] (fun okv iv wr => ∃ j : Nat, iv = .int .i64 j ∧ j ≤ n ∧ okv = .bool (inB sl 0 36 && allA xs j) ∧ Below w.heap.size w wr) (fun _ iv _ => n - (intOf iv).toNat)
  case atStart => exact ⟨0, rfl, Nat.zero_le _, by simp [allA], k1⟩
  case round =>
    obtain ⟨j, rfl, hj, rfl, hB⟩ := hrel
    rcases hokj : (inB sl 0 36 && allA xs j) with _ | _
    · have e2 : C = 2 := by
        rw [← HC.out]
        rcases h3 : inB sl 0 36 with _ | _
        · rw [Bool.and_false]; rfl
        · rw [h3, Bool.true_and] at hokj
          have : allA xs n = false := by
            rcases h4 : allA xs n with _ | _
            · rfl
            · have := allA_iff.2 (fun i hi => allA_iff.1 h4 i (Nat.lt_of_lt_of_le hi hj))
              rw [hokj] at this; cases this
          rw [this]; rfl
      have He := Lib.hid e2; clear e2
      by_cases hjn : j < n
      all_goals
        go_wp2_with fail
        go_ret
        exact ⟨ret_int He.out.symm, hB⟩
    · have hsl : inB sl 0 36 = true ∧ allA xs j = true := by simpa using hokj
      by_cases hjn : j < n
      · have x1 : wr.cell? ⟨g, j, none⟩ = some (.int .i64 (xs j)) := by rw [hB.cell (p := ⟨g, j, none⟩) hlt]; exact hr.cell hjn
        have hstep : inB (xs j) 1 5000 = (inB sl 0 36 && allA xs (j + 1)) := by simp [allA, hsl.1, hsl.2]
        have Hst := Lib.hid hstep; clear hstep hsl
        go_wp2_with fail
        refine (l00In_any _ _ _ _).mono ?_; rintro e w4 ⟨rfl, rfl⟩
        go_wp2_with fail
        go_roundw
        case rel => exact ⟨j + 1, by go_num, by omega, by rw [Hst.out], hB⟩
        case measure => simp [intOf]; omega
      · have e : j = n := by omega
        subst e
        have e2 : C = 0 := by rw [← HC.out, hsl.1, hsl.2]; rfl
        have He := Lib.hid e2; clear e2 hsl
        go_wp2_with fail
        go_ret
        exact ⟨ret_int He.out.symm, hB⟩

set_option maxRecDepth 100000 in
set_option maxHeartbeats 2000000 in
theorem specSheetsFrom_any (g n cap : Nat) (xs : Nat → Int) (sl : Int) (hn : n ≤ 1048576) (hb : -128 ≤ b) (hb' : b ≤ 127) (ht : -128 ≤ t) (ht' : t ≤ 127) (w : World) (hr : RowN w g n xs) :
    Calls Tryd.prog 17 #[devV p k b t, batV v u a, .slice (some ⟨g, 0, none⟩) n cap, .int .i64 sl] w fun e w' => e = .returned (.tuple #[.int .i64 (sfR p k b t v u a sl n xs), .int .i64 (arC (bathOk p k b t v u a) n xs sl)]) ∧ Below w.heap.size w w' := by
  have kk := below_2 w (.cells #[.int .i64 p, .int .i64 k, .int .i8 b, .int .i8 t] 26) (.cells #[.int .i64 v, .int .i64 u, .int .i64 a] 28)
  have har := fun W hr => l04Areas_any (p := p) (k := k) (b := b) (t := t) (v := v) (u := u) (a := a) g n cap xs sl hn hb hb' ht ht' W hr
  have hlt := hr.lt
  unfold sfR
  by_cases hC0 : arC (bathOk p k b t v u a) n xs sl = 0
  rotate_left
  · have hz : ifC (arC (bathOk p k b t v u a) n xs sl) (sfN p k b t v u a sl n xs) = 0 := by unfold ifC; rw [if_neg hC0]
    rw [hz]
    generalize arC (bathOk p k b t v u a) n xs sl = C at *
    have Har := Lib.hid har; clear har
    go_enter Tryd.func17, Tryd.ntmps17
    go_wp2_with fail
    refine (Har.out _ (hr.below kk hlt)).mono ?_; rintro e w1 ⟨rfl, hb1⟩
    go_wp2_with fail
    go_ret2
    exact ⟨rfl, kk.trans (hb1.mono kk.size)⟩
  obtain ⟨hok, h60, hall, sl0, sl1⟩ := arC_zero hC0
  have h := bathOk_true.1 hok
  rw [hC0] at har ⊢
  simp only [ifC_0]
  have hls := least_spec (n := n) (q := sfQ p k b t v u a sl xs)
  have hN : sfN p k b t v u a sl n xs = least (sfQ p k b t v u a sl xs) n := rfl
  rw [← hN] at hls
  generalize hM : sfN p k b t v u a sl n xs = M at *
  have HLS := Lib.hid hls; clear hls hN hM hC0 hok
  have Har := Lib.hid har; clear har
  have Hall := Lib.hid hall; clear hall
  have h61 : (n : Int) ≤ 60 := by omega
  go_enter Tryd.func17, Tryd.ntmps17
  go_wp2_with fail
  refine (Har.out _ (hr.below kk hlt)).mono ?_; rintro e w1 ⟨rfl, hb1⟩
  have k1 := kk.trans (hb1.mono kk.size)
  have D1 : DvAt w1 w.heap.size p k b t := DvAt.below ((DvAt.newAt _ w.heap.size rfl _ _ _ _ _).alloc _) hb1 (Nat.le_refl _)
  have B1 : BtAt w1 (w.heap.size + 1) v u a := BtAt.below (BtAt.newAt _ (w.heap.size + 1) (by simp) _ _ _ _) hb1 (Nat.le_refl _)
  clear hb1 kk
  have HB0 := Lib.hid h; clear h
  go_wp2_with fail
  go_loopw [11] (fun i wr => ∃ j : Nat, i = .int .i64 j ∧ j ≤ M ∧ j ≤ n ∧ Hid (BOk p k b t v (u + preA xs j) a) ∧ DvAt wr w.heap.size p k b t ∧ BtAt wr (w.heap.size + 1) v (u + preA xs j) a ∧ Below w.heap.size w wr) (fun i _ => n - (intOf i).toNat)
  case atStart => exact ⟨0, rfl, Nat.zero_le _, Nat.zero_le _, Lib.hid (by simpa [preA] using HB0.out), D1, by simpa [preA] using B1, k1⟩
  case round =>
    obtain ⟨j, rfl, hjM, hj, HB, D2, B2, k2⟩ := hrel
    by_cases hjn : j < n
    · have hs := inB_true.1 (allA_iff.1 Hall.out j hjn)
      have x1 : wr.cell? ⟨g, j, none⟩ = some (.int .i64 (xs j)) := by rw [k2.cell (p := ⟨g, j, none⟩) hlt]; exact hr.cell hjn
      have hrd := fun W => l04Ready_fix (xs j) sl (by omega) (by omega) sl0 sl1 HB.out W
      have hqj : sfQ p k b t v u a sl xs j = !readyB p k b t v (u + preA xs j) a (xs j) sl := rfl
      have D9 := D2
      have B9 := B2
      obtain ⟨d0, d1, d2, d3⟩ := D9
      obtain ⟨b0, b1, b2, y0, y1, y2⟩ := B9
      have hblt := B2.lt
      rcases hR : readyB p k b t v (u + preA xs j) a (xs j) sl with _ | _
      · have e : j = M := by
          rw [hR] at hqj
          rcases Nat.lt_or_ge j M with h2 | h2
          · have := HLS.out.2.1 j h2
            rw [hqj] at this; cases this
          · omega
        have He := Lib.hid e; clear e hqj
        rw [hR] at hrd
        clear hR hs
        generalize ifR (slw (strn p k v (u + preA xs j) a)) sl v = V0 at *
        generalize ifR (slw (strn p k v (u + preA xs j) a)) sl (u + preA xs j + xs j) = V1 at *
        generalize ifR (slw (strn p k v (u + preA xs j) a)) sl a = V2 at *
        have Hrd := Lib.hid hrd; clear hrd
        go_wp2_with fail
        refine wp_region_phases 11 (clB wr V0 V1 V2) .p0 (by kernel_rfl) (by kernel_rfl) ⟨⟨_, below_drew1 _⟩, rfl⟩ ?_
        apply Exists.intro
        refine ⟨fun ph => ?_, ?_⟩
        · simp only [List.take_succ_cons, List.take_zero]
          have n0 := phB_nonempty wr V0 V1 V2 ph
          have f0 := fun (x : WIn (phB wr V0 V1 V2 ph)) => inCellP d0 x
          have f1 := fun (x : WIn (phB wr V0 V1 V2 ph)) => inCellP d1 x
          have f2 := fun (x : WIn (phB wr V0 V1 V2 ph)) => inCellP d2 x
          have f3 := fun (x : WIn (phB wr V0 V1 V2 ph)) => inCellP d3 x
          have f4 := fun (x : WIn (phB wr V0 V1 V2 ph)) => inCellP b0 x
          have f5 := fun (x : WIn (phB wr V0 V1 V2 ph)) => inCellP b1 x
          have f6 := fun (x : WIn (phB wr V0 V1 V2 ph)) => inCellP b2 x
          have f7 := fun (x : WIn (phB wr V0 V1 V2 ph)) => inCellP x1 x
          repeat (go_big_quiet_step (first | (go_at_call 35; exact inCallP _ (Hrd.out _))))
          exact wpQuiet_nil rfl
        · simp only [List.drop_succ_cons, List.drop_zero]
          refine tail_bath (T := 28) (u := .bool false) rfl (fun w' => ?rA) (fun q => rfl) (fun q w' hw' => ?rS) (fun q => rfl) (fun q w' => ?rZ) (fun j => ?_)
          case rA => first | rfl | kernel_rfl | (go_simp; done) | simp [go_sem]
          case rS =>
            obtain ⟨g0, g1, g2, h0, h1, h2⟩ := hw'
            first | (go_simp; done) | (simp [go_sem, g0, g1, g2, h0, h1, h2]; done)
          case rZ => first | rfl | (go_simp; done) | simp [go_sem]
          rintro _ ⟨y, rfl⟩
          have Y := y.ok
          generalize y.w = w3 at *
          obtain ⟨ky, X3⟩ := Y
          simp [Act.put]
          go_wp2_with fail
          go_ret2
          exact ⟨by rw [← He.out]; rfl, k2.trans (ky.mono k2.size)⟩
      · have hro := ready_ok HB.out hR
        have hjM2 : j + 1 ≤ M := by
          rw [hR] at hqj
          rcases Nat.lt_or_ge j M with h2 | h2
          · omega
          · have e : j = M := by omega
            have := HLS.out.2.2 (by omega)
            rw [← e, hqj] at this; cases this
        rw [hR] at hrd
        have hv : ∀ x, ifR (slw (strn p k v (u + preA xs j) a)) sl x = x := fun x => if_neg (by omega)
        simp only [hv] at hrd
        have HO := Lib.hid hro.1
        clear hqj hR hs hv hro
        have Hrd := Lib.hid hrd; clear hrd
        have hpre : u + preA xs (j + 1) = u + preA xs j + xs j := by simp only [preA]; omega
        have Hpre := Lib.hid hpre; clear hpre
        generalize hU : u + preA xs j + xs j = U at *
        have HU := Lib.hid hU; clear hU
        go_wp2_with fail
        refine wp_region_phases 11 (clB wr v U a) .p0 (by kernel_rfl) (by kernel_rfl) ⟨⟨_, below_drew1 _⟩, rfl⟩ ?_
        apply Exists.intro
        refine ⟨fun ph => ?_, ?_⟩
        · simp only [List.take_succ_cons, List.take_zero]
          have n0 := phB_nonempty wr v U a ph
          have f0 := fun (x : WIn (phB wr v U a ph)) => inCellP d0 x
          have f1 := fun (x : WIn (phB wr v U a ph)) => inCellP d1 x
          have f2 := fun (x : WIn (phB wr v U a ph)) => inCellP d2 x
          have f3 := fun (x : WIn (phB wr v U a ph)) => inCellP d3 x
          have f4 := fun (x : WIn (phB wr v U a ph)) => inCellP b0 x
          have f5 := fun (x : WIn (phB wr v U a ph)) => inCellP b1 x
          have f6 := fun (x : WIn (phB wr v U a ph)) => inCellP b2 x
          have f7 := fun (x : WIn (phB wr v U a ph)) => inCellP x1 x
          repeat (go_big_quiet_step (first | (go_at_call 35; exact inCallP _ (Hrd.out _))))
          exact wpQuiet_nil rfl
        · simp only [List.drop_succ_cons, List.drop_zero]
          refine tail_bath (T := 28) (u := .bool true) rfl (fun w' => ?rA) (fun q => rfl) (fun q w' hw' => ?rS) (fun q => rfl) (fun q w' => ?rZ) (fun jj => ?_)
          case rA => first | rfl | kernel_rfl | (go_simp; done) | simp [go_sem]
          case rS =>
            obtain ⟨g0, g1, g2, h0, h1, h2⟩ := hw'
            first | (go_simp; done) | (simp [go_sem, g0, g1, g2, h0, h1, h2]; done)
          case rZ => first | rfl | (go_simp; done) | simp [go_sem]
          rintro _ ⟨y, rfl⟩
          have Y := y.ok
          generalize y.w = w3 at *
          obtain ⟨ky, X3⟩ := Y
          have D3 := D2.below ky (Nat.le_refl _)
          have B3 := B2.below ky (Nat.le_refl _)
          have k3 := k2.trans (ky.mono k2.size)
          clear d0 d1 d2 d3 b0 b1 b2 y0 y1 y2 D2 B2 k2
          obtain ⟨x0, x2, x3, _, _, _⟩ := X3
          have B9 := B3
          obtain ⟨b0, b1, b2, y0, y1, y2⟩ := B9
          simp [Act.put]
          go_wp2_with fail
          go_roundw
          case rel =>
            refine ⟨j + 1, by go_num, hjM2, by omega, Lib.hid (by rw [Hpre.out]; exact HO.out), ((D3.setNe (by simp) _).setNe (by simp) _).setNe (by simp) _, by rw [Hpre.out]; exact ((B3.set0 v).set1 U).set2 a, ((k3.setCell (by simp) _).setCell (by simp) _).setCell (by simp) _⟩
          case measure => simp [intOf]; omega
    · have e : j = n := by omega
      have e2 : j = M := by
        have := HLS.out.1
        omega
      have He := Lib.hid e2; clear e2
      subst e
      go_wp2_with fail
      go_ret2
      exact ⟨by rw [← He.out]; rfl, k2⟩

end
end Go.Proofs.YtkgjkjecfpmlnaaDoor

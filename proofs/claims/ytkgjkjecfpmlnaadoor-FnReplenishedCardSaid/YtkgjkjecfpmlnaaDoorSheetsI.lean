/-
  Sheets without replenishing: what the program returns. Condition: its errors, and its table of times.
-/
import Derived.Test.YtkgjkjecfpmlnaaDoorSheetsF
namespace Go.Proofs.YtkgjkjecfpmlnaaDoor
open Go.RowKit

theorem errEqB (x : Addr) (w : World) : (binOp .eql 50 (errV x) .nilIface).run Tryd.prog w = .ok (.bool false) w := by kernel_rfl
theorem nilEqB (w : World) : (binOp .eql 50 .nilIface .nilIface).run Tryd.prog w = .ok (.bool true) w := by kernel_rfl

section
variable {p k b t v u a : Int}

set_option maxRecDepth 100000 in
set_option maxHeartbeats 2000000 in
theorem develops_any (z : Ers) (s sl : Int) (hs : 1 ≤ s) (hs' : s ≤ 5000) (h0 : 0 ≤ sl) (h1 : sl ≤ 36) (h : BOk p k b t v u a) (w : World) (hT : TimEnv w) (hE : ErrEnv z w) :
    Calls Tryd.prog 61 #[trayV p k b t v u a, .int .i64 s, .int .i64 sl] w fun e w' => e = .returned (.bool (readyB p k b t v u a s sl)) ∧ Below w.heap.size w w' := by
  have k0 : Below w.heap.size w (w.alloc (.cells #[.int .i64 p, .int .i64 k, .int .i8 b, .int .i8 t, .int .i64 v, .int .i64 u, .int .i64 a] 82)) := (Below.refl _ _).alloc (Nat.le_refl _) _
  have T0 := TrAt.new w 82 p k b t v u a
  have haf := fun W hT hE => after_sheet z s h W hT hE
  have hsl := fun W hT hE => isSlowerThan_any z sl h0 h1 h W hT hE
  have ee := errEqB
  have en := nilEqB
  unfold sheetA AfterOut at haf
  rw [inB_true.2 ⟨hs, hs'⟩] at haf
  simp only [if_true] at haf
  unfold readyB
  clear h
  generalize slw (strn p k v u a) = K at *
  rcases hB : sheetB p k b t v u a s with _ | _
  · rw [hB] at haf
    simp only [Bool.false_eq_true, if_false] at haf
    rw [Bool.and_false]
    have Haf := Lib.hid haf; clear haf hsl en hB
    go_enter Tryd.func61, Tryd.ntmps61
    go_wp2_with fail
    refine (Haf.out _ (hT.below k0 (Nat.le_refl _)) (hE.below k0 (Nat.le_refl _))).mono ?_; rintro e w1 ⟨ev, rfl, hev, hb1⟩
    obtain ⟨ad, rfl⟩ := isCode_err hev (by decide)
    have k1 := k0.trans (hb1.mono k0.size)
    go_wp2_with fail
    go_ret
    exact ⟨rfl, k1.alloc k1.size _⟩
  · rw [hB] at haf
    simp only [if_true, ifC_0] at haf
    rw [Bool.and_true]
    have hd : (!decide (sl < K)) = decide (K ≤ sl) := by by_cases e : K ≤ sl <;> simp [e] <;> omega
    have Hd := Lib.hid hd; clear hd
    have Haf := Lib.hid haf; clear haf ee hB
    have Hsl := Lib.hid hsl; clear hsl
    go_enter Tryd.func61, Tryd.ntmps61
    go_wp2_with fail
    refine (Haf.out _ (hT.below k0 (Nat.le_refl _)) (hE.below k0 (Nat.le_refl _))).mono ?_; rintro e w1 ⟨ev, rfl, hev, hb1⟩
    obtain rfl := isCode_zero hev rfl
    have k1 := k0.trans (hb1.mono k0.size)
    have T1 := T0.below hb1 (Nat.le_refl _)
    have hlt := T1.lt
    have k2 := k1.alloc k1.size (.cells #[.int .i64 p, .int .i64 k, .int .i8 b, .int .i8 t, .int .i64 v, .int .i64 (u + s), .int .i64 a] 82)
    obtain ⟨c0, c1, c2, c3, c4, c5, c6, _⟩ := T1
    clear hb1 k1 T0 k0
    go_wp2_with fail
    refine (Hsl.out _ (hT.below k2 (Nat.le_refl _)) (hE.below k2 (Nat.le_refl _))).mono ?_; rintro e w2 ⟨rfl, hb2⟩
    go_wp2_with fail
    go_ret
    exact ⟨ret_bool Hd.out, k2.trans (hb2.mono k2.size)⟩

set_option maxRecDepth 100000 in
set_option maxHeartbeats 2000000 in
theorem sheetsFrom_any (z : Ers) (g n cap : Nat) (xs : Nat → Int) (sl : Int) (hn : n ≤ 1048576) (hb : -128 ≤ b) (hb' : b ≤ 127) (ht : -128 ≤ t) (ht' : t ≤ 127) (w : World) (hr : RowN w g n xs) (hT : TimEnv w) (hE : ErrEnv z w) :
    Calls Tryd.prog 40 #[devV p k b t, batV v u a, .slice (some ⟨g, 0, none⟩) n cap, .int .i64 sl] w (Coded z (.int .i64 (sfR p k b t v u a sl n xs)) (arC (bathOk p k b t v u a) n xs sl) w.heap.size w) := by
  have kk := below_2 w (.cells #[.int .i64 p, .int .i64 k, .int .i8 b, .int .i8 t] 26) (.cells #[.int .i64 v, .int .i64 u, .int .i64 a] 28)
  have hlt := hr.lt
  have ne := errNeB
  have nn := nilNeB
  have htf := trayFor_any (p := p) (k := k) (b := b) (t := t) (v := v) (u := u) (a := a) z g n cap xs sl hn hb hb' ht ht' _ (hr.below kk hlt) (hE.below kk (Nat.le_refl _))
  unfold sfR AfterOut at *
  by_cases hC0 : arC (bathOk p k b t v u a) n xs sl = 0
  rotate_left
  · have hC0' := Lib.hid hC0
    have hz : ifC (arC (bathOk p k b t v u a) n xs sl) (sfN p k b t v u a sl n xs) = 0 := by unfold ifC; rw [if_neg hC0]
    rw [hz]
    clear hz hC0
    generalize arC (bathOk p k b t v u a) n xs sl = C at *
    generalize ifC C p = P at htf
    generalize ifC C k = K at htf
    generalize ifC C b = B at htf
    generalize ifC C t = T at htf
    generalize ifC C v = V at htf
    generalize ifC C u = U at htf
    generalize ifC C a = X at htf
    have Htf := Lib.hid htf; clear htf nn
    go_enter Tryd.func40, Tryd.ntmps40
    go_wp2_with fail
    refine Htf.out.mono ?_; rintro e w1 ⟨ev, rfl, hev, hb1⟩
    obtain ⟨ad, rfl⟩ := isCode_err hev hC0'.out
    have k1 := kk.trans (hb1.mono kk.size)
    go_wp2_with fail
    go_ret2
    exact ⟨_, hev, rfl, k1.alloc k1.size _⟩
  obtain ⟨hok, h60, hall, sl0, sl1⟩ := arC_zero hC0
  have h := bathOk_true.1 hok
  rw [hC0] at htf ⊢
  simp only [ifC_0] at htf ⊢
  have hls := least_spec (n := n) (q := sfQ p k b t v u a sl xs)
  have hN : sfN p k b t v u a sl n xs = least (sfQ p k b t v u a sl xs) n := rfl
  rw [← hN] at hls
  generalize hM : sfN p k b t v u a sl n xs = M at *
  have HLS := Lib.hid hls; clear hls hN hM hC0 hok ne
  have Htf := Lib.hid htf; clear htf
  have Hall := Lib.hid hall; clear hall
  have h61 : (n : Int) ≤ 60 := by omega
  have HB0 := Lib.hid h; clear h
  go_enter Tryd.func40, Tryd.ntmps40
  go_wp2_with fail
  refine Htf.out.mono ?_; rintro e w1 ⟨ev, rfl, hev, hb1⟩
  obtain rfl := isCode_zero hev rfl
  have k1 := kk.trans (hb1.mono kk.size)
  have T1 := TrAt.new w1 82 p k b t v u a
  have k2 := k1.alloc k1.size (.cells #[.int .i64 p, .int .i64 k, .int .i8 b, .int .i8 t, .int .i64 v, .int .i64 u, .int .i64 a] 82)
  have hJ : w.heap.size ≤ w1.heap.size := k1.size
  clear hb1 k1 kk hev
  go_wp2_with fail
  generalize w1.alloc (.cells #[.int .i64 p, .int .i64 k, .int .i8 b, .int .i8 t, .int .i64 v, .int .i64 u, .int .i64 a] 82) = W at *
  generalize w1.heap.size = J at *
  go_loopw [12, 28] (fun sv iv wr => ∃ j : Nat, sv = .int .i64 j ∧ iv = .int .i64 j ∧ j ≤ M ∧ j ≤ n ∧ Hid (BOk p k b t v (u + preA xs j) a) ∧ TrAt wr J p k b t v (u + preA xs j) a ∧ Below w.heap.size w wr) (fun _ iv _ => n - (intOf iv).toNat)
  case atStart => exact ⟨0, rfl, rfl, Nat.zero_le _, Nat.zero_le _, Lib.hid (by simpa [preA] using HB0.out), by simpa [preA] using T1, k2⟩
  case round =>
    obtain ⟨j, rfl, rfl, hjM, hj, HB, T2, k3⟩ := hrel
    by_cases hjn : j < n
    · have hs := inB_true.1 (allA_iff.1 Hall.out j hjn)
      have x1 : wr.cell? ⟨g, j, none⟩ = some (.int .i64 (xs j)) := by rw [k3.cell (p := ⟨g, j, none⟩) hlt]; exact hr.cell hjn
      have hrd := fun W hT hE => develops_any z (xs j) sl hs.1 hs.2 sl0 sl1 HB.out W hT hE
      have hqj : sfQ p k b t v u a sl xs j = !readyB p k b t v (u + preA xs j) a (xs j) sl := rfl
      have T9 := T2
      obtain ⟨c0, c1, c2, c3, c4, c5, c6, _⟩ := T9
      have hltJ := T2.lt
      rcases hR : readyB p k b t v (u + preA xs j) a (xs j) sl with _ | _
      · have e : j = M := by
          rw [hR] at hqj
          rcases Nat.lt_or_ge j M with h2 | h2
          · have := HLS.out.2.1 j h2
            rw [hqj] at this; cases this
          · omega
        have He := Lib.hid e; clear e hqj
        rw [hR] at hrd
        clear hR
        have Hrd := Lib.hid hrd; clear hrd
        go_wp2_with fail
        refine (Hrd.out _ (hT.below k3 (Nat.le_refl _)) (hE.below k3 (Nat.le_refl _))).mono ?_; rintro e w4 ⟨rfl, hb4⟩
        go_wp2_with fail
        go_ret2
        exact ⟨_, .ok, by rw [← He.out]; rfl, k3.trans (hb4.mono k3.size)⟩
      · have hro := ready_ok HB.out hR
        have hjM2 : j + 1 ≤ M := by
          rw [hR] at hqj
          rcases Nat.lt_or_ge j M with h2 | h2
          · omega
          · have e : j = M := by omega
            have := HLS.out.2.2 (by omega)
            rw [← e, hqj] at this; cases this
        rw [hR] at hrd
        have hu1 := HB.out.u1
        have hu0 := HB.out.u0
        have HO := Lib.hid hro.1
        clear hqj hR hro
        have Hrd := Lib.hid hrd; clear hrd
        have hpre : u + preA xs (j + 1) = u + preA xs j + xs j := by simp only [preA]; omega
        have Hpre := Lib.hid hpre; clear hpre
        go_wp2_with fail
        refine (Hrd.out _ (hT.below k3 (Nat.le_refl _)) (hE.below k3 (Nat.le_refl _))).mono ?_; rintro e w4 ⟨rfl, hb4⟩
        have T4 := T2.below hb4 (Nat.le_refl _)
        have k4 := k3.trans (hb4.mono k3.size)
        clear c0 c1 c2 c3 c4 c5 c6 T2 hb4 k3
        have T9 := T4
        obtain ⟨c0, c1, c2, c3, c4, c5, c6, cz⟩ := T9
        have hlt4 := T4.lt
        go_wp2_with fail
        go_roundw
        case rel =>
          refine ⟨j + 1, by go_num, by go_num, hjM2, by omega, Lib.hid (by rw [Hpre.out]; exact HO.out), by rw [Hpre.out]; exact T4.set5 _, k4.setCell (by show w.heap.size ≤ J; omega) _⟩
        case measure => simp [intOf]; omega
    · have e : j = n := by omega
      have e2 : j = M := by
        have := HLS.out.1
        omega
      have He := Lib.hid e2; clear e2
      subst e
      go_wp2_with fail
      go_ret2
      exact ⟨_, .ok, by rw [← He.out]; rfl, k3⟩

set_option maxHeartbeats 1000000 in
theorem SheetsFrom_any (z : Ers) (g n cap : Nat) (xs : Nat → Int) (sl : Int) (hn : n ≤ 1048576) (hb : -128 ≤ b) (hb' : b ≤ 127) (ht : -128 ≤ t) (ht' : t ≤ 127) (w : World) (hr : RowN w g n xs) (hT : TimEnv w) (hE : ErrEnv z w) :
    Calls Tryd.prog 16 #[devV p k b t, batV v u a, .slice (some ⟨g, 0, none⟩) n cap, .int .i64 sl] w fun e w' => e = .returned (.tuple #[.int .i64 (sfR p k b t v u a sl n xs), .int .i64 (arC (bathOk p k b t v u a) n xs sl)]) ∧ Below w.heap.size w w' := by
  have hB0 := below_2 w (.cells #[.int .i64 p, .int .i64 k, .int .i8 b, .int .i8 t] 26) (.cells #[.int .i64 v, .int .i64 u, .int .i64 a] 28)
  have hlt := hr.lt
  have hst := sheetsFrom_any (p := p) (k := k) (b := b) (t := t) (v := v) (u := u) (a := a) z g n cap xs sl hn hb hb' ht ht' _ (hr.below hB0 hlt) (hT.below hB0 (Nat.le_refl _)) (hE.below hB0 (Nat.le_refl _))
  generalize sfR p k b t v u a sl n xs = R at *
  generalize arC (bathOk p k b t v u a) n xs sl = C at *
  have Hst := Lib.hid hst; clear hst
  go_enter Tryd.func16, Tryd.ntmps16
  go_wp2_with fail
  refine Hst.out.mono ?_; rintro e w1 ⟨x, hx, rfl, hb1⟩
  have k1 := hB0.trans (hb1.mono hB0.size)
  go_wp2_with fail
  refine (codedInt_any hx _ _ (hE.below k1 (Nat.le_refl _))).mono ?_; rintro e w2 ⟨rfl, rfl⟩
  go_wp2_with fail
  go_ret2
  exact ⟨rfl, k1⟩

end
end Go.Proofs.YtkgjkjecfpmlnaaDoor

/-
  The darkest frame in the program. Condition: its variables hold their own errors, the library's table of de Bruijn what its text lays.
-/
import Derived.Test.YtkmpfbjenddhjaaDoorDrk
namespace Go.Proofs.YtkmpfbjenddhjaaDoor
open Go.RowKit

set_option maxRecDepth 100000 in
set_option maxHeartbeats 2000000 in
theorem darkestFrame_none (s : Ers) (X : Int) (A : Option Addr) (cap : Nat) (g : Nat → Nat → Int) (hX : -128 ≤ X ∧ X ≤ 127) (hv : shtB X 0 g = true) (w : World) (hr : PrsIn w A 0 g) (hE : ErrEnv s w) :
    Calls Tryd.prog 40 #[.agg #[.int .i8 X, .slice A 0 cap]] w fun e w' => e = .returned (chE 0 0 (errV s.enotfound)) ∧ Below w.heap.size w w' := by
  have k0 := ((Below.refl w.heap.size w).alloc (Nat.le_refl _) (.cells #[.int .i8 X, .slice A 0 cap] 29)).alloc (by simp) (.cells #[.int .i64 0, .int .i64 0] 73)
  have hq := framesOf_any s X A 0 cap g (by omega) hX none 0 0 (fun _ => 0) (by omega) _ (hr.below k0 (Nat.le_refl _)) (.inl rfl) (hE.below k0 (Nat.le_refl _))
  rw [frmC_none hv, frmR_0] at hq
  have b0 : ChBox ((w.alloc (.cells #[.int .i8 X, .slice A 0 cap] 29)).alloc (.cells #[.int .i64 0, .int .i64 0] 73)) (w.heap.size + 1) 0 0 := by
    have := ChBox.new (w.alloc (.cells #[.int .i8 X, .slice A 0 cap] 29)) 0 0
    rwa [World.size_alloc] at this
  have Hq := Lib.hid hq; clear hq hv hr
  go_enter Tryd.func40, Tryd.ntmps40
  go_wp2_with fail
  refine Hq.out.mono ?_; rintro e w2 ⟨rfl, hb2⟩
  have k2 := k0.trans (hb2.mono k0.size)
  have b2 := b0.below hb2 b0.lt
  have ce := (hE.below k2 (Nat.le_refl _)).c_enotfound
  have b3 := b2.set 0 0
  have k3 := (k2.drew.setCell (p := ⟨w.heap.size + 1, 0, none⟩) (by simp) (.int .i64 0)).setCell (p := ⟨w.heap.size + 1, 1, none⟩) (by simp) (.int .i64 0)
  have cg := (hE.below k3 (Nat.le_refl _)).c_enotfound
  have c0 := b2.cell0
  have c1 := b2.cell1
  have f0 := b2.free 0
  have f1 := b2.free 1
  have cg2 := (hE.below (k2.drew.setCell (p := ⟨w.heap.size + 1, 0, none⟩) (by simp) (.int .i64 0)) (Nat.le_refl _)).c_enotfound
  have cg3 : (w2.setCell ⟨w.heap.size + 1, 0, none⟩ (.int .i64 0)).cell? ⟨0, 0, none⟩ = some (errV s.enotfound) := cg2
  have B3 := Lib.hid b3; have K3 := Lib.hid k3; clear b3 k3
  clear hb2 Hq b0 k0 hE
  go_wp2_with fail
  go_region
  all_goals
    go_wp2
    have x0 := World.cell?_setCell_same' w2 ⟨w.heap.size + 1, 0, none⟩ (.int .i64 0) (by rw [c0]; rfl)
    have x1 : (w2.setCell ⟨w.heap.size + 1, 0, none⟩ (.int .i64 0)).cell? ⟨w.heap.size + 1, 1, none⟩ = some (.int .i64 0) := by rw [cell_of_row _ _ 1 _ _ _ (heap_setCell_same _ _ 0 _ _ (.int .i64 0) (show w2.heap[w.heap.size + 1]? = some (.cells #[.int .i64 0, .int .i64 0] 73 (0, 0)) from b2))]; rfl
    have x2 := World.cell?_setCell_same' (w2.setCell ⟨w.heap.size + 1, 0, none⟩ (.int .i64 0)) ⟨w.heap.size + 1, 1, none⟩ (.int .i64 0) (by rw [x1]; rfl)
    refine bodyPost_ret (v := chE 0 0 (errV s.enotfound)) (by simp [results, Tryd.results40, go_sem, x0, x2, chE]) rfl ⟨rfl, K3.out⟩

set_option maxRecDepth 100000 in
set_option maxHeartbeats 4000000 in
theorem darkestFrame_ok (s : Ers) (X : Int) (A : Option Addr) (n cap : Nat) (g : Nat → Nat → Int) (hn : n ≤ 1048576) (hX : -128 ≤ X ∧ X ≤ 127) (hs : ∀ i, i < n → S16 (g i)) (hv : shtB X n g = true) (h1n : 1 ≤ n) (w : World) (hr : PrsIn w A n g) (hE : ErrEnv s w) (hT : DbEnv w) :
    Calls Tryd.prog 40 #[.agg #[.int .i8 X, .slice A n cap]] w fun e w' => e = .returned (chE ((dk (fun i => totB (g i)) n).1 : Nat) (dk (fun i => totB (g i)) n).2 .nilIface) ∧ Below w.heap.size w w' := by
  have k0 := ((Below.refl w.heap.size w).alloc (Nat.le_refl _) (.cells #[.int .i8 X, .slice A n cap] 29)).alloc (by simp) (.cells #[.int .i64 0, .int .i64 0] 73)
  have hq := framesOf_any s X A n cap g hn hX none 0 0 (fun _ => 0) (by omega) _ (hr.below k0 (Nat.le_refl _)) (.inl rfl) (hE.below k0 (Nat.le_refl _))
  rw [frmC_none hv, frmR_0] at hq
  have b0 : ChBox ((w.alloc (.cells #[.int .i8 X, .slice A n cap] 29)).alloc (.cells #[.int .i64 0, .int .i64 0] 73)) (w.heap.size + 1) 0 0 := by
    have := ChBox.new (w.alloc (.cells #[.int .i8 X, .slice A n cap] 29)) 0 0
    rwa [World.size_alloc] at this
  have hd := prsB_iff.1 (shtB_iff.1 hv).2.2
  have HT := Lib.hid (fun k hk => show 0 ≤ totB (g k) ∧ totB (g k) ≤ 25600 from totB_bd (hd k hk) 64 (Nat.le_refl _))
  have HR := Lib.hid (hr.below k0 (Nat.le_refl _))
  have Hq := Lib.hid hq; clear hq hv hr hE hd
  have HS := Lib.hid (fun k hk W hW => sumFull_any (g k) (hs k hk) W hW)
  have HDb := Lib.hid hT; clear hT hs
  have hfin : Hid (dkP (fun i => totB (g i)) n = dk (fun i => totB (g i)) n) := Lib.hid (dkP_n (by omega))
  go_enter Tryd.func40, Tryd.ntmps40
  go_wp2_with fail
  refine Hq.out.mono ?_; rintro e w2 ⟨rfl, hb2⟩
  have k2 := k0.trans (hb2.mono k0.size)
  have b2 := b0.below hb2 b0.lt
  have HR2 := Lib.hid (HR.out.below hb2 (Nat.le_refl _))
  clear hb2 Hq b0 k0 HR
  rcases HR2.out with h0 | ⟨b, o, rfl, hlt, hc⟩
  · exfalso; omega
  have HC := Lib.hid hc
  have p0 := hc 0 (by omega)
  rw [Nat.zero_mul, Nat.add_zero] at p0
  clear hc
  have hn1 : (0 : Int) < n := by omega
  have hn0 : ¬ (n : Int) = 0 := by omega
  have hT0 := HT.out 0 (by omega)
  have B2 := Lib.hid b2; have K2 := Lib.hid k2; clear b2 k2
  go_wp2_with (refine wpList_load_part p0 58 (.tmp 25) rfl rfl rfl Tryd.underlying58 sizePrint ?_)
  refine (HS.out 0 (by omega) _ (HDb.out.below K2.out)).mono ?_; rintro e w3 ⟨rfl, hb3⟩
  have hc3 := Lib.hid (fun i hi => (HC.out i hi).below hb3 hlt)
  have b3 := B2.out.below hb3 B2.out.lt
  have k3 := K2.out.trans (hb3.mono K2.out.size)
  have hlt3 : b < w3.heap.size := Nat.lt_of_lt_of_le hlt hb3.size
  clear hb3 B2 K2 p0 HC HR2 hlt
  have hz3 := k3.size
  have q0 := ChBox.new w3 0 (totB (g 0))
  have k4 := k3.alloc k3.size (.cells #[.int .i64 0, .int .i64 (totB (g 0))] 73)
  have b4 : ChBox (w3.alloc (.cells #[.int .i64 0, .int .i64 (totB (g 0))] 73)) (w.heap.size + 1) 0 0 := (Below.heap_alloc w3 _ _ b3.lt).trans b3
  have hbl := b3.lt
  have hc4 : Hid (∀ i, i < n → PartA (w3.alloc (.cells #[.int .i64 0, .int .i64 (totB (g 0))] 73)) b (o + i * 64) .i16 64 (g i)) := Lib.hid (fun i hi => (hc3.out i hi).below ((Below.refl w3.heap.size w3).alloc (Nat.le_refl _) _) hlt3)
  go_wp2_with fail
  clear hc3 b3 k3
  obtain ⟨R, hR⟩ : ∃ R, R = w3.heap.size := ⟨_, rfl⟩
  rw [← hR] at q0 hbl hlt3 hz3 ⊢
  clear hR
  generalize w3.alloc (.cells #[.int .i64 0, .int .i64 (totB (g 0))] 73) = W3 at *
  have h0q : (dkP (fun i => totB (g i)) 0) = (0, totB (g 0)) := dkP_0 hT0.1
  have q1 : ChBox W3 R ((dkP (fun i => totB (g i)) 0).1 : Nat) (dkP (fun i => totB (g i)) 0).2 := by rw [h0q]; exact q0
  have Hyes := Lib.hid (fun k h => dkP_yes (t := fun i => totB (g i)) (k := k) h hT0.1)
  have Hno := Lib.hid (fun k h => dkP_no (t := fun i => totB (g i)) (k := k) h hT0.1)
  clear h0q q0
  go_loopw [31] (fun iv wr => ∃ k : Nat, k ≤ n ∧ iv = .int .i64 (k : Int) ∧ ChBox wr R ((dkP (fun i => totB (g i)) k).1 : Nat) (dkP (fun i => totB (g i)) k).2 ∧ ChBox wr (w.heap.size + 1) 0 0 ∧ Hid (∀ i, i < n → PartA wr b (o + i * 64) .i16 64 (g i)) ∧ Below w.heap.size w wr) (fun iv _ => n - (intOf iv).toNat)
  case atStart => exact ⟨0, by omega, rfl, q1, b4, hc4, k4⟩
  case round =>
    clear q1 b4 hc4 k4
    obtain ⟨k, hk, rfl, hq, hb, hc, hB⟩ := hrel
    by_cases hkn : k < n
    · have hkn' : (k : Int) < n := by omega
      have p0 := hc.out k hkn
      have hTk := HT.out k hkn
      have hsz := hB.size
      have hql := hq.lt
      have z0 := HasArr.zero wr 58 (b := wr.heap.size) rfl
      have z1 := z0.setRow .i16 (g k)
      have kB := below_setRow ((Below.refl wr.heap.size wr).alloc (Nat.le_refl _) (.cells #[.int .i16 0, .int .i16 0, .int .i16 0, .int .i16 0, .int .i16 0, .int .i16 0, .int .i16 0, .int .i16 0, .int .i16 0, .int .i16 0, .int .i16 0, .int .i16 0, .int .i16 0, .int .i16 0, .int .i16 0, .int .i16 0, .int .i16 0, .int .i16 0, .int .i16 0, .int .i16 0, .int .i16 0, .int .i16 0, .int .i16 0, .int .i16 0, .int .i16 0, .int .i16 0, .int .i16 0, .int .i16 0, .int .i16 0, .int .i16 0, .int .i16 0, .int .i16 0, .int .i16 0, .int .i16 0, .int .i16 0, .int .i16 0, .int .i16 0, .int .i16 0, .int .i16 0, .int .i16 0, .int .i16 0, .int .i16 0, .int .i16 0, .int .i16 0, .int .i16 0, .int .i16 0, .int .i16 0, .int .i16 0, .int .i16 0, .int .i16 0, .int .i16 0, .int .i16 0, .int .i16 0, .int .i16 0, .int .i16 0, .int .i16 0, .int .i16 0, .int .i16 0, .int .i16 0, .int .i16 0, .int .i16 0, .int .i16 0, .int .i16 0, .int .i16 0] 58)) (b := wr.heap.size) (by omega) (arrV .i16 64 (g k))
      have hs2 := Lib.hid (fun W hW => HS.out k hkn W hW)
      have hd2 := Lib.hid (HDb.out.below (hB.trans (kB.mono hB.size)))
      have HQ := Lib.hid hq; have HB0 := Lib.hid hb; have HC := Lib.hid hc; have HB := Lib.hid hB; have KB := Lib.hid kB; clear hq hb hc hB kB
      have Hy := Lib.hid (Hyes.out k); have Hn := Lib.hid (Hno.out k)
      generalize hDe : dkP (fun i => totB (g i)) k = D at *
      obtain ⟨I, M⟩ := D
      have hq2 : Hid (ChBox wr R (I : Nat) M) := HQ
      have Hy2 : Hid (M < totB (g k) → dkP (fun i => totB (g i)) (k + 1) = (k, totB (g k))) := Hy
      have Hn2 : Hid (¬ M < totB (g k) → dkP (fun i => totB (g i)) (k + 1) = (I, M)) := Hn
      clear HQ Hy Hn hDe
      go_wp2_with (first | (refine wpList_load_part p0 58 (.tmp 34) rfl rfl rfl Tryd.underlying58 sizePrint ?_) | (refine wpList_store_arr z0 58 (.tmp 8) (.tmp 35) rfl rfl rfl rfl sizePrint ?_) | (refine wpList_load_arr z1 58 (.tmp 8) rfl rfl rfl Tryd.underlying58 sizePrint ?_))
      refine (hs2.out _ hd2.out).mono ?_; rintro e w5 ⟨rfl, hb5⟩
      have kk := KB.out.trans (hb5.mono KB.out.size)
      have q5 := hq2.out.below kk (by omega)
      have b5 := HB0.out.below kk HB0.out.lt
      have c5 := Lib.hid (fun i hi => (HC.out.out i hi).below kk (by omega))
      have k5 := Lib.hid (HB.out.trans (kk.mono HB.out.size))
      clear kk hb5 KB hd2 hs2 hq2 HB0 HC HB z0 z1 p0
      have cc0 := q5.cell0
      have cc1 := q5.cell1
      have f0 := q5.free 0
      have f1 := q5.free 1
      generalize totB (g k) = T at *
      by_cases hlt2 : M < T
      · have h4 := Lib.hid (Hy2.out hlt2); clear Hy2 Hn2
        have q6 := Lib.hid (q5.set (k : Int) T)
        have b6 := Lib.hid ((b5.other (p := ⟨R, 0, none⟩) (by show w.heap.size + 1 ≠ R; omega) (.int .i64 (k : Int))).other (p := ⟨R, 1, none⟩) (by show w.heap.size + 1 ≠ R; omega) (.int .i64 T))
        have c6 := Lib.hid (fun i hi => (c5.out i hi).below (((Below.refl R w5).setCell (p := ⟨R, 0, none⟩) (Nat.le_refl _) (.int .i64 (k : Int))).setCell (p := ⟨R, 1, none⟩) (Nat.le_refl _) (.int .i64 T)) hlt3)
        have k6 := Lib.hid ((k5.out.setCell (p := ⟨R, 0, none⟩) (by show _ ≤ R; omega) (.int .i64 (k : Int))).setCell (p := ⟨R, 1, none⟩) (by show _ ≤ R; omega) (.int .i64 T))
        clear q5 b5 c5 k5
        go_wp2_with fail
        go_roundw
        case rel => exact ⟨k + 1, by omega, by go_num, by rw [h4.out]; exact q6.out, b6.out, c6, k6.out⟩
        case measure => simp [intOf]; omega
      · have h4 := Lib.hid (Hn2.out (by omega)); clear Hy2 Hn2
        have hlt3' : decide (M < T) = false := decide_eq_false hlt2
        have Q5 := Lib.hid q5; have B5 := Lib.hid b5; clear q5 b5
        go_wp2_with fail
        go_roundw
        case rel => exact ⟨k + 1, by omega, by go_num, by rw [h4.out]; exact Q5.out, B5.out, c5, k5.out⟩
        case measure => simp [intOf]; omega
    · obtain rfl : k = n := by omega
      rw [hfin.out] at hq
      have cc0 := hq.cell0
      have cc1 := hq.cell1
      have c0 := hb.cell0
      have c1 := hb.cell1
      have f0 := hb.free 0
      have f1 := hb.free 1
      have b3 := hb.set ((dk (fun i => totB (g i)) k).1 : Nat) (dk (fun i => totB (g i)) k).2
      generalize hDD : dk (fun i => totB (g i)) k = D at *
      have HDD := Lib.hid hDD; clear hDD
      go_wp2_with fail
      refine bodyPost_ret (v := chE (D.1 : Nat) D.2 .nilIface) (by simp [results, Tryd.results40, go_sem, b3.cell0, b3.cell1, chE]) rfl ⟨by rw [HDD.out], (hB.setCell (by simp) _).setCell (by simp) _⟩

set_option maxRecDepth 100000 in
set_option maxHeartbeats 2000000 in
theorem DarkestFrame_ex (s : Ers) (X : Int) (A : Option Addr) (n cap : Nat) (a b c : Int) (v : Value) (hv : IsCode s v c) (w : World) (hE : ErrEnv s w)
    (h : ∀ W, Below w.heap.size w W → Calls Tryd.prog 40 #[.agg #[.int .i8 X, .slice A n cap]] W fun e w' => e = .returned (chE a b v) ∧ Below W.heap.size W w') :
    Calls Tryd.prog 18 #[.agg #[.int .i8 X, .slice A n cap]] w fun e w' => e = .returned (.tuple #[.int .i64 a, .int .i64 b, .int .i64 c]) ∧ Below w.heap.size w w' := by
  have k0 := (Below.refl w.heap.size w).alloc (Nat.le_refl _) (.cells #[.int .i8 X, .slice A n cap] 29)
  have H := Lib.hid (h _ k0); clear h
  go_enter Tryd.func18, Tryd.ntmps18
  go_wp2_with fail
  unfold chE at H
  refine H.out.mono ?_; rintro e w2 ⟨rfl, hb2⟩
  have k2 := k0.trans (hb2.mono k0.size)
  have q0 := ChBox.new w2 a b
  have k3 := k2.alloc k2.size (.cells #[.int .i64 a, .int .i64 b] 73)
  clear hb2 H k0
  go_wp2_with fail
  generalize w2.alloc (.cells #[.int .i64 a, .int .i64 b] 73) = W3 at *
  have HE := hE.below k3 (Nat.le_refl _)
  have cc0 := inCell q0.cell0
  have cc1 := inCell q0.cell1
  have hcd := Lib.hid (fun (x : WIn (Below W3.heap.size W3)) => codeOf_any hv x.w (HE.below x.ok (Nat.le_refl _)))
  refine wp_region_quietD (Below W3.heap.size W3) (by kernel_rfl) (by kernel_rfl) (below_drew1 _) ?_
  have n0 := below_nonempty W3
  repeat (go_big_quiet_step ((go_at_call 41; exact inCallS _ (hcd.out _))))
  refine wpQuiet_nil ?_
  rintro _ ⟨x, rfl⟩
  have k4 := k3.trans (x.ok.mono k3.size)
  go_wp2_with fail
  go_ret3
  exact ⟨rfl, k4⟩

theorem DarkestFrame_any (s : Ers) (X : Int) (A : Option Addr) (n cap : Nat) (g : Nat → Nat → Int) (hn : n ≤ 1048576) (hX : -128 ≤ X ∧ X ≤ 127) (hs : ∀ i, i < n → S16 (g i)) (w : World) (hr : PrsIn w A n g) (hE : ErrEnv s w) (hT : DbEnv w) :
    Calls Tryd.prog 18 #[.agg #[.int .i8 X, .slice A n cap]] w fun e w' => e = .returned (.tuple (darT X n g)) ∧ Below w.heap.size w w' := by
  rcases hv : shtB X n g with _ | _
  · rw [darT_bad hv]
    exact DarkestFrame_ex s X A n cap 0 0 1 _ .einvalid w hE fun W hW => darkestFrame_bad s X A n cap g hn hX hv W (hr.below hW (Nat.le_refl _)) (hE.below hW (Nat.le_refl _))
  · by_cases h0 : n = 0
    · subst h0
      rw [darT_none hv]
      exact DarkestFrame_ex s X A 0 cap 0 0 6 _ .enotfound w hE fun W hW => darkestFrame_none s X A cap g hX hv W (hr.below hW (Nat.le_refl _)) (hE.below hW (Nat.le_refl _))
    · rw [darT_ok hv h0]
      exact DarkestFrame_ex s X A n cap _ _ 0 _ .ok w hE fun W hW => darkestFrame_ok s X A n cap g hn hX hs hv (by omega) W (hr.below hW (Nat.le_refl _)) (hE.below hW (Nat.le_refl _)) (hT.below hW)
end Go.Proofs.YtkmpfbjenddhjaaDoor

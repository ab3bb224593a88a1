/-
  A curve whose densities are multiplied: what the program's and the reference's functions return. Condition of the program's: its variables hold their own errors; at most 1048576 points.
-/
import Derived.Test.YtpombpphicmhmaaDoorChanged
namespace Go.Proofs.YtpombpphicmhmaaDoor
open Go.RowKit

def strF (ys : Nat → Int) (a d : Int) (i : Nat) : Int := (ys i * a).tdiv d
theorem pt_den {x q : Int} (h : -200 ≤ x) (h' : x ≤ 200) : ptOk x q = inB q 0 400 := by simp [ptOk, inB_true.2 ⟨h, h'⟩]
theorem str_bd {Y a : Int} (d : Int) (hy : 0 ≤ Y) (hy' : Y ≤ 400) (ha : 0 ≤ a) (ha' : a ≤ 100) : (-440000000 ≤ Y * a ∧ Y * a ≤ 440000000) ∧ -440000000 ≤ (Y * a).tdiv d ∧ (Y * a).tdiv d ≤ 440000000 := by
  have h := prod_bd hy hy' (b := a) (by omega) (by omega)
  exact ⟨h, tdiv_bd h.1 h.2⟩

set_option maxRecDepth 100000 in
set_option maxHeartbeats 2000000 in
theorem specStretchCurve_any (b n cap : Nat) (xs ys : Nat → Int) (a d : Int) (hn : n ≤ 1048576) (hs : SmallP n xs ys) (w : World) (hr : PtRow w b n xs ys) :
    Calls Tryd.prog 31 #[.slice (some ⟨b, 0, none⟩) n cap, .int .i64 a, .int .i64 d] w (CrvCode (chC n xs ys (inB a 0 100 && inB d 1 100) xs (strF ys a d)) xs (strF ys a d) n w) := by
  have hk := l02Ok_any b n cap xs ys hn hs
  obtain ⟨i0, hi, hz0, hz1, hz2⟩ := info_parts infoCurve
  rcases h1 : validC n xs ys with _ | _
  · rw [ch_1 h1]
    rw [h1] at hk
    have Hk := Lib.hid hk; clear hk h1
    go_enter Tryd.func31, Tryd.ntmps31
    go_wp2_with fail
    refine (Hk.out _ hr).mono ?_; rintro e w1 ⟨rfl, hb1⟩
    go_wp2_with fail
    go_ret2
    exact ⟨_, rfl, mine_no (by decide), hb1.alloc hb1.size _⟩
  · rw [h1] at hk
    have Hk := Lib.hid hk; clear hk
    have hp := fun W => l00In_any a 0 100 W
    rcases ha : inB a 0 100 with _ | _
    · rw [Bool.false_and, ch_2 h1]
      rw [ha] at hp
      have Hp := Lib.hid hp; clear hp h1 ha
      go_enter Tryd.func31, Tryd.ntmps31
      go_wp2_with fail
      refine (Hk.out _ hr).mono ?_; rintro e w1 ⟨rfl, hb1⟩
      go_wp2_with fail
      refine (Hp.out _).mono ?_; rintro e w2 ⟨rfl, rfl⟩
      go_wp2_with fail
      go_ret2
      exact ⟨_, rfl, mine_no (by decide), hb1.alloc hb1.size _⟩
    rw [ha] at hp
    have Hp := Lib.hid hp; clear hp
    have hq := fun W => l00In_any d 1 100 W
    rcases hu : inB d 1 100 with _ | _
    · rw [Bool.and_false, ch_2 h1]
      rw [hu] at hq
      have Hq := Lib.hid hq; clear hq h1 hu ha
      go_enter Tryd.func31, Tryd.ntmps31
      go_wp2_with fail
      refine (Hk.out _ hr).mono ?_; rintro e w1 ⟨rfl, hb1⟩
      go_wp2_with fail
      refine (Hp.out _).mono ?_; rintro e w2 ⟨rfl, rfl⟩
      go_wp2_with fail
      refine (Hq.out _).mono ?_; rintro e w2 ⟨rfl, rfl⟩
      go_wp2_with fail
      go_ret2
      exact ⟨_, rfl, mine_no (by decide), hb1.alloc hb1.size _⟩
    rw [hu] at hq
    have Hq := Lib.hid hq; clear hq
    obtain ⟨a0, a1⟩ := inB_true.1 ha
    obtain ⟨d0, d1⟩ := inB_true.1 hu
    obtain ⟨c, hn12⟩ := validC_crv h1
    have hpos := c.pos
    rw [Bool.true_and]
    have hC4 := fun h => ch_4 (F0 := xs) (F1 := strF ys a d) h1 h
    have hC0 := fun h => ch_0 (F0 := xs) (F1 := strF ys a d) h1 h
    have HC4 := Lib.hid hC4; clear hC4
    have HC0 := Lib.hid hC0; clear hC0
    have Hc := Lib.hid c; clear c
    have hd0 : ¬ d = 0 := by omega
    clear h1 ha hu
    go_enter Tryd.func31, Tryd.ntmps31
    go_wp2_with fail
    refine (Hk.out _ hr).mono ?_; rintro e w1 ⟨rfl, hb1⟩
    go_wp2_with fail
    refine (Hp.out _).mono ?_; rintro e w2 ⟨rfl, rfl⟩
    go_wp2_with fail
    refine (Hq.out _).mono ?_; rintro e w2 ⟨rfl, rfl⟩
    have hz1' := hb1.size
    have o1 := World.ownsRow_lit (base := w.heap.size) (e := 46) (size := 2) w1 #[] 0 hz1' (Nat.zero_le _) rfl
    have k1 := hb1.alloc hb1.size (.cells #[] 46)
    go_wp2_with fail
    go_loopw [8, 9] (fun v i wr => ∃ k : Nat, k ≤ n ∧ i = .int .i64 k ∧ wr.ownsRow w.heap.size 46 2 v k (listCurve xs (strF ys a d) k) ∧ scaleB xs (strF ys a d) k = true ∧ Below w.heap.size w wr) (fun _ i _ => n - (intOf i).toNat)
    case atStart => exact ⟨0, Nat.zero_le _, rfl, o1, rfl, k1⟩
    case round =>
      obtain ⟨k, hk, rfl, hown, hsc, hB⟩ := hrel
      have Hsc := Lib.hid hsc; clear hsc
      clear o1 k1
      by_cases hkn : k < n
      · have hrk := hr.below hB hr.lt
        have c0 := hrk.cell0 hkn
        have c1 := hrk.cell1 hkn
        have hsx := Hc.out.scale k hkn
        have hbd := str_bd (Y := ys k) (a := a) d (by omega) (by omega) a0 a1
        have hl2 : listCurve xs (strF ys a d) (k + 1) = listCurve xs (strF ys a d) k ++ [.int .i16 (xs k), .int .i16 ((ys k * a).tdiv d)] := rfl
        have hyes := fun h => scale_more (F0 := xs) (F1 := strF ys a d) (k := k) Hsc.out h
        have hno := fun h => scale_no (F0 := xs) (F1 := strF ys a d) hkn h
        have hpt : ptOk (xs k) (strF ys a d k) = inB ((ys k * a).tdiv d) 0 400 := pt_den hsx.1 hsx.2.1
        rw [hpt] at hyes hno
        have w3 : (k : Int) < n := by omega
        generalize xs k = X at *
        generalize ys k = Y at *
        obtain ⟨P, hP⟩ : ∃ P, Y * a = P := ⟨_, rfl⟩
        rw [hP] at hbd hl2 hyes hno
        obtain ⟨Q, hQ⟩ : ∃ Q, P.tdiv d = Q := ⟨_, rfl⟩
        rw [hQ] at hbd hl2 hyes hno
        obtain ⟨⟨hP0, hP1⟩, hQ0, hQ1⟩ := hbd
        have e2 : IntKind.i64.wrap P = P := IntWalk.i64_in _ (by omega)
        have e3 : IntKind.i64.wrap Q = Q := IntWalk.i64_in _ (by omega)
        have hden := fun W => l02Density_any Q W
        have Hl2 := Lib.hid hl2; clear hl2 hpt
        obtain ⟨hx0, hx1, hy0, hy1⟩ := hsx
        rcases hp : inB Q 0 400 with _ | _
        · rw [hp] at hden
          have HC := Lib.hid (HC4.out (hno hp))
          have Hden := Lib.hid hden; clear hden hyes hno hp
          go_wp2_with fail
          refine (Hden.out _).mono ?_; rintro e w4 ⟨rfl, rfl⟩
          go_wp2_with fail
          go_ret2
          exact ⟨_, ret_two HC.out.symm, by rw [HC.out]; exact mine_no (by decide), hB.alloc hB.size _⟩
        · rw [hp] at hden
          have hq := inB_true.1 hp
          have Hyes := Lib.hid (hyes hp)
          have Hden := Lib.hid hden; clear hden hyes hno hp
          obtain ⟨q0, q1⟩ := hq
          have i2 : IntKind.i16.wrap Q = Q := IntWalk.i16_in _ (by omega)
          have hzr := hB.size
          go_wp2_with fail
          refine (Hden.out _).mono ?_; rintro e w4 ⟨rfl, rfl⟩
          go_wp2_with (at_builtin; refine wpList_append_own _ rfl _ _ 27 rfl w.heap.size 46 i0 (.agg #[.int .i16 0, .int .i16 0]) 2 4 Tryd.underlying27 hi hz0 hz1 hz2 rfl (by decide) _ _ _ rfl (hown.alloc _) ⟨wr.heap.size, 0, none⟩ 1 1 [.int .i16 X, .int .i16 Q] rfl rfl ?c1 ?c2 ?c3 ?c4 ?c5 ?_)
          case c1 =>
            intro j u hj
            match j, hj with
            | 0, hj => simp at hj; subst hj; simp [Addr.add, go_sem]
            | 1, hj => simp at hj; subst hj; simp [Addr.add, go_sem]
            | j + 2, hj => simp at hj
          case c2 => intro u hu; simp at hu; rcases hu with rfl | rfl <;> rfl
          case c3 => unfold maxLen; omega
          case c4 => omega
          case c5 => simp; omega
          intro v' w5 hown2 hg2 _
          have hB5 : Below w.heap.size w w5 := (hB.alloc hB.size _).grown hg2 (by simp; omega) (fun x hx => (hown.lt x hx).1)
          have hown5 : w5.ownsRow w.heap.size 46 2 v' (k + 1) (listCurve xs (strF ys a d) (k + 1)) := by rw [Hl2.out]; exact hown2
          clear hown2 hg2 hown hB hrk
          go_wp2_with fail
          go_roundw
          case rel => exact ⟨k + 1, by omega, by go_num, hown5, Hyes.out, hB5⟩
          case measure => simp [intOf]; omega
      · have e : k = n := by omega
        subst e
        have HC := Lib.hid (HC0.out Hsc.out)
        go_wp2_with fail
        go_ret2
        exact ⟨_, ret_two HC.out.symm, by rw [HC.out, if_pos rfl]; exact Mine.of_listCurve hown, hB⟩

set_option maxRecDepth 100000 in
set_option maxHeartbeats 2000000 in
theorem changed_StretchCurve (s : Ers) (b n cap : Nat) (xs ys : Nat → Int) (fits : Bool) (F0 F1 : Nat → Int) (p : Nat) (q : Nat) (hn : n ≤ 1048576) (hs : SmallP n xs ys) (w : World) (hr : PtRow w b n xs ys) (hE : ErrEnv s w)
    (hch : fits = true → Crv n xs ys → ∀ k, k < n → ∀ W, Below w.heap.size w W → Calls Tryd.prog 59 #[.int .i64 (xs k), .int .i64 (ys k), .pointer (some ⟨p, 0, none⟩), .pointer (some ⟨q, 0, none⟩)] W fun e w' => e = .returned (.tuple #[.int .i64 (F0 k), .int .i64 (F1 k)]) ∧ Below W.heap.size W w') :
    Calls Tryd.prog 52 #[.slice (some ⟨b, 0, none⟩) n cap, .bool fits, .func (.func 59) #[] #[.pointer (some ⟨p, 0, none⟩), .pointer (some ⟨q, 0, none⟩)]] w (CrvErr s (chC n xs ys fits F0 F1) F0 F1 n w) := by
  have hk := ValidCurve_any b n cap xs ys hn hs
  obtain ⟨i0, hi, hz0, hz1, hz2⟩ := info_parts infoCurve
  rcases h1 : validC n xs ys with _ | _
  · rw [ch_1 h1]
    rw [h1] at hk
    have Hk := Lib.hid hk; clear hk h1 hch
    go_enter Tryd.func52, Tryd.ntmps52
    go_wp2_with fail
    refine (Hk.out _ hr).mono ?_; rintro e w1 ⟨rfl, hb1⟩
    have ce := (hE.below hb1 (Nat.le_refl _)).c_einvalid
    go_wp2_with fail
    go_quiet (fail)
    go_wp2
    go_ret2
    exact ⟨_, _, rfl, .einvalid, mine_no (by decide), below_drewL hb1 _⟩
  · rw [h1] at hk
    have Hk := Lib.hid hk; clear hk
    cases fits
    · rw [ch_2 h1]
      clear h1 hch
      go_enter Tryd.func52, Tryd.ntmps52
      go_wp2_with fail
      refine (Hk.out _ hr).mono ?_; rintro e w1 ⟨rfl, hb1⟩
      have ce := (hE.below hb1 (Nat.le_refl _)).c_erange
      go_wp2_with fail
      go_quiet (fail)
      go_wp2
      go_ret2
      exact ⟨_, _, rfl, .erange, mine_no (by decide), below_drewL hb1 _⟩
    obtain ⟨c, hn12⟩ := validC_crv h1
    have hpos := c.pos
    have hC4 := fun h => ch_4 (F0 := F0) (F1 := F1) h1 h
    have hC0 := fun h => ch_0 (F0 := F0) (F1 := F1) h1 h
    have hmk : ∀ W, (Instr.makeSlice 27 (.int .i64 0) (.int .i64 (n : Int))).run Tryd.prog W = .ok (.slice (some ⟨W.heap.size, 0, none⟩) 0 n) (W.alloc (.cells (madeCells #[.int .i16 0, .int .i16 0] (n * 2)) 46)) := fun W => by
      have h := run_make_rowL (P := Tryd.prog) 27 46 i0 _ Tryd.underlying27 hi hz0 .i64 .i64 0 n (Nat.zero_le _) (by rw [hz2]; omega) (by omega) W
      rw [hz1] at h
      exact h
    have hsz0 := hch rfl c
    have Hch := Lib.hid hsz0; clear hsz0 hch
    have HC4 := Lib.hid hC4; clear hC4
    have HC0 := Lib.hid hC0; clear hC0
    have Hc := Lib.hid c; clear c h1
    go_enter Tryd.func52, Tryd.ntmps52
    go_wp2_with fail
    refine (Hk.out _ hr).mono ?_; rintro e w1 ⟨rfl, hb1⟩
    have o1 := own_make w1 w.heap.size n hb1.size (by unfold maxLen; omega)
    have k1 := hb1.alloc hb1.size (.cells (madeCells #[.int .i16 0, .int .i16 0] (n * 2)) 46)
    go_wp2_with fail
    clear hmk
    go_loopw [8, 25] (fun v i wr => ∃ k : Nat, k ≤ n ∧ i = .int .i64 k ∧ wr.ownsRow w.heap.size 46 2 v k (listCurve F0 F1 k) ∧ scaleB F0 F1 k = true ∧ Below w.heap.size w wr) (fun _ i _ => n - (intOf i).toNat)
    case atStart => exact ⟨0, Nat.zero_le _, rfl, o1, rfl, k1⟩
    case round =>
      obtain ⟨k, hk, rfl, hown, hsc, hB⟩ := hrel
      have Hsc := Lib.hid hsc; clear hsc
      clear o1 k1
      by_cases hkn : k < n
      · have hrk := hr.below hB hr.lt
        have c0 := hrk.cell0 hkn
        have c1 := hrk.cell1 hkn
        have hq := fun W h => Hch.out k hkn W h
        have hpt := fun W => isPoint_any (F0 k) (F1 k) W
        have hl2 : listCurve F0 F1 (k + 1) = listCurve F0 F1 k ++ [.int .i16 (F0 k), .int .i16 (F1 k)] := rfl
        have hyes := fun h => scale_more (k := k) Hsc.out h
        have hno := fun h => scale_no (F0 := F0) (F1 := F1) hkn h
        have hbd := fun h => (ptOk_iff (x := F0 k) (y := F1 k)).1 h
        have hBa : Below w.heap.size w (wr.alloc (.cells #[.int .i16 (xs k), .int .i16 (ys k)] 46)) := hB.alloc hB.size _
        have w3 : (k : Int) < n := by omega
        have hsx := Hc.out.scale k hkn
        generalize xs k = X at *
        generalize ys k = Y at *
        obtain ⟨hx0, hx1, hy0, hy1⟩ := hsx
        rcases hp : ptOk (F0 k) (F1 k) with _ | _
        · rw [hp] at hpt
          have HC := Lib.hid (HC4.out (hno hp))
          generalize F0 k = U at hq hpt
          generalize F1 k = V at hq hpt
          have Hq := Lib.hid hq; clear hq
          have Hpt := Lib.hid hpt; clear hpt hyes hno hbd hl2 hp
          go_wp2_with fail
          refine (Hq.out _ hBa).mono ?_; rintro e w3 ⟨rfl, hb3⟩
          have hB3 := hBa.trans (hb3.mono hBa.size)
          have ce := (hE.below hB3 (Nat.le_refl _)).c_estate
          go_wp2_with fail
          refine (Hpt.out _).mono ?_; rintro e w4 ⟨rfl, rfl⟩
          go_wp2_with fail
          go_quiet (fail)
          go_wp2
          go_ret2
          exact ⟨_, _, rfl, by rw [HC.out]; exact .estate, by rw [HC.out]; exact mine_no (by decide), below_drewL hB3 _⟩
        · rw [hp] at hpt
          have hbd := hbd hp
          have Hyes := Lib.hid (hyes hp)
          clear hyes hno hp
          generalize F0 k = U at hq hpt hl2 hbd
          generalize F1 k = V at hq hpt hl2 hbd
          have i1 : IntKind.i16.wrap U = U := IntWalk.i16_in _ (by omega)
          have i2 : IntKind.i16.wrap V = V := IntWalk.i16_in _ (by omega)
          have Hq := Lib.hid hq; clear hq
          have Hpt := Lib.hid hpt; clear hpt
          have Hl2 := Lib.hid hl2; clear hl2
          go_wp2_with fail
          refine (Hq.out _ hBa).mono ?_; rintro e w3 ⟨rfl, hb3⟩
          have o3 := own_belowM (hown.alloc (.cells #[.int .i16 X, .int .i16 Y] 46)) hb3
          have hB3 := hBa.trans (hb3.mono hBa.size)
          have hz3 := hB3.size
          clear hB hb3 hBa hown hrk
          go_wp2_with fail
          refine (Hpt.out _).mono ?_; rintro e w4 ⟨rfl, rfl⟩
          go_wp2_with (at_builtin; refine wpList_append_own _ rfl _ _ 27 rfl w.heap.size 46 i0 (.agg #[.int .i16 0, .int .i16 0]) 2 4 Tryd.underlying27 hi hz0 hz1 hz2 rfl (by decide) _ _ _ rfl (o3.alloc _) ⟨w3.heap.size, 0, none⟩ 1 1 [.int .i16 U, .int .i16 V] rfl rfl ?c1 ?c2 ?c3 ?c4 ?c5 ?_)
          case c1 =>
            intro j u hj
            match j, hj with
            | 0, hj => simp at hj; subst hj; simp [Addr.add, go_sem]
            | 1, hj => simp at hj; subst hj; simp [Addr.add, go_sem]
            | j + 2, hj => simp at hj
          case c2 => intro u hu; simp at hu; rcases hu with rfl | rfl <;> rfl
          case c3 => unfold maxLen; omega
          case c4 => omega
          case c5 => simp; omega
          intro v' w5 hown2 hg2 _
          have hB5 : Below w.heap.size w w5 := (hB3.alloc hB3.size _).grown hg2 (by simp; omega) (fun x hx => (o3.lt x hx).1)
          have hown5 : w5.ownsRow w.heap.size 46 2 v' (k + 1) (listCurve F0 F1 (k + 1)) := by rw [Hl2.out]; exact hown2
          clear hown2 hg2 o3 hB3
          go_wp2_with fail
          go_roundw
          case rel => exact ⟨k + 1, by omega, by go_num, hown5, Hyes.out, hB5⟩
          case measure => simp [intOf]; omega
      · have e : k = n := by omega
        subst e
        have HC := Lib.hid (HC0.out Hsc.out)
        go_wp2_with fail
        go_ret2
        exact ⟨_, _, rfl, by rw [HC.out]; exact .ok, by rw [HC.out, if_pos rfl]; exact Mine.of_listCurve hown, hB⟩

theorem clos_StretchCurve (p q : Nat) (a d X Y : Int) (hX : -200 ≤ X) (hX' : X ≤ 200) (hY : 0 ≤ Y) (hY' : Y ≤ 400) (ha : 0 ≤ a) (ha' : a ≤ 100) (hd : 1 ≤ d) (hd' : d ≤ 100) (w : World) (hp : w.cell? ⟨p, 0, none⟩ = some (.int .i64 a)) (hq : w.cell? ⟨q, 0, none⟩ = some (.int .i64 d)) :
    Calls Tryd.prog 59 #[.int .i64 X, .int .i64 Y, .pointer (some ⟨p, 0, none⟩), .pointer (some ⟨q, 0, none⟩)] w fun e w' => e = .returned (.tuple #[.int .i64 X, .int .i64 ((Y * a).tdiv d)]) ∧ Below w.heap.size w w' := by
  have hbd := str_bd (Y := Y) (a := a) d (by omega) (by omega) ha ha'
  obtain ⟨P, hP⟩ : ∃ P, Y * a = P := ⟨_, rfl⟩
  rw [hP] at hbd ⊢
  obtain ⟨Q, hQ⟩ : ∃ Q, P.tdiv d = Q := ⟨_, rfl⟩
  rw [hQ] at hbd ⊢
  obtain ⟨⟨hP0, hP1⟩, hQ0, hQ1⟩ := hbd
  have e2 : IntKind.i64.wrap P = P := IntWalk.i64_in _ (by omega)
  have e3 : IntKind.i64.wrap Q = Q := IntWalk.i64_in _ (by omega)
  have hd0 : ¬ d = 0 := by omega
  go_enter Tryd.func59, Tryd.ntmps59
  go_wp2_with fail
  go_quiet (fail)
  go_wp2
  go_ret2
  exact ⟨rfl, below_drewL (Below.refl _ _) _⟩
set_option maxHeartbeats 1000000 in
theorem StretchCurve_any (s : Ers) (b n cap : Nat) (xs ys : Nat → Int) (a d : Int) (hn : n ≤ 1048576) (hs : SmallP n xs ys) (w : World) (hr : PtRow w b n xs ys) (hE : ErrEnv s w) :
    Calls Tryd.prog 32 #[.slice (some ⟨b, 0, none⟩) n cap, .int .i64 a, .int .i64 d] w (CrvCode (chC n xs ys (inB a 0 100 && inB d 1 100) xs (strF ys a d)) xs (strF ys a d) n w) := by
  have k0 : Below w.heap.size w ((w.alloc (.cells #[.int .i64 a] 2)).alloc (.cells #[.int .i64 d] 2)) := ((Below.refl _ _).alloc (Nat.le_refl _) _).alloc (by simp) _
  have hk := changed_StretchCurve s b n cap xs ys (inB a 0 100 && inB d 1 100) xs (strF ys a d) w.heap.size (w.heap.size + 1) hn hs _ (hr.below k0 hr.lt) (hE.below k0 (Nat.le_refl _)) (fun hf c k hk W hW => by
    have hsc := c.scale k hk
    rw [Bool.and_eq_true] at hf
    have ha := inB_true.1 hf.1
    have hd := inB_true.1 hf.2
    exact clos_StretchCurve w.heap.size (w.heap.size + 1) a d (xs k) (ys k) (by omega) (by omega) (by omega) (by omega) ha.1 ha.2 hd.1 hd.2 W (by rw [hW.cell (p := ⟨w.heap.size, 0, none⟩) (by simp; omega)]; simp) (by rw [hW.cell (p := ⟨w.heap.size + 1, 0, none⟩) (by simp)]; simp))
  have h1 := fun W => inRange_any a 0 100 W
  have h2 := fun W => inRange_any d 1 100 W
  generalize chC n xs ys (inB a 0 100 && inB d 1 100) xs (strF ys a d) = C at hk ⊢
  generalize strF ys a d = F1 at hk ⊢
  rcases ha : inB a 0 100 with _ | _
  · rw [ha] at h1
    rw [ha, Bool.false_and] at hk
    have Hk := Lib.hid hk; clear hk
    have H1 := Lib.hid h1; clear h1 h2
    go_enter Tryd.func32, Tryd.ntmps32
    go_wp2_with fail
    refine (H1.out _).mono ?_; rintro e w1 ⟨rfl, rfl⟩
    go_wp2_with fail
    refine Hk.out.mono ?_; rintro e w2 ⟨v, ev, rfl, hv, hmn, hb2⟩
    have k2 := k0.trans (hb2.mono k0.size)
    go_wp2_with fail
    refine (codedCurve_any hv _ _ (hE.below k2 (Nat.le_refl _))).mono ?_; rintro e w3 ⟨rfl, rfl⟩
    go_wp2_with fail
    go_ret2
    exact ⟨_, rfl, hmn.mono (by simp; omega) (Nat.le_refl _), k2⟩
  · rw [ha] at h1
    rw [ha, Bool.true_and] at hk
    generalize inB d 1 100 = B at hk h2
    have Hk := Lib.hid hk; clear hk
    have H1 := Lib.hid h1; clear h1
    have H2 := Lib.hid h2; clear h2
    go_enter Tryd.func32, Tryd.ntmps32
    go_wp2_with fail
    refine (H1.out _).mono ?_; rintro e w1 ⟨rfl, rfl⟩
    go_wp2_with fail
    refine (H2.out _).mono ?_; rintro e w1 ⟨rfl, rfl⟩
    go_wp2_with fail
    refine Hk.out.mono ?_; rintro e w2 ⟨v, ev, rfl, hv, hmn, hb2⟩
    have k2 := k0.trans (hb2.mono k0.size)
    go_wp2_with fail
    refine (codedCurve_any hv _ _ (hE.below k2 (Nat.le_refl _))).mono ?_; rintro e w3 ⟨rfl, rfl⟩
    go_wp2_with fail
    go_ret2
    exact ⟨_, rfl, hmn.mono (by simp; omega) (Nat.le_refl _), k2⟩
end Go.Proofs.YtpombpphicmhmaaDoor

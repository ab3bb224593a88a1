/-
  A curve whose points are moved, by the program. Condition: its variables hold their own errors; at most 1048576 points.
-/
import Derived.Test.YtpombpphicmhmaaDoorMoved
import Derived.Test.YtpombpphicmhmaaDoorPlainAt
import Derived.Test.YtpombpphicmhmaaDoorErrs
namespace Go.Proofs.YtpombpphicmhmaaDoor
open Go.RowKit

/-- A new list of points with an error. -/
def CrvErr (s : Ers) (C : Int) (F0 F1 : Nat → Int) (n : Nat) (w : World) (e : Ending) (w' : World) : Prop :=
  ∃ v ev, e = .returned (.tuple #[v, ev]) ∧ IsCode s ev C ∧ Mine w' w.heap.size w'.heap.size 46 2 v (if C = 0 then n else 0) (cellCurve F0 F1) ∧ Below w.heap.size w w'
theorem codedCurve_any {s : Ers} {v : Value} {c : Int} (h : IsCode s v c) (x : Value) (w : World) (hE : ErrEnv s w) :
    Calls Tryd.prog 51 #[x, v] w fun e w' => e = .returned (.tuple #[x, .int .i64 c]) ∧ w = w' := by
  go_enter Tryd.func51, Tryd.ntmps51
  go_wp2_with fail
  refine (codeOf_any h _ hE).mono ?_; rintro e w1 ⟨rfl, rfl⟩
  go_wp2_with fail
  go_ret2
  exact ⟨rfl, rfl⟩
theorem isMove_any (a : Int) (w : World) : Calls Tryd.prog 53 #[.int .i64 a] w fun e w' => e = .returned (.bool (inB a (-400) 400)) ∧ w = w' := by
  have hp := fun W => inRange_any a (-400) 400 W
  have Hp := Lib.hid hp; clear hp
  go_enter Tryd.func53, Tryd.ntmps53
  go_wp2_with fail
  refine (Hp.out _).mono ?_; rintro e w1 ⟨rfl, rfl⟩
  go_wp2_with fail
  go_ret
  exact ⟨rfl, rfl⟩
theorem own_make (w1 : World) (L n : Nat) (hL : L ≤ w1.heap.size) (hn : n ≤ maxLen) : (w1.alloc (.cells (madeCells #[.int .i16 0, .int .i16 0] (n * 2)) 46)).ownsRow L 46 2 (.slice (some ⟨w1.heap.size, 0, none⟩) 0 n) 0 [] :=
  ⟨by simp, .inr ⟨w1.heap.size, n, madeCells #[.int .i16 0, .int .i16 0] (n * 2), rfl, hL, World.alloc_heap_new w1 _, Nat.zero_le _, hn, size_madeCells _ _, by simp⟩⟩

set_option maxRecDepth 100000 in
set_option maxHeartbeats 2000000 in
theorem changed_ShiftCurve (s : Ers) (b n cap : Nat) (xs ys : Nat → Int) (fits : Bool) (F0 F1 : Nat → Int) (p : Nat) (hn : n ≤ 1048576) (hs : SmallP n xs ys) (w : World) (hr : PtRow w b n xs ys) (hE : ErrEnv s w)
    (hch : fits = true → Crv n xs ys → ∀ k, k < n → ∀ W, Below w.heap.size w W → Calls Tryd.prog 54 #[.int .i64 (xs k), .int .i64 (ys k), .pointer (some ⟨p, 0, none⟩)] W fun e w' => e = .returned (.tuple #[.int .i64 (F0 k), .int .i64 (F1 k)]) ∧ Below W.heap.size W w') :
    Calls Tryd.prog 52 #[.slice (some ⟨b, 0, none⟩) n cap, .bool fits, .func (.func 54) #[] #[.pointer (some ⟨p, 0, none⟩)]] w (CrvErr s (chC n xs ys fits F0 F1) F0 F1 n w) := by
  have hk := ValidCurve_any b n cap xs ys hn hs
  obtain ⟨i0, hi, hz0, hz1, hz2⟩ := info_parts infoCurve
  rcases h1 : validC n xs ys with _ | _
  · rw [ch_1 h1]
    rw [h1] at hk
    have Hk := Lib.hid hk; clear hk h1 hch
    go_enter Tryd.func52, Tryd.ntmps52
    go_wp2_with fail
    refine (Hk.out _ hr).mono ?_; rintro e w1 ⟨rfl, hb1⟩
    have ce := (hE.below hb1 (Nat.le_refl _)).c_einvalid
    go_wp2_with fail
    go_quiet (fail)
    go_wp2
    go_ret2
    exact ⟨_, _, rfl, .einvalid, mine_no (by decide), below_drewL hb1 _⟩
  · rw [h1] at hk
    have Hk := Lib.hid hk; clear hk
    cases fits
    · rw [ch_2 h1]
      clear h1 hch
      go_enter Tryd.func52, Tryd.ntmps52
      go_wp2_with fail
      refine (Hk.out _ hr).mono ?_; rintro e w1 ⟨rfl, hb1⟩
      have ce := (hE.below hb1 (Nat.le_refl _)).c_erange
      go_wp2_with fail
      go_quiet (fail)
      go_wp2
      go_ret2
      exact ⟨_, _, rfl, .erange, mine_no (by decide), below_drewL hb1 _⟩
    obtain ⟨c, hn12⟩ := validC_crv h1
    have hpos := c.pos
    have hC4 := fun h => ch_4 (F0 := F0) (F1 := F1) h1 h
    have hC0 := fun h => ch_0 (F0 := F0) (F1 := F1) h1 h
    have hmk : ∀ W, (Instr.makeSlice 27 (.int .i64 0) (.int .i64 (n : Int))).run Tryd.prog W = .ok (.slice (some ⟨W.heap.size, 0, none⟩) 0 n) (W.alloc (.cells (madeCells #[.int .i16 0, .int .i16 0] (n * 2)) 46)) := fun W => by
      have h := run_make_rowL (P := Tryd.prog) 27 46 i0 _ Tryd.underlying27 hi hz0 .i64 .i64 0 n (Nat.zero_le _) (by rw [hz2]; omega) (by omega) W
      rw [hz1] at h
      exact h
    have hsz0 := hch rfl c
    have Hch := Lib.hid hsz0; clear hsz0 hch
    have HC4 := Lib.hid hC4; clear hC4
    have HC0 := Lib.hid hC0; clear hC0
    have Hc := Lib.hid c; clear c h1
    go_enter Tryd.func52, Tryd.ntmps52
    go_wp2_with fail
    refine (Hk.out _ hr).mono ?_; rintro e w1 ⟨rfl, hb1⟩
    have o1 := own_make w1 w.heap.size n hb1.size (by unfold maxLen; omega)
    have k1 := hb1.alloc hb1.size (.cells (madeCells #[.int .i16 0, .int .i16 0] (n * 2)) 46)
    go_wp2_with fail
    clear hmk
    go_loopw [8, 25] (fun v i wr => ∃ k : Nat, k ≤ n ∧ i = .int .i64 k ∧ wr.ownsRow w.heap.size 46 2 v k (listCurve F0 F1 k) ∧ scaleB F0 F1 k = true ∧ Below w.heap.size w wr) (fun _ i _ => n - (intOf i).toNat)
    case atStart => exact ⟨0, Nat.zero_le _, rfl, o1, rfl, k1⟩
    case round =>
      obtain ⟨k, hk, rfl, hown, hsc, hB⟩ := hrel
      have Hsc := Lib.hid hsc; clear hsc
      clear o1 k1
      by_cases hkn : k < n
      · have hrk := hr.below hB hr.lt
        have c0 := hrk.cell0 hkn
        have c1 := hrk.cell1 hkn
        have hq := fun W h => Hch.out k hkn W h
        have hpt := fun W => isPoint_any (F0 k) (F1 k) W
        have hl2 : listCurve F0 F1 (k + 1) = listCurve F0 F1 k ++ [.int .i16 (F0 k), .int .i16 (F1 k)] := rfl
        have hyes := fun h => scale_more (k := k) Hsc.out h
        have hno := fun h => scale_no (F0 := F0) (F1 := F1) hkn h
        have hbd := fun h => (ptOk_iff (x := F0 k) (y := F1 k)).1 h
        have hBa : Below w.heap.size w (wr.alloc (.cells #[.int .i16 (xs k), .int .i16 (ys k)] 46)) := hB.alloc hB.size _
        have w3 : (k : Int) < n := by omega
        have hsx := Hc.out.scale k hkn
        generalize xs k = X at *
        generalize ys k = Y at *
        obtain ⟨hx0, hx1, hy0, hy1⟩ := hsx
        rcases hp : ptOk (F0 k) (F1 k) with _ | _
        · rw [hp] at hpt
          have HC := Lib.hid (HC4.out (hno hp))
          generalize F0 k = U at hq hpt
          generalize F1 k = V at hq hpt
          have Hq := Lib.hid hq; clear hq
          have Hpt := Lib.hid hpt; clear hpt hyes hno hbd hl2 hp
          go_wp2_with fail
          refine (Hq.out _ hBa).mono ?_; rintro e w3 ⟨rfl, hb3⟩
          have hB3 := hBa.trans (hb3.mono hBa.size)
          have ce := (hE.below hB3 (Nat.le_refl _)).c_estate
          go_wp2_with fail
          refine (Hpt.out _).mono ?_; rintro e w4 ⟨rfl, rfl⟩
          go_wp2_with fail
          go_quiet (fail)
          go_wp2
          go_ret2
          exact ⟨_, _, rfl, by rw [HC.out]; exact .estate, by rw [HC.out]; exact mine_no (by decide), below_drewL hB3 _⟩
        · rw [hp] at hpt
          have hbd := hbd hp
          have Hyes := Lib.hid (hyes hp)
          clear hyes hno hp
          generalize F0 k = U at hq hpt hl2 hbd
          generalize F1 k = V at hq hpt hl2 hbd
          have i1 : IntKind.i16.wrap U = U := IntWalk.i16_in _ (by omega)
          have i2 : IntKind.i16.wrap V = V := IntWalk.i16_in _ (by omega)
          have Hq := Lib.hid hq; clear hq
          have Hpt := Lib.hid hpt; clear hpt
          have Hl2 := Lib.hid hl2; clear hl2
          go_wp2_with fail
          refine (Hq.out _ hBa).mono ?_; rintro e w3 ⟨rfl, hb3⟩
          have o3 := own_belowM (hown.alloc (.cells #[.int .i16 X, .int .i16 Y] 46)) hb3
          have hB3 := hBa.trans (hb3.mono hBa.size)
          have hz3 := hB3.size
          clear hB hb3 hBa hown hrk
          go_wp2_with fail
          refine (Hpt.out _).mono ?_; rintro e w4 ⟨rfl, rfl⟩
          go_wp2_with (at_builtin; refine wpList_append_own _ rfl _ _ 27 rfl w.heap.size 46 i0 (.agg #[.int .i16 0, .int .i16 0]) 2 4 Tryd.underlying27 hi hz0 hz1 hz2 rfl (by decide) _ _ _ rfl (o3.alloc _) ⟨w3.heap.size, 0, none⟩ 1 1 [.int .i16 U, .int .i16 V] rfl rfl ?c1 ?c2 ?c3 ?c4 ?c5 ?_)
          case c1 =>
            intro j u hj
            match j, hj with
            | 0, hj => simp at hj; subst hj; simp [Addr.add, go_sem]
            | 1, hj => simp at hj; subst hj; simp [Addr.add, go_sem]
            | j + 2, hj => simp at hj
          case c2 => intro u hu; simp at hu; rcases hu with rfl | rfl <;> rfl
          case c3 => unfold maxLen; omega
          case c4 => omega
          case c5 => simp; omega
          intro v' w5 hown2 hg2 _
          have hB5 : Below w.heap.size w w5 := (hB3.alloc hB3.size _).grown hg2 (by simp; omega) (fun x hx => (o3.lt x hx).1)
          have hown5 : w5.ownsRow w.heap.size 46 2 v' (k + 1) (listCurve F0 F1 (k + 1)) := by rw [Hl2.out]; exact hown2
          clear hown2 hg2 o3 hB3
          go_wp2_with fail
          go_roundw
          case rel => exact ⟨k + 1, by omega, by go_num, hown5, Hyes.out, hB5⟩
          case measure => simp [intOf]; omega
      · have e : k = n := by omega
        subst e
        have HC := Lib.hid (HC0.out Hsc.out)
        go_wp2_with fail
        go_ret2
        exact ⟨_, _, rfl, by rw [HC.out]; exact .ok, by rw [HC.out, if_pos rfl]; exact Mine.of_listCurve hown, hB⟩

set_option maxRecDepth 100000 in
set_option maxHeartbeats 2000000 in
theorem changed_LiftCurve (s : Ers) (b n cap : Nat) (xs ys : Nat → Int) (fits : Bool) (F0 F1 : Nat → Int) (p : Nat) (hn : n ≤ 1048576) (hs : SmallP n xs ys) (w : World) (hr : PtRow w b n xs ys) (hE : ErrEnv s w)
    (hch : fits = true → Crv n xs ys → ∀ k, k < n → ∀ W, Below w.heap.size w W → Calls Tryd.prog 55 #[.int .i64 (xs k), .int .i64 (ys k), .pointer (some ⟨p, 0, none⟩)] W fun e w' => e = .returned (.tuple #[.int .i64 (F0 k), .int .i64 (F1 k)]) ∧ Below W.heap.size W w') :
    Calls Tryd.prog 52 #[.slice (some ⟨b, 0, none⟩) n cap, .bool fits, .func (.func 55) #[] #[.pointer (some ⟨p, 0, none⟩)]] w (CrvErr s (chC n xs ys fits F0 F1) F0 F1 n w) := by
  have hk := ValidCurve_any b n cap xs ys hn hs
  obtain ⟨i0, hi, hz0, hz1, hz2⟩ := info_parts infoCurve
  rcases h1 : validC n xs ys with _ | _
  · rw [ch_1 h1]
    rw [h1] at hk
    have Hk := Lib.hid hk; clear hk h1 hch
    go_enter Tryd.func52, Tryd.ntmps52
    go_wp2_with fail
    refine (Hk.out _ hr).mono ?_; rintro e w1 ⟨rfl, hb1⟩
    have ce := (hE.below hb1 (Nat.le_refl _)).c_einvalid
    go_wp2_with fail
    go_quiet (fail)
    go_wp2
    go_ret2
    exact ⟨_, _, rfl, .einvalid, mine_no (by decide), below_drewL hb1 _⟩
  · rw [h1] at hk
    have Hk := Lib.hid hk; clear hk
    cases fits
    · rw [ch_2 h1]
      clear h1 hch
      go_enter Tryd.func52, Tryd.ntmps52
      go_wp2_with fail
      refine (Hk.out _ hr).mono ?_; rintro e w1 ⟨rfl, hb1⟩
      have ce := (hE.below hb1 (Nat.le_refl _)).c_erange
      go_wp2_with fail
      go_quiet (fail)
      go_wp2
      go_ret2
      exact ⟨_, _, rfl, .erange, mine_no (by decide), below_drewL hb1 _⟩
    obtain ⟨c, hn12⟩ := validC_crv h1
    have hpos := c.pos
    have hC4 := fun h => ch_4 (F0 := F0) (F1 := F1) h1 h
    have hC0 := fun h => ch_0 (F0 := F0) (F1 := F1) h1 h
    have hmk : ∀ W, (Instr.makeSlice 27 (.int .i64 0) (.int .i64 (n : Int))).run Tryd.prog W = .ok (.slice (some ⟨W.heap.size, 0, none⟩) 0 n) (W.alloc (.cells (madeCells #[.int .i16 0, .int .i16 0] (n * 2)) 46)) := fun W => by
      have h := run_make_rowL (P := Tryd.prog) 27 46 i0 _ Tryd.underlying27 hi hz0 .i64 .i64 0 n (Nat.zero_le _) (by rw [hz2]; omega) (by omega) W
      rw [hz1] at h
      exact h
    have hsz0 := hch rfl c
    have Hch := Lib.hid hsz0; clear hsz0 hch
    have HC4 := Lib.hid hC4; clear hC4
    have HC0 := Lib.hid hC0; clear hC0
    have Hc := Lib.hid c; clear c h1
    go_enter Tryd.func52, Tryd.ntmps52
    go_wp2_with fail
    refine (Hk.out _ hr).mono ?_; rintro e w1 ⟨rfl, hb1⟩
    have o1 := own_make w1 w.heap.size n hb1.size (by unfold maxLen; omega)
    have k1 := hb1.alloc hb1.size (.cells (madeCells #[.int .i16 0, .int .i16 0] (n * 2)) 46)
    go_wp2_with fail
    clear hmk
    go_loopw [8, 25] (fun v i wr => ∃ k : Nat, k ≤ n ∧ i = .int .i64 k ∧ wr.ownsRow w.heap.size 46 2 v k (listCurve F0 F1 k) ∧ scaleB F0 F1 k = true ∧ Below w.heap.size w wr) (fun _ i _ => n - (intOf i).toNat)
    case atStart => exact ⟨0, Nat.zero_le _, rfl, o1, rfl, k1⟩
    case round =>
      obtain ⟨k, hk, rfl, hown, hsc, hB⟩ := hrel
      have Hsc := Lib.hid hsc; clear hsc
      clear o1 k1
      by_cases hkn : k < n
      · have hrk := hr.below hB hr.lt
        have c0 := hrk.cell0 hkn
        have c1 := hrk.cell1 hkn
        have hq := fun W h => Hch.out k hkn W h
        have hpt := fun W => isPoint_any (F0 k) (F1 k) W
        have hl2 : listCurve F0 F1 (k + 1) = listCurve F0 F1 k ++ [.int .i16 (F0 k), .int .i16 (F1 k)] := rfl
        have hyes := fun h => scale_more (k := k) Hsc.out h
        have hno := fun h => scale_no (F0 := F0) (F1 := F1) hkn h
        have hbd := fun h => (ptOk_iff (x := F0 k) (y := F1 k)).1 h
        have hBa : Below w.heap.size w (wr.alloc (.cells #[.int .i16 (xs k), .int .i16 (ys k)] 46)) := hB.alloc hB.size _
        have w3 : (k : Int) < n := by omega
        have hsx := Hc.out.scale k hkn
        generalize xs k = X at *
        generalize ys k = Y at *
        obtain ⟨hx0, hx1, hy0, hy1⟩ := hsx
        rcases hp : ptOk (F0 k) (F1 k) with _ | _
        · rw [hp] at hpt
          have HC := Lib.hid (HC4.out (hno hp))
          generalize F0 k = U at hq hpt
          generalize F1 k = V at hq hpt
          have Hq := Lib.hid hq; clear hq
          have Hpt := Lib.hid hpt; clear hpt hyes hno hbd hl2 hp
          go_wp2_with fail
          refine (Hq.out _ hBa).mono ?_; rintro e w3 ⟨rfl, hb3⟩
          have hB3 := hBa.trans (hb3.mono hBa.size)
          have ce := (hE.below hB3 (Nat.le_refl _)).c_estate
          go_wp2_with fail
          refine (Hpt.out _).mono ?_; rintro e w4 ⟨rfl, rfl⟩
          go_wp2_with fail
          go_quiet (fail)
          go_wp2
          go_ret2
          exact ⟨_, _, rfl, by rw [HC.out]; exact .estate, by rw [HC.out]; exact mine_no (by decide), below_drewL hB3 _⟩
        · rw [hp] at hpt
          have hbd := hbd hp
          have Hyes := Lib.hid (hyes hp)
          clear hyes hno hp
          generalize F0 k = U at hq hpt hl2 hbd
          generalize F1 k = V at hq hpt hl2 hbd
          have i1 : IntKind.i16.wrap U = U := IntWalk.i16_in _ (by omega)
          have i2 : IntKind.i16.wrap V = V := IntWalk.i16_in _ (by omega)
          have Hq := Lib.hid hq; clear hq
          have Hpt := Lib.hid hpt; clear hpt
          have Hl2 := Lib.hid hl2; clear hl2
          go_wp2_with fail
          refine (Hq.out _ hBa).mono ?_; rintro e w3 ⟨rfl, hb3⟩
          have o3 := own_belowM (hown.alloc (.cells #[.int .i16 X, .int .i16 Y] 46)) hb3
          have hB3 := hBa.trans (hb3.mono hBa.size)
          have hz3 := hB3.size
          clear hB hb3 hBa hown hrk
          go_wp2_with fail
          refine (Hpt.out _).mono ?_; rintro e w4 ⟨rfl, rfl⟩
          go_wp2_with (at_builtin; refine wpList_append_own _ rfl _ _ 27 rfl w.heap.size 46 i0 (.agg #[.int .i16 0, .int .i16 0]) 2 4 Tryd.underlying27 hi hz0 hz1 hz2 rfl (by decide) _ _ _ rfl (o3.alloc _) ⟨w3.heap.size, 0, none⟩ 1 1 [.int .i16 U, .int .i16 V] rfl rfl ?c1 ?c2 ?c3 ?c4 ?c5 ?_)
          case c1 =>
            intro j u hj
            match j, hj with
            | 0, hj => simp at hj; subst hj; simp [Addr.add, go_sem]
            | 1, hj => simp at hj; subst hj; simp [Addr.add, go_sem]
            | j + 2, hj => simp at hj
          case c2 => intro u hu; simp at hu; rcases hu with rfl | rfl <;> rfl
          case c3 => unfold maxLen; omega
          case c4 => omega
          case c5 => simp; omega
          intro v' w5 hown2 hg2 _
          have hB5 : Below w.heap.size w w5 := (hB3.alloc hB3.size _).grown hg2 (by simp; omega) (fun x hx => (o3.lt x hx).1)
          have hown5 : w5.ownsRow w.heap.size 46 2 v' (k + 1) (listCurve F0 F1 (k + 1)) := by rw [Hl2.out]; exact hown2
          clear hown2 hg2 o3 hB3
          go_wp2_with fail
          go_roundw
          case rel => exact ⟨k + 1, by omega, by go_num, hown5, Hyes.out, hB5⟩
          case measure => simp [intOf]; omega
      · have e : k = n := by omega
        subst e
        have HC := Lib.hid (HC0.out Hsc.out)
        go_wp2_with fail
        go_ret2
        exact ⟨_, _, rfl, by rw [HC.out]; exact .ok, by rw [HC.out, if_pos rfl]; exact Mine.of_listCurve hown, hB⟩

theorem clos_ShiftCurve (p : Nat) (a X Y : Int) (hX : -200 ≤ X) (hX' : X ≤ 200) (hY : 0 ≤ Y) (hY' : Y ≤ 400) (ha : -400 ≤ a) (ha' : a ≤ 400) (w : World) (hp : w.cell? ⟨p, 0, none⟩ = some (.int .i64 a)) :
    Calls Tryd.prog 54 #[.int .i64 X, .int .i64 Y, .pointer (some ⟨p, 0, none⟩)] w fun e w' => e = .returned (.tuple #[.int .i64 (X + a), .int .i64 (Y + 0)]) ∧ Below w.heap.size w w' := by
  obtain ⟨U, hU⟩ : ∃ U, U = X + a := ⟨_, rfl⟩
  obtain ⟨V, hV⟩ : ∃ V, V = Y + 0 := ⟨_, rfl⟩
  rw [← hU, ← hV]
  have HU := Lib.hid hU; clear hU
  have HV := Lib.hid hV; clear hV
  go_enter Tryd.func54, Tryd.ntmps54
  go_wp2_with fail
  go_ret2
  exact ⟨by rw [HU.out, HV.out]; simp, Below.refl _ _⟩
set_option maxHeartbeats 1000000 in
theorem ShiftCurve_any (s : Ers) (b n cap : Nat) (xs ys : Nat → Int) (a : Int) (hn : n ≤ 1048576) (hs : SmallP n xs ys) (w : World) (hr : PtRow w b n xs ys) (hE : ErrEnv s w) :
    Calls Tryd.prog 26 #[.slice (some ⟨b, 0, none⟩) n cap, .int .i64 a] w (CrvCode (chC n xs ys (inB a (-400) 400) (fun i => xs i + a) (fun i => ys i + 0)) (fun i => xs i + a) (fun i => ys i + 0) n w) := by
  have k0 : Below w.heap.size w (w.alloc (.cells #[.int .i64 a] 2)) := (Below.refl _ _).alloc (Nat.le_refl _) _
  have hk := changed_ShiftCurve s b n cap xs ys (inB a (-400) 400) (fun i => xs i + a) (fun i => ys i + 0) w.heap.size hn hs _ (hr.below k0 hr.lt) (hE.below k0 (Nat.le_refl _)) (fun hf c k hk W hW => by
    have hsc := c.scale k hk
    have ha := inB_true.1 hf
    exact clos_ShiftCurve w.heap.size a (xs k) (ys k) (by omega) (by omega) (by omega) (by omega) ha.1 ha.2 W (by rw [hW.cell (p := ⟨w.heap.size, 0, none⟩) (by simp)]; simp))
  have hm := fun W => isMove_any a W
  generalize chC n xs ys (inB a (-400) 400) (fun i => xs i + a) (fun i => ys i + 0) = C at hk ⊢
  generalize (fun i => xs i + a) = F0 at hk ⊢
  generalize (fun i => ys i + 0) = F1 at hk ⊢
  generalize inB a (-400) 400 = B at hk hm
  have Hk := Lib.hid hk; clear hk
  have Hm := Lib.hid hm; clear hm
  go_enter Tryd.func26, Tryd.ntmps26
  go_wp2_with fail
  refine (Hm.out _).mono ?_; rintro e w1 ⟨rfl, rfl⟩
  go_wp2_with fail
  refine Hk.out.mono ?_; rintro e w2 ⟨v, ev, rfl, hv, hmn, hb2⟩
  have k2 := k0.trans (hb2.mono k0.size)
  go_wp2_with fail
  refine (codedCurve_any hv _ _ (hE.below k2 (Nat.le_refl _))).mono ?_; rintro e w3 ⟨rfl, rfl⟩
  go_wp2_with fail
  go_ret2
  exact ⟨_, rfl, hmn.mono (by simp) (Nat.le_refl _), k2⟩

theorem clos_LiftCurve (p : Nat) (a X Y : Int) (hX : -200 ≤ X) (hX' : X ≤ 200) (hY : 0 ≤ Y) (hY' : Y ≤ 400) (ha : -400 ≤ a) (ha' : a ≤ 400) (w : World) (hp : w.cell? ⟨p, 0, none⟩ = some (.int .i64 a)) :
    Calls Tryd.prog 55 #[.int .i64 X, .int .i64 Y, .pointer (some ⟨p, 0, none⟩)] w fun e w' => e = .returned (.tuple #[.int .i64 (X + 0), .int .i64 (Y + a)]) ∧ Below w.heap.size w w' := by
  obtain ⟨U, hU⟩ : ∃ U, U = X + 0 := ⟨_, rfl⟩
  obtain ⟨V, hV⟩ : ∃ V, V = Y + a := ⟨_, rfl⟩
  rw [← hU, ← hV]
  have HU := Lib.hid hU; clear hU
  have HV := Lib.hid hV; clear hV
  go_enter Tryd.func55, Tryd.ntmps55
  go_wp2_with fail
  go_quiet (fail)
  go_wp2
  go_ret2
  exact ⟨by rw [HU.out, HV.out]; simp, below_drewL (Below.refl _ _) _⟩
set_option maxHeartbeats 1000000 in
theorem LiftCurve_any (s : Ers) (b n cap : Nat) (xs ys : Nat → Int) (a : Int) (hn : n ≤ 1048576) (hs : SmallP n xs ys) (w : World) (hr : PtRow w b n xs ys) (hE : ErrEnv s w) :
    Calls Tryd.prog 30 #[.slice (some ⟨b, 0, none⟩) n cap, .int .i64 a] w (CrvCode (chC n xs ys (inB a (-400) 400) (fun i => xs i + 0) (fun i => ys i + a)) (fun i => xs i + 0) (fun i => ys i + a) n w) := by
  have k0 : Below w.heap.size w (w.alloc (.cells #[.int .i64 a] 2)) := (Below.refl _ _).alloc (Nat.le_refl _) _
  have hk := changed_LiftCurve s b n cap xs ys (inB a (-400) 400) (fun i => xs i + 0) (fun i => ys i + a) w.heap.size hn hs _ (hr.below k0 hr.lt) (hE.below k0 (Nat.le_refl _)) (fun hf c k hk W hW => by
    have hsc := c.scale k hk
    have ha := inB_true.1 hf
    exact clos_LiftCurve w.heap.size a (xs k) (ys k) (by omega) (by omega) (by omega) (by omega) ha.1 ha.2 W (by rw [hW.cell (p := ⟨w.heap.size, 0, none⟩) (by simp)]; simp))
  have hm := fun W => isMove_any a W
  generalize chC n xs ys (inB a (-400) 400) (fun i => xs i + 0) (fun i => ys i + a) = C at hk ⊢
  generalize (fun i => xs i + 0) = F0 at hk ⊢
  generalize (fun i => ys i + a) = F1 at hk ⊢
  generalize inB a (-400) 400 = B at hk hm
  have Hk := Lib.hid hk; clear hk
  have Hm := Lib.hid hm; clear hm
  go_enter Tryd.func30, Tryd.ntmps30
  go_wp2_with fail
  refine (Hm.out _).mono ?_; rintro e w1 ⟨rfl, rfl⟩
  go_wp2_with fail
  refine Hk.out.mono ?_; rintro e w2 ⟨v, ev, rfl, hv, hmn, hb2⟩
  have k2 := k0.trans (hb2.mono k0.size)
  go_wp2_with fail
  refine (codedCurve_any hv _ _ (hE.below k2 (Nat.le_refl _))).mono ?_; rintro e w3 ⟨rfl, rfl⟩
  go_wp2_with fail
  go_ret2
  exact ⟨_, rfl, hmn.mono (by simp) (Nat.le_refl _), k2⟩
end Go.Proofs.YtpombpphicmhmaaDoor

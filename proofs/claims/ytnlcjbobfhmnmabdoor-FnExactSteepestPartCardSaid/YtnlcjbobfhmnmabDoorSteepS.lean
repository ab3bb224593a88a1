/-
  The reference's SteepestPart.
-/
import Derived.Test.YtnlcjbobfhmnmabDoorSteep
namespace Go.Proofs.YtnlcjbobfhmnmabDoor
open Go.RowKit

set_option maxRecDepth 100000 in
set_option maxHeartbeats 2000000 in
theorem specSteepestPart_any (b n cap : Nat) (xs ys : Nat → Int) (hn : n ≤ 1048576) (hs : SmallP n xs ys) (w : World) (hr : PtRow w b n xs ys) :
    Calls Tryd.prog 5 #[.slice (some ⟨b, 0, none⟩) n cap] w fun e w' => e = .returned (.tuple #[.int .i64 (ifOk (stC n xs ys) (stA n xs ys)), .int .i64 (ifOk (stC n xs ys) (stP n xs ys / stG n xs ys : Nat)), .int .i64 (ifOk (stC n xs ys) (stQ n xs ys / stG n xs ys : Nat)), .int .i64 (stC n xs ys)]) ∧ Below w.heap.size w w' := by
  have hk := l02Ok_any b n cap xs ys hn hs
  rcases h1 : validC n xs ys with _ | _
  · rw [st_1 h1, ifOk_1, ifOk_1, ifOk_1]
    rw [h1] at hk
    have Hk := Lib.hid hk; clear hk h1
    go_enter Tryd.func5, Tryd.ntmps5
    go_wp2_with fail
    refine (Hk.out _ hr).mono ?_; rintro e w1 ⟨rfl, hb1⟩
    go_wp2_with fail
    refine bodyPost_ret (v := .tuple #[.int .i64 0, .int .i64 0, .int .i64 0, .int .i64 1]) (by simp [results, Tryd.results5, go_sem]) rfl ⟨rfl, hb1⟩
  rw [h1] at hk
  have Hk := Lib.hid hk; clear hk
  by_cases hn1 : n = 1
  · rw [st_6 h1 hn1, ifOk_6, ifOk_6, ifOk_6]
    subst hn1
    clear h1
    go_enter Tryd.func5, Tryd.ntmps5
    go_wp2_with fail
    refine (Hk.out _ hr).mono ?_; rintro e w1 ⟨rfl, hb1⟩
    go_wp2_with fail
    refine bodyPost_ret (v := .tuple #[.int .i64 0, .int .i64 0, .int .i64 0, .int .i64 6]) (by simp [results, Tryd.results5, go_sem]) rfl ⟨rfl, hb1⟩
  obtain ⟨c, hn12⟩ := validC_crv h1
  have hpos := c.pos
  have hn2 : 1 < n := by omega
  rw [st_0 h1 hn1, ifOk_0, ifOk_0, ifOk_0]
  obtain ⟨hA, hP, hQ, hP4, hQ4, hQ0⟩ := st_facts c hn2
  have hgp : 0 < stG n xs ys := Nat.gcd_pos_of_pos_right _ hQ0
  have hg := fun W => l02Gcd_any (stQ n xs ys) (stP n xs ys) (by omega) (by omega) W
  have hgd : Nat.gcd (stP n xs ys) (stQ n xs ys) = stG n xs ys := rfl
  rw [hgd] at hg
  have hAe : stA n xs ys = stL xs ys (fins (n - 1) (n - 1)) := by rw [fins_all]; rfl
  have hq1 : stP n xs ys / stG n xs ys ≤ stP n xs ys := Nat.div_le_self _ _
  have hq2 : stQ n xs ys / stG n xs ys ≤ stQ n xs ys := Nat.div_le_self _ _
  have u1 : Int.tdiv (stP n xs ys : Int) (stG n xs ys : Int) = ((stP n xs ys / stG n xs ys : Nat) : Int) := rfl
  have u2 : Int.tdiv (stQ n xs ys : Int) (stG n xs ys : Int) = ((stQ n xs ys / stG n xs ys : Nat) : Int) := rfl
  have hgle : stG n xs ys ≤ stQ n xs ys := Nat.le_of_dvd hQ0 (Nat.gcd_dvd_right _ _)
  clear hgd
  rw [hAe] at hP hQ ⊢
  generalize stP n xs ys / stG n xs ys = X1 at *
  generalize stQ n xs ys / stG n xs ys = X2 at *
  generalize stG n xs ys = G at *
  generalize stP n xs ys = P at *
  generalize stQ n xs ys = Q at *
  have HP := Lib.hid hP; clear hP
  have HQ := Lib.hid hQ; clear hQ
  have Hg := Lib.hid hg; clear hg
  have Hc := Lib.hid c; clear c
  have hG0 : ¬ (G : Int) = 0 := by omega
  have U1 := Lib.hid u1; clear u1
  have U2 := Lib.hid u2; clear u2
  clear hAe hA h1
  have hne : ((n : Int) == 1) = false := by rw [beq_eq_false_iff_ne]; omega
  go_enter Tryd.func5, Tryd.ntmps5
  go_wp2_with fail
  refine (Hk.out _ hr).mono ?_; rintro e w1 ⟨rfl, hb1⟩
  go_wp2_with fail
  go_loopw [6, 7, 8, 9] (fun a p q i wr => ∃ k : Nat, k ≤ n - 1 ∧ i = .int .i64 k ∧ a = .int .i64 (stL xs ys (fins (n - 1) k)) ∧ ((k = 0 ∧ p = .int .i64 (-1) ∧ q = .int .i64 1) ∨ (0 < k ∧ p = .int .i64 (ys (stL xs ys (fins (n - 1) k) + 1) - ys (stL xs ys (fins (n - 1) k))) ∧ q = .int .i64 (xs (stL xs ys (fins (n - 1) k) + 1) - xs (stL xs ys (fins (n - 1) k))))) ∧ Below w.heap.size w wr) (fun _ _ _ i _ => n - (intOf i).toNat)
  case atStart => exact ⟨0, Nat.zero_le _, rfl, by rw [fins_zero, stL_nil]; rfl, .inl ⟨rfl, rfl, rfl⟩, hb1⟩
  case round =>
    obtain ⟨k, hk, rfl, rfl, hpq, hB⟩ := hrel
    by_cases hkn : k + 1 < n
    · have hrk := hr.below hB hr.lt
      have c0 := hrk.cell0 (k := k) (by omega)
      have c1 := hrk.cell1 (k := k) (by omega)
      have d0 := hrk.cell0 (k := k + 1) hkn
      have d1 := hrk.cell1 (k := k + 1) hkn
      have s0 := Hc.out.scale k (by omega)
      have s1 := Hc.out.scale (k + 1) hkn
      have sr := Hc.out.rise k hkn
      have hst := stL_step xs ys (m := n - 1) (k := k) (by omega)
      have hA := stL_lt xs ys (m := n - 1) (by omega) (fins (n - 1) k)
      have w3 : (k : Int) < n := by omega
      have w4 : (k : Int) + 1 < n := by omega
      have w7 : ((k : Int) + 1).toNat = k + 1 := by omega
      have w8 : IntKind.i64.wrap ((k : Int) + 1) = (k : Int) + 1 := IntWalk.i64_in _ (by omega)
      rcases hpq with ⟨rfl, rfl, rfl⟩ | ⟨hk0, rfl, rfl⟩
      · as_aux_lemma =>
          have h1 := stL_one xs ys (m := n - 1) (by omega)
          have H1 := Lib.hid h1; clear h1 hst
          have hz : stL xs ys (fins (n - 1) 0) = 0 := by rw [fins_zero, stL_nil]
          rw [hz]
          clear hz hA
          have Hs0 := Lib.hid (show ys (0 + 1) - ys 0 = ys (0 + 1) - ys 0 from rfl)
          generalize hx0 : xs 0 = x0 at *
          generalize hy0 : ys 0 = y0 at *
          generalize hx1 : xs (0 + 1) = x1 at *
          generalize hy1 : ys (0 + 1) = y1 at *
          have E1 := Lib.hid hx0; clear hx0
          have E2 := Lib.hid hy0; clear hy0
          have E3 := Lib.hid hx1; clear hx1
          have E4 := Lib.hid hy1; clear hy1
          have i1 : IntKind.i64.wrap (y1 - y0) = y1 - y0 := IntWalk.i64_in _ (by omega)
          have i2 : IntKind.i64.wrap (x1 - x0) = x1 - x0 := IntWalk.i64_in _ (by omega)
          go_wp2
          go_quiet (fail)
          go_wp2
          go_quiet (fail)
          go_wp2
          go_roundw
          case rel => exact ⟨1, by omega, by go_num, by rw [H1.out]; rfl, .inr ⟨by omega, by rw [H1.out, E4.out, E2.out], by rw [H1.out, E3.out, E1.out]⟩, below_drewL hB _⟩
          case measure => simp [intOf]; omega
      · as_aux_lemma =>
          have sA := Hc.out.scale (stL xs ys (fins (n - 1) k)) (by omega)
          have sA1 := Hc.out.scale (stL xs ys (fins (n - 1) k) + 1) (by omega)
          have sAr := Hc.out.rise (stL xs ys (fins (n - 1) k)) (by omega)
          unfold stMore at hst
          generalize hAe : stL xs ys (fins (n - 1) k) = A at *
          have HAe := Lib.hid hAe; clear hAe
          have Hst := Lib.hid hst; clear hst
          have hb1 := prod_bd (a := ys (k + 1) - ys k) (b := xs (A + 1) - xs A) (by omega) (by omega) (by omega) (by omega)
          have hb2 := prod_bd (a := ys (A + 1) - ys A) (b := xs (k + 1) - xs k) (by omega) (by omega) (by omega) (by omega)
          obtain ⟨p, hp⟩ : ∃ p, ys (A + 1) - ys A = p := ⟨_, rfl⟩
          obtain ⟨q, hq⟩ : ∃ q, xs (A + 1) - xs A = q := ⟨_, rfl⟩
          rw [hp] at hb2
          rw [hq] at hb1
          obtain ⟨P1, hP1⟩ : ∃ P1, (ys (k + 1) - ys k) * q = P1 := ⟨_, rfl⟩
          obtain ⟨P2, hP2⟩ : ∃ P2, p * (xs (k + 1) - xs k) = P2 := ⟨_, rfl⟩
          rw [hP1] at hb1
          rw [hP2] at hb2
          have hcase : stL xs ys (fins (n - 1) (k + 1)) = if P2 < P1 then k else A := by
            have h := Hst.out
            rw [hp, hq, hP1, hP2] at h
            simpa using h
          rw [hp, hq]
          have Hcase := Lib.hid hcase; clear hcase
          have Hp := Lib.hid hp; clear hp
          have Hq := Lib.hid hq; clear hq
          have hpb : 0 ≤ p ∧ p ≤ 400 := by have := Hp.out; omega
          have hqb : 0 < q ∧ q ≤ 400 := by have := Hq.out; omega
          clear sA sA1 sAr
          have HY := Lib.hid (show (ys (k + 1) - ys k, xs (k + 1) - xs k) = (ys (k + 1) - ys k, xs (k + 1) - xs k) from rfl)
          generalize hx0 : xs k = x0 at *
          generalize hy0 : ys k = y0 at *
          generalize hx1 : xs (k + 1) = x1 at *
          generalize hy1 : ys (k + 1) = y1 at *
          have E1 := Lib.hid hx0; clear hx0
          have E2 := Lib.hid hy0; clear hy0
          have E3 := Lib.hid hx1; clear hx1
          have E4 := Lib.hid hy1; clear hy1
          have i1 : IntKind.i64.wrap (y1 - y0) = y1 - y0 := IntWalk.i64_in _ (by omega)
          have i2 : IntKind.i64.wrap (x1 - x0) = x1 - x0 := IntWalk.i64_in _ (by omega)
          have i3 : IntKind.i64.wrap P1 = P1 := IntWalk.i64_in _ (by omega)
          have i4 : IntKind.i64.wrap P2 = P2 := IntWalk.i64_in _ (by omega)
          by_cases hlt : P2 < P1
          · go_wp2
            go_quiet (fail)
            go_wp2
            go_quiet (fail)
            go_wp2
            go_roundw
            case rel => exact ⟨k + 1, by omega, by go_num, by rw [Hcase.out, if_pos hlt], .inr ⟨by omega, by rw [Hcase.out, if_pos hlt, E4.out, E2.out], by rw [Hcase.out, if_pos hlt, E3.out, E1.out]⟩, below_drewL hB _⟩
            case measure => simp [intOf]; omega
          · have hd : decide (P2 < P1) = false := decide_eq_false hlt
            go_wp2
            go_quiet (fail)
            go_wp2
            go_quiet (fail)
            go_wp2
            go_roundw
            case rel => exact ⟨k + 1, by omega, by go_num, by rw [Hcase.out, if_neg (show ¬ P2 < P1 by omega)], .inr ⟨by omega, by rw [Hcase.out, if_neg (show ¬ P2 < P1 by omega), Hp.out], by rw [Hcase.out, if_neg (show ¬ P2 < P1 by omega), Hq.out]⟩, below_drewL hB _⟩
            case measure => simp [intOf]; omega
    · have e : k = n - 1 := by omega
      subst e
      rcases hpq with ⟨h0, _, _⟩ | ⟨hk0, rfl, rfl⟩
      · omega
      as_aux_lemma =>
        rw [HP.out, HQ.out]
        have v1 : IntKind.i64.wrap (X1 : Int) = X1 := IntWalk.i64_in _ (by omega)
        have v2 : IntKind.i64.wrap (X2 : Int) = X2 := IntWalk.i64_in _ (by omega)
        have hlen : ((n - 1 : Nat) : Int) + 1 = n := by omega
        have u1 := U1.out
        have u2 := U2.out
        have hdn : decide (((n - 1 : Nat) : Int) + 1 < n) = false := decide_eq_false (by omega)
        go_wp2_with fail
        refine (Hg.out _).mono ?_; rintro e w2 ⟨rfl, rfl⟩
        go_wp2_with fail
        go_quiet (fail)
        go_wp2
        refine bodyPost_ret (v := .tuple #[.int .i64 (stL xs ys (fins (n - 1) (n - 1))), .int .i64 X1, .int .i64 X2, .int .i64 0]) (by simp [results, Tryd.results5, go_sem]) rfl ⟨rfl, below_drewL hB _⟩
end Go.Proofs.YtnlcjbobfhmnmabDoor

/-
  Two curves joined, by the reference. Condition: at most 1048576 points each.
-/
import Derived.Test.YtpombpphicmhmaaDoorJoin
namespace Go.Proofs.YtpombpphicmhmaaDoor
open Go.RowKit

set_option maxRecDepth 100000 in
set_option maxHeartbeats 4000000 in
theorem specJoinCurves_any (b n cap : Nat) (xs ys : Nat → Int) (b' m cap' : Nat) (us vs : Nat → Int) (x : Int) (hn : n ≤ 1048576) (hm : m ≤ 1048576) (hs : SmallP n xs ys) (hs' : SmallP m us vs)
    (w : World) (hr : PtRow w b n xs ys) (hr' : PtRow w b' m us vs) :
    Calls Tryd.prog 33 #[.slice (some ⟨b, 0, none⟩) n cap, .slice (some ⟨b', 0, none⟩) m cap', .int .i64 x] w (CrvCode (jnC n xs ys m us vs x (aheadN n xs x + (m - aheadN m us x)) (jn (aheadN n xs x) (aheadN m us x) xs us) (jn (aheadN n xs x) (aheadN m us x) ys vs)) (jn (aheadN n xs x) (aheadN m us x) xs us) (jn (aheadN n xs x) (aheadN m us x) ys vs) (aheadN n xs x + (m - aheadN m us x)) w) := by
  have hk := l02Ok_any b n cap xs ys hn hs
  have hl := l02Ok_any b' m cap' us vs hm hs'
  obtain ⟨i0, hi, hz0, hz1, hz2⟩ := info_parts infoCurve
  rcases h1 : validC n xs ys with _ | _
  · rw [jn_1 h1]
    rw [h1] at hk
    have Hk := Lib.hid hk; clear hk h1 hl
    go_enter Tryd.func33, Tryd.ntmps33
    go_wp2_with fail
    refine (Hk.out _ hr).mono ?_; rintro e w1 ⟨rfl, hb1⟩
    go_wp2_with fail
    go_ret2
    exact ⟨_, rfl, mine_no (by decide), hb1.alloc hb1.size _⟩
  rw [h1] at hk
  have Hk := Lib.hid hk; clear hk
  rcases h2 : validC m us vs with _ | _
  · rw [jn_1' h1 h2]
    rw [h2] at hl
    have Hl := Lib.hid hl; clear hl h1 h2
    go_enter Tryd.func33, Tryd.ntmps33
    go_wp2_with fail
    refine (Hk.out _ hr).mono ?_; rintro e w1 ⟨rfl, hb1⟩
    go_wp2_with fail
    refine (Hl.out _ (hr'.below hb1 hr'.lt)).mono ?_; rintro e w2 ⟨rfl, hb2⟩
    have k2 := hb1.trans (hb2.mono hb1.size)
    go_wp2_with fail
    go_ret2
    exact ⟨_, rfl, mine_no (by decide), k2.alloc k2.size _⟩
  rw [h2] at hl
  have Hl := Lib.hid hl; clear hl
  have hp := fun W => l02Place_any x W
  rcases h3 : inB x (-200) 200 with _ | _
  · rw [jn_2 h1 h2 h3]
    rw [h3] at hp
    have Hp := Lib.hid hp; clear hp h1 h2 h3
    go_enter Tryd.func33, Tryd.ntmps33
    go_wp2_with fail
    refine (Hk.out _ hr).mono ?_; rintro e w1 ⟨rfl, hb1⟩
    go_wp2_with fail
    refine (Hl.out _ (hr'.below hb1 hr'.lt)).mono ?_; rintro e w2 ⟨rfl, hb2⟩
    have k2 := hb1.trans (hb2.mono hb1.size)
    go_wp2_with fail
    refine (Hp.out _).mono ?_; rintro e w3 ⟨rfl, rfl⟩
    go_wp2_with fail
    go_ret2
    exact ⟨_, rfl, mine_no (by decide), k2.alloc k2.size _⟩
  rw [h3] at hp
  have Hp := Lib.hid hp; clear hp
  obtain ⟨c, hn12⟩ := validC_crv h1
  obtain ⟨c', hm12⟩ := validC_crv h2
  have hKn := (ahead_is n xs x).1
  have hMm := (ahead_is m us x).1
  have hsm := jn_small c c' hKn hMm
  have hia := fun j hj => ahead_iff c x (j := j) hj
  have hib := fun j hj => ahead_iff c' x (j := j) hj
  generalize aheadN n xs x = K at hKn hsm hia ⊢
  generalize aheadN m us x = M at hMm hsm hib ⊢
  have hF0 : ∀ i, i < K → jn K M xs us i = xs i ∧ jn K M ys vs i = ys i := fun i h => ⟨jn_lt h, jn_lt h⟩
  have hF1 : ∀ q, jn K M xs us (K + q) = us (M + q) ∧ jn K M ys vs (K + q) = vs (M + q) := fun q => ⟨jn_ge q, jn_ge q⟩
  have j4 := fun h => jn_4 (N := K + (m - M)) (F0 := jn K M xs us) (F1 := jn K M ys vs) h1 h2 h3 h
  have j3 := fun h h' => jn_3 (N := K + (m - M)) (F0 := jn K M xs us) (F1 := jn K M ys vs) h1 h2 h3 h h'
  have j0 := fun h h' => jn_0 (N := K + (m - M)) (F0 := jn K M xs us) (F1 := jn K M ys vs) h1 h2 h3 h h'
  generalize jn K M xs us = F0 at hsm hF0 hF1 j4 j3 j0 ⊢
  generalize jn K M ys vs = F1 at hsm hF0 hF1 j4 j3 j0 ⊢
  generalize hqe : m - M = Q at hsm j4 j3 j0 ⊢
  have hQ : Q ≤ 12 := by omega
  have hK12 : K ≤ 12 := by omega
  have J4 := Lib.hid j4; clear j4
  have J3 := Lib.hid j3; clear j3
  have J0 := Lib.hid j0; clear j0
  have HF0 := Lib.hid hF0; clear hF0
  have HF1 := Lib.hid hF1; clear hF1
  have Hia := Lib.hid hia; clear hia
  have Hib := Lib.hid hib; clear hib
  have Hsm := Lib.hid hsm; clear hsm
  have Hc := Lib.hid c; clear c
  have Hc' := Lib.hid c'; clear c'
  clear h1 h2 h3
  go_enter Tryd.func33, Tryd.ntmps33
  go_wp2_with fail
  refine (Hk.out _ hr).mono ?_; rintro e w1 ⟨rfl, hb1⟩
  go_wp2_with fail
  refine (Hl.out _ (hr'.below hb1 hr'.lt)).mono ?_; rintro e w2 ⟨rfl, hb2⟩
  have k2 := hb1.trans (hb2.mono hb1.size)
  clear hb1 hb2
  go_wp2_with fail
  refine (Hp.out _).mono ?_; rintro e w3 ⟨rfl, rfl⟩
  have o1 := World.ownsRow_lit (base := w.heap.size) (e := 46) (size := 2) w2 #[] 0 k2.size (Nat.zero_le _) rfl
  have kA := k2.alloc k2.size (.cells #[] 46)
  go_wp2_with fail
  go_loopw [8, 9] (fun v i wr => ∃ k q : Nat, k ≤ n ∧ i = .int .i64 k ∧ (k ≤ K → q = k) ∧ (K ≤ k → q = K) ∧ wr.ownsRow w.heap.size 46 2 v q (listCurve F0 F1 q) ∧ Below w.heap.size w wr) (fun _ i _ => n - (intOf i).toNat)
  case atStart => exact ⟨0, 0, Nat.zero_le _, rfl, fun _ => rfl, fun _ => by omega, o1, kA⟩
  case round =>
    obtain ⟨k, q, hk, rfl, hqa, hqb, hown, hB⟩ := hrel
    clear o1 kA
    by_cases hkn : k < n
    · have hrk := hr.below hB hr.lt
      have c0 := hrk.cell0 hkn
      have c1 := hrk.cell1 hkn
      have hsx := Hc.out.scale k hkn
      have hif := Hia.out k hkn
      have w3 : (k : Int) < n := by omega
      have hzr := hB.size
      by_cases hlt : k < K
      · as_aux_lemma =>
          have hxx := hif.2 hlt
          obtain rfl : q = k := hqa (by omega)
          have hl2 : listCurve F0 F1 (q + 1) = listCurve F0 F1 q ++ [.int .i16 (xs q), .int .i16 (ys q)] := by
            rw [← (HF0.out q hlt).1, ← (HF0.out q hlt).2]; rfl
          generalize xs q = X at *
          generalize ys q = Y at *
          have Hl2 := Lib.hid hl2; clear hl2
          clear hif hqa hqb
          go_wp2_with (at_builtin; refine wpList_append_own _ rfl _ _ 27 rfl w.heap.size 46 i0 (.agg #[.int .i16 0, .int .i16 0]) 2 4 Tryd.underlying27 hi hz0 hz1 hz2 rfl (by decide) _ _ _ rfl (hown.alloc _) ⟨wr.heap.size, 0, none⟩ 1 1 [.int .i16 X, .int .i16 Y] rfl rfl ?c1 ?c2 ?c3 ?c4 ?c5 ?_)
          case c1 =>
            intro j u hj
            match j, hj with
            | 0, hj => simp at hj; subst hj; simp [Addr.add, go_sem]
            | 1, hj => simp at hj; subst hj; simp [Addr.add, go_sem]
            | j + 2, hj => simp at hj
          case c2 => intro u hu; simp at hu; rcases hu with rfl | rfl <;> rfl
          case c3 => unfold maxLen; omega
          case c4 => omega
          case c5 => simp; omega
          intro v' w5 hown2 hg2 _
          have hB5 : Below w.heap.size w w5 := (hB.alloc hB.size _).grown hg2 (by simp; omega) (fun x hx => (hown.lt x hx).1)
          have hown5 : w5.ownsRow w.heap.size 46 2 v' (q + 1) (listCurve F0 F1 (q + 1)) := by rw [Hl2.out]; exact hown2
          clear hown hown2 hg2 hB hrk
          go_wp2_with fail
          go_roundw
          case rel => exact ⟨q + 1, q + 1, by omega, by go_num, fun _ => rfl, fun _ => by omega, hown5, hB5⟩
          case measure => simp [intOf]; omega
      · as_aux_lemma =>
          have hxx : ¬ xs k < x := fun h => hlt (hif.1 h)
          have hd : decide (xs k < x) = false := decide_eq_false hxx
          obtain rfl : q = K := hqb (by omega)
          generalize xs k = X at *
          clear hif hqa hqb
          go_wp2_with fail
          go_roundw
          case rel => exact ⟨k + 1, q, by omega, by go_num, fun _ => by omega, fun _ => rfl, hown, hB⟩
          case measure => simp [intOf]; omega
    · have e : k = n := by omega
      obtain rfl : q = K := hqb (by omega)
      subst e
      clear hqa hqb hkn
      go_wp2_with fail
      go_loopw [8, 10] (fun v i wr => ∃ k p : Nat, k ≤ m ∧ i = .int .i64 k ∧ (k ≤ M → p = 0) ∧ (M ≤ k → p = k - M) ∧ wr.ownsRow w.heap.size 46 2 v (q + p) (listCurve F0 F1 (q + p)) ∧ Below w.heap.size w wr) (fun _ i _ => m - (intOf i).toNat)
      case atStart => exact ⟨0, 0, Nat.zero_le _, rfl, fun _ => rfl, fun _ => by omega, hown, hB⟩
      case round =>
        clear hown hB
        obtain ⟨j, p, hj, rfl, hpa, hpb, hown, hB⟩ := hrel
        by_cases hjm : j < m
        · have hrk := hr'.below hB hr'.lt
          have c0 := hrk.cell0 hjm
          have c1 := hrk.cell1 hjm
          have hsx := Hc'.out.scale j hjm
          have hif := Hib.out j hjm
          have w3 : (j : Int) < m := by omega
          have hzr := hB.size
          by_cases hlt : j < M
          · as_aux_lemma =>
              have hxx := hif.2 hlt
              have hd : decide (x ≤ us j) = false := decide_eq_false (by omega)
              obtain rfl : p = 0 := hpa (by omega)
              generalize us j = X at *
              clear hif hpa hpb
              go_wp2_with fail
              go_roundw
              case rel => exact ⟨j + 1, 0, by omega, by go_num, fun _ => rfl, fun _ => by omega, hown, hB⟩
              case measure => simp [intOf]; omega
          · as_aux_lemma =>
              have hxx : x ≤ us j := by
                rcases Int.lt_or_le (us j) x with h | h
                · exact absurd (hif.1 h) hlt
                · exact h
              have hp := hpb (by omega)
              have hl2 : listCurve F0 F1 (q + p + 1) = listCurve F0 F1 (q + p) ++ [.int .i16 (us j), .int .i16 (vs j)] := by
                have h := HF1.out p
                rw [show M + p = j by omega] at h
                rw [← h.1, ← h.2]; rfl
              generalize us j = X at *
              generalize vs j = Y at *
              have Hl2 := Lib.hid hl2; clear hl2
              have hp12 : p ≤ 12 := by omega
              have Hp3 := Lib.hid hp; clear hp
              clear hif hpa hpb
              go_wp2_with (at_builtin; refine wpList_append_own _ rfl _ _ 27 rfl w.heap.size 46 i0 (.agg #[.int .i16 0, .int .i16 0]) 2 4 Tryd.underlying27 hi hz0 hz1 hz2 rfl (by decide) _ _ _ rfl (hown.alloc _) ⟨wr.heap.size, 0, none⟩ 1 1 [.int .i16 X, .int .i16 Y] rfl rfl ?c1 ?c2 ?c3 ?c4 ?c5 ?_)
              case c1 =>
                intro j u hj
                match j, hj with
                | 0, hj => simp at hj; subst hj; simp [Addr.add, go_sem]
                | 1, hj => simp at hj; subst hj; simp [Addr.add, go_sem]
                | j + 2, hj => simp at hj
              case c2 => intro u hu; simp at hu; rcases hu with rfl | rfl <;> rfl
              case c3 => unfold maxLen; omega
              case c4 => omega
              case c5 => simp; omega
              intro v' w5 hown2 hg2 _
              have hB5 : Below w.heap.size w w5 := (hB.alloc hB.size _).grown hg2 (by simp; omega) (fun x hx => (hown.lt x hx).1)
              have hown5 : w5.ownsRow w.heap.size 46 2 v' (q + (p + 1)) (listCurve F0 F1 (q + (p + 1))) := by rw [← Nat.add_assoc, Hl2.out]; exact hown2
              clear hown hown2 hg2 hB hrk
              go_wp2_with fail
              go_roundw
              case rel => exact ⟨j + 1, p + 1, by omega, by go_num, fun _ => by omega, fun _ => by have := Hp3.out; omega, hown5, hB5⟩
              case measure => simp [intOf]; omega
        · have e : j = m := by omega
          subst e
          obtain rfl : p = Q := by have := hpb hMm; omega
          have hN : q + p ≤ 24 := by omega
          clear hpa hpb hjm
          as_aux_lemma =>
            rcases Nat.eq_zero_or_pos (q + p) with h0 | h0
            · have HC := Lib.hid (J4.out (by rw [h0]; exact shaped_zero _ _))
              obtain ⟨A, cp, rfl⟩ := own_zero hown h0
              go_wp2_with fail
              refine (l02Shape_nil A cp _).mono ?_; rintro e w5 ⟨rfl, rfl⟩
              go_wp2_with fail
              go_ret2
              exact ⟨_, ret_two HC.out.symm, by rw [HC.out]; exact mine_no (by decide), hB.alloc hB.size _⟩
            · obtain ⟨g, cp, rfl, hg, hrow⟩ := own_ptsM hown h0
              have hsh := l02Shape_any g (q + p) cp F0 F1 (by omega) Hsm.out _ hrow
              rcases h4 : shapedB (q + p) F0 F1 with _ | _
              · rw [h4] at hsh
                have HC := Lib.hid (J4.out h4)
                have Hsh := Lib.hid hsh; clear hsh h4
                go_wp2_with fail
                refine Hsh.out.mono ?_; rintro e w5 ⟨rfl, hb5⟩
                have k5 := hB.trans (hb5.mono hB.size)
                go_wp2_with fail
                go_ret2
                exact ⟨_, ret_two HC.out.symm, by rw [HC.out]; exact mine_no (by decide), k5.alloc k5.size _⟩
              · rw [h4] at hsh
                have Hsh := Lib.hid hsh; clear hsh
                by_cases h5 : q + p ≤ 12
                · have HC := Lib.hid (J0.out h4 h5)
                  clear h4
                  generalize q + p = N at *
                  have d5 : decide ((12 : Int) < (N : Int)) = false := decide_eq_false (by omega)
                  go_wp2_with fail
                  refine Hsh.out.mono ?_; rintro e w5 ⟨rfl, hb5⟩
                  have k5 := hB.trans (hb5.mono hB.size)
                  have o5 := own_belowM hown hb5
                  go_wp2_with fail
                  go_ret2
                  exact ⟨_, ret_two HC.out.symm, by rw [HC.out, if_pos rfl]; exact Mine.of_listCurve o5, k5⟩
                · have HC := Lib.hid (J3.out h4 h5)
                  clear h4
                  generalize q + p = N at *
                  have d5 : (12 : Int) < (N : Int) := by omega
                  go_wp2_with fail
                  refine Hsh.out.mono ?_; rintro e w5 ⟨rfl, hb5⟩
                  have k5 := hB.trans (hb5.mono hB.size)
                  go_wp2_with fail
                  go_ret2
                  exact ⟨_, ret_two HC.out.symm, by rw [HC.out]; exact mine_no (by decide), k5.alloc k5.size _⟩
end Go.Proofs.YtpombpphicmhmaaDoor

/-
  The steepest part of a curve, by the program: the whole function. Condition: its variables hold their own errors; at most 1048576 points.
-/
import Derived.Test.YtnlcjbobfhmnmabDoorSteepI
import Derived.Test.YtnlcjbobfhmnmabDoorQuietR
namespace Go.Proofs.YtnlcjbobfhmnmabDoor
open Go.RowKit Go.Shelf
attribute [local go_sem] Oper.semAt_some
theorem PartBox.allocK {W : World} {B : Nat} {xs ys : Nat → Int} {i : Nat} (h : PartBox W B xs ys i) (o : Obj) : PartBox (W.alloc o) B xs ys i := (Below.heap_alloc W o B h.lt).trans h

theorem store5 {w2 : World} {I Pt A k : Nat} {xs ys : Nat → Int} (hne : I ≠ Pt) (bI : Boxed w2 I 3 (.int .i64 (A : Int))) (bP : PartBox w2 Pt xs ys A) {B : Nat} {w1 : World} (hB : Below B w1 w2) (hI : B ≤ I) (hP : B ≤ Pt) :
    Boxed (((((w2.setCell ⟨I, 0, none⟩ (.int .i64 (k : Int))).setCell ⟨Pt, 0, none⟩ (.int .i16 (xs k))).setCell ⟨Pt, 1, none⟩ (.int .i16 (ys k))).setCell ⟨Pt, 2, none⟩ (.int .i16 (xs (k + 1)))).setCell ⟨Pt, 3, none⟩ (.int .i16 (ys (k + 1)))).drew I 3 (.int .i64 (k : Int)) ∧
    PartBox (((((w2.setCell ⟨I, 0, none⟩ (.int .i64 (k : Int))).setCell ⟨Pt, 0, none⟩ (.int .i16 (xs k))).setCell ⟨Pt, 1, none⟩ (.int .i16 (ys k))).setCell ⟨Pt, 2, none⟩ (.int .i16 (xs (k + 1)))).setCell ⟨Pt, 3, none⟩ (.int .i16 (ys (k + 1)))).drew Pt xs ys k ∧
    Below B w1 (((((w2.setCell ⟨I, 0, none⟩ (.int .i64 (k : Int))).setCell ⟨Pt, 0, none⟩ (.int .i16 (xs k))).setCell ⟨Pt, 1, none⟩ (.int .i16 (ys k))).setCell ⟨Pt, 2, none⟩ (.int .i16 (xs (k + 1)))).setCell ⟨Pt, 3, none⟩ (.int .i16 (ys (k + 1)))).drew ∧
    (∀ j, j ≠ I → j ≠ Pt → (((((w2.setCell ⟨I, 0, none⟩ (.int .i64 (k : Int))).setCell ⟨Pt, 0, none⟩ (.int .i16 (xs k))).setCell ⟨Pt, 1, none⟩ (.int .i16 (ys k))).setCell ⟨Pt, 2, none⟩ (.int .i16 (xs (k + 1)))).setCell ⟨Pt, 3, none⟩ (.int .i16 (ys (k + 1)))).drew.heap[j]? = w2.heap[j]?) ∧
    (((((w2.setCell ⟨I, 0, none⟩ (.int .i64 (k : Int))).setCell ⟨Pt, 0, none⟩ (.int .i16 (xs k))).setCell ⟨Pt, 1, none⟩ (.int .i16 (ys k))).setCell ⟨Pt, 2, none⟩ (.int .i16 (xs (k + 1)))).setCell ⟨Pt, 3, none⟩ (.int .i16 (ys (k + 1)))).drew.heap.size = w2.heap.size ∧
    KeepsOthers w2 (((((w2.setCell ⟨I, 0, none⟩ (.int .i64 (k : Int))).setCell ⟨Pt, 0, none⟩ (.int .i16 (xs k))).setCell ⟨Pt, 1, none⟩ (.int .i16 (ys k))).setCell ⟨Pt, 2, none⟩ (.int .i16 (xs (k + 1)))).setCell ⟨Pt, 3, none⟩ (.int .i16 (ys (k + 1)))).drew := by
  obtain ⟨W1, hW1⟩ : ∃ W, W = w2.setCell ⟨I, 0, none⟩ (.int .i64 (k : Int)) := ⟨_, rfl⟩
  rw [← hW1]
  have oW1 : ∀ j, j ≠ I → W1.heap[j]? = w2.heap[j]? := fun j h => by rw [hW1]; exact Below.heap_setCell _ _ _ j h
  have zW1 : W1.heap.size = w2.heap.size := by rw [hW1]; simp
  have kW1 : KeepsOthers w2 W1 := by rw [hW1]; exact KeepsOthers.setCell _ _ _
  have bW1 : Below B w1 W1 := by rw [hW1]; exact hB.setCell (p := ⟨I, 0, none⟩) hI _
  obtain ⟨W2, hW2⟩ : ∃ W, W = W1.setCell ⟨Pt, 0, none⟩ (.int .i16 (xs k)) := ⟨_, rfl⟩
  rw [← hW2]
  have oW2 : ∀ j, j ≠ Pt → W2.heap[j]? = W1.heap[j]? := fun j h => by rw [hW2]; exact Below.heap_setCell _ _ _ j h
  have zW2 : W2.heap.size = W1.heap.size := by rw [hW2]; simp
  have kW2 : KeepsOthers W1 W2 := by rw [hW2]; exact KeepsOthers.setCell _ _ _
  have bW2 : Below B w1 W2 := by rw [hW2]; exact bW1.setCell (p := ⟨Pt, 0, none⟩) hP _
  obtain ⟨W3, hW3⟩ : ∃ W, W = W2.setCell ⟨Pt, 1, none⟩ (.int .i16 (ys k)) := ⟨_, rfl⟩
  rw [← hW3]
  have oW3 : ∀ j, j ≠ Pt → W3.heap[j]? = W2.heap[j]? := fun j h => by rw [hW3]; exact Below.heap_setCell _ _ _ j h
  have zW3 : W3.heap.size = W2.heap.size := by rw [hW3]; simp
  have kW3 : KeepsOthers W2 W3 := by rw [hW3]; exact KeepsOthers.setCell _ _ _
  have bW3 : Below B w1 W3 := by rw [hW3]; exact bW2.setCell (p := ⟨Pt, 1, none⟩) hP _
  obtain ⟨W4, hW4⟩ : ∃ W, W = W3.setCell ⟨Pt, 2, none⟩ (.int .i16 (xs (k + 1))) := ⟨_, rfl⟩
  rw [← hW4]
  have oW4 : ∀ j, j ≠ Pt → W4.heap[j]? = W3.heap[j]? := fun j h => by rw [hW4]; exact Below.heap_setCell _ _ _ j h
  have zW4 : W4.heap.size = W3.heap.size := by rw [hW4]; simp
  have kW4 : KeepsOthers W3 W4 := by rw [hW4]; exact KeepsOthers.setCell _ _ _
  have bW4 : Below B w1 W4 := by rw [hW4]; exact bW3.setCell (p := ⟨Pt, 2, none⟩) hP _
  obtain ⟨W5, hW5⟩ : ∃ W, W = W4.setCell ⟨Pt, 3, none⟩ (.int .i16 (ys (k + 1))) := ⟨_, rfl⟩
  rw [← hW5]
  have oW5 : ∀ j, j ≠ Pt → W5.heap[j]? = W4.heap[j]? := fun j h => by rw [hW5]; exact Below.heap_setCell _ _ _ j h
  have zW5 : W5.heap.size = W4.heap.size := by rw [hW5]; simp
  have kW5 : KeepsOthers W4 W5 := by rw [hW5]; exact KeepsOthers.setCell _ _ _
  have bW5 : Below B w1 W5 := by rw [hW5]; exact bW4.setCell (p := ⟨Pt, 3, none⟩) hP _
  have i1 : Boxed W1 I 3 (.int .i64 (k : Int)) := by rw [hW1]; exact bI.set _
  have p0 : W1.heap[Pt]? = some (.cells #[.int .i16 (xs A), .int .i16 (ys A), .int .i16 (xs (A + 1)), .int .i16 (ys (A + 1))] 47 (0, 0)) := (oW1 _ (fun e => hne e.symm)).trans bP
  have p1 : W2.heap[Pt]? = some (.cells #[.int .i16 (xs k), .int .i16 (ys A), .int .i16 (xs (A + 1)), .int .i16 (ys (A + 1))] 47 (0, 0)) := by rw [hW2, heap_setCell_same _ Pt 0 _ _ _ p0]; rfl
  have p2 : W3.heap[Pt]? = some (.cells #[.int .i16 (xs k), .int .i16 (ys k), .int .i16 (xs (A + 1)), .int .i16 (ys (A + 1))] 47 (0, 0)) := by rw [hW3, heap_setCell_same _ Pt 1 _ _ _ p1]; rfl
  have p3 : W4.heap[Pt]? = some (.cells #[.int .i16 (xs k), .int .i16 (ys k), .int .i16 (xs (k + 1)), .int .i16 (ys (A + 1))] 47 (0, 0)) := by rw [hW4, heap_setCell_same _ Pt 2 _ _ _ p2]; rfl
  have p4 : W5.heap[Pt]? = some (.cells #[.int .i16 (xs k), .int .i16 (ys k), .int .i16 (xs (k + 1)), .int .i16 (ys (k + 1))] 47 (0, 0)) := by rw [hW5, heap_setCell_same _ Pt 3 _ _ _ p3]; rfl
  clear hW1 hW2 hW3 hW4 hW5
  refine ⟨?_, ?_, bW5.drew, fun j h1 h2 => ?_, ?_, ?_⟩
  · exact (oW5 I hne).trans ((oW4 I hne).trans ((oW3 I hne).trans ((oW2 I hne).trans i1)))
  · exact p4
  · exact (oW5 j h2).trans ((oW4 j h2).trans ((oW3 j h2).trans ((oW2 j h2).trans (oW1 j h1))))
  · show W5.heap.size = w2.heap.size
    omega
  · exact ((((kW1.trans kW2).trans kW3).trans kW4).trans kW5).trans (KeepsOthers.drew _)

set_option maxRecDepth 100000 in
set_option maxHeartbeats 1000000 in
theorem steepest_1 (s : Ers) (b n cap : Nat) (xs ys : Nat → Int) (hn : n ≤ 1048576) (hs : SmallP n xs ys) (w : World) (hr : PtRow w b n xs ys) (hE : ErrEnv s w) (h1 : validC n xs ys = false) :
    Calls Tryd.prog 12 #[.slice (some ⟨b, 0, none⟩) n cap] w (CodedX s (.agg #[.int .i64 0, .int .i64 0, .int .i64 0]) 1 w.heap.size w) := by
  have hk := ValidCurve_any b n cap xs ys hn hs
  rw [h1] at hk
  have Hk := Lib.hid hk; clear hk
  have k0 : Below w.heap.size w (w.alloc (.cells #[.int .i64 0, .int .i64 0, .int .i64 0] 39)) := (Below.refl _ _).alloc (Nat.le_refl _) _
  go_enter Tryd.func12, Tryd.ntmps12
  go_wp2_with fail
  refine (Hk.out _ (hr.below k0 hr.lt)).mono ?_; rintro e w1 ⟨rfl, hb1⟩
  obtain ⟨q1, f1⟩ := bcell hb1
  have z1 : w.heap.size < w1.heap.size := by have := hb1.size; simp at this; omega
  have d0 : w1.cell? ⟨w.heap.size, 0, none⟩ = some (.int .i64 0) := by rw [q1 _ _ (by simp)]; simp
  have d1 : w1.cell? ⟨w.heap.size, 1, none⟩ = some (.int .i64 0) := by rw [q1 _ _ (by simp)]; simp
  have d2 : w1.cell? ⟨w.heap.size, 2, none⟩ = some (.int .i64 0) := by rw [q1 _ _ (by simp)]; simp
  have g0 : w1.frozen? ⟨w.heap.size, 0, none⟩ = false := by rw [f1 _ _ (by simp)]; simp
  have g1 : w1.frozen? ⟨w.heap.size, 1, none⟩ = false := by rw [f1 _ _ (by simp)]; simp
  have g2 : w1.frozen? ⟨w.heap.size, 2, none⟩ = false := by rw [f1 _ _ (by simp)]; simp
  have ce := ((hE.below k0 (Nat.le_refl _)).below hb1 (by simp)).c_einvalid
  have hb := k0.trans (hb1.mono k0.size)
  have hz0 : 0 < w.heap.size := World.block_lt_of_cell? w _ hE.c_einvalid
  have hz1 : ¬ 0 = w.heap.size := by omega
  have hz2 : ¬ w.heap.size = 0 := by omega
  clear q1 f1 Hk hb1 k0
  go_wp2_with fail
  go_region
  all_goals
    go_wp2_with fail
    exact bodyPost_ret (v := .tuple #[.agg #[.int .i64 0, .int .i64 0, .int .i64 0], _]) (by simp [results, Tryd.results12, go_sem, d0, d1, d2]) rfl ⟨_, .einvalid, rfl, by (repeat (first | exact Below.refl _ _ | assumption | apply Below.drew | apply below_drewL | apply below_drewP | (refine Below.alloc ?_ (by first | omega | (simp; done) | (simp; omega)) _) | (refine Below.setCell ?_ (by first | omega | (simp; done) | (simp; omega)) _)))⟩

set_option maxRecDepth 100000 in
set_option maxHeartbeats 2000000 in
theorem steepest_0 (s : Ers) (b n cap : Nat) (xs ys : Nat → Int) (hn : n ≤ 1048576) (hs : SmallP n xs ys) (w : World) (hr : PtRow w b n xs ys) (h1 : validC n xs ys = true) (hn1 : n ≠ 1) :
    Calls Tryd.prog 12 #[.slice (some ⟨b, 0, none⟩) n cap] w (CodedX s (.agg #[.int .i64 (stA n xs ys), .int .i64 (stP n xs ys / stG n xs ys : Nat), .int .i64 (stQ n xs ys / stG n xs ys : Nat)]) 0 w.heap.size w) := by
  have hk := ValidCurve_any b n cap xs ys hn hs
  rw [h1] at hk
  have Hk := Lib.hid hk; clear hk
  obtain ⟨c, hn12⟩ := validC_crv h1
  have hpos := c.pos
  have hn2 : 1 < n := by omega
  have hBF : ∀ (pre : List (Fin (n - 1))) (k : Nat) (hk : k < n - 1), ∃ (A : Nat) (P1 P2 : Int), stL xs ys pre = A ∧ stL xs ys (pre ++ [⟨k, hk⟩]) = (if P2 < P1 then k else A) ∧
      ∀ W, Calls Tryd.prog 18 #[.agg #[.int .i16 (xs k), .int .i16 (ys k), .int .i16 (xs (k + 1)), .int .i16 (ys (k + 1))], .agg #[.int .i16 (xs A), .int .i16 (ys A), .int .i16 (xs (A + 1)), .int .i16 (ys (A + 1))]] W fun e w' => e = .returned (.bool (decide (P2 < P1))) ∧ Below W.heap.size W w' := by
    intro pre k hk
    have hst := stL_snoc xs ys pre ⟨k, hk⟩
    have hA : stL xs ys pre < n - 1 := stL_lt xs ys (by omega) pre
    have s0 := c.scale k (by omega)
    have s1 := c.scale (k + 1) (by omega)
    have sA := c.scale (stL xs ys pre) (by omega)
    have sA1 := c.scale (stL xs ys pre + 1) (by omega)
    unfold stMore at hst
    simp only at hst
    generalize stL xs ys pre = A at *
    obtain ⟨P1, hP1⟩ : ∃ P1, (ys (k + 1) - ys k) * (xs (A + 1) - xs A) = P1 := ⟨_, rfl⟩
    obtain ⟨P2, hP2⟩ : ∃ P2, (ys (A + 1) - ys A) * (xs (k + 1) - xs k) = P2 := ⟨_, rfl⟩
    have rk := c.rise k (by omega)
    have rA := c.rise A (by omega)
    have hb1 := prod_bd (a := ys (k + 1) - ys k) (b := xs (A + 1) - xs A) (by omega) (by omega) (by omega) (by omega)
    have hb2 := prod_bd (a := ys (A + 1) - ys A) (b := xs (k + 1) - xs k) (by omega) (by omega) (by omega) (by omega)
    rw [hP1] at hb1
    rw [hP2] at hb2
    rw [hP1, hP2] at hst
    exact ⟨A, P1, P2, rfl, by simpa using hst, fun W => steeper_any (xs k) (ys k) (xs (k + 1)) (ys (k + 1)) (xs A) (ys A) (xs (A + 1)) (ys (A + 1)) P1 P2 (by omega) (by omega) (by omega) (by omega) (by omega) (by omega) (by omega) (by omega) hP1 hP2 hb1 hb2 W⟩
  have hDF : ∃ (A P Q G X1 X2 : Nat), stL xs ys (List.finRange (n - 1)) = A ∧ stA n xs ys = A ∧ stP n xs ys / stG n xs ys = X1 ∧ stQ n xs ys / stG n xs ys = X2 ∧ P ≤ 400 ∧ Q ≤ 400 ∧ 0 < G ∧ G ≤ 400 ∧ X1 ≤ 400 ∧ X2 ≤ 400 ∧ Int.tdiv (P : Int) (G : Int) = (X1 : Int) ∧ Int.tdiv (Q : Int) (G : Int) = (X2 : Int) ∧
      (∀ W, Calls Tryd.prog 19 #[.int .i64 P, .int .i64 Q] W fun e w' => e = .returned (.int .i64 (G : Nat)) ∧ Below W.heap.size W w') ∧
      (∀ W, Calls Tryd.prog 21 #[.agg #[.int .i16 (xs A), .int .i16 (ys A), .int .i16 (xs (A + 1)), .int .i16 (ys (A + 1))]] W fun e w' => e = .returned (.int .i64 Q) ∧ Below W.heap.size W w') ∧
      (∀ W, Calls Tryd.prog 20 #[.agg #[.int .i16 (xs A), .int .i16 (ys A), .int .i16 (xs (A + 1)), .int .i16 (ys (A + 1))]] W fun e w' => e = .returned (.int .i64 P) ∧ Below W.heap.size W w') := by
    obtain ⟨hA, hP, hQ, hP4, hQ4, hQ0⟩ := st_facts c hn2
    have hgp : 0 < stG n xs ys := Nat.gcd_pos_of_pos_right _ hQ0
    have hgle : stG n xs ys ≤ stQ n xs ys := Nat.le_of_dvd hQ0 (Nat.gcd_dvd_right _ _)
    have hq1 : stP n xs ys / stG n xs ys ≤ stP n xs ys := Nat.div_le_self _ _
    have hq2 : stQ n xs ys / stG n xs ys ≤ stQ n xs ys := Nat.div_le_self _ _
    have s0 := c.scale (stA n xs ys) (by omega)
    have s1 := c.scale (stA n xs ys + 1) (by omega)
    refine ⟨stA n xs ys, stP n xs ys, stQ n xs ys, stG n xs ys, _, _, rfl, rfl, rfl, rfl, hP4, hQ4, hgp, by omega, by omega, by omega, rfl, rfl, fun W => commonDivisor_any (stP n xs ys) (stQ n xs ys) (by omega) (by omega) W, fun W => ?_, fun W => ?_⟩
    · have h := partRun_any (xs (stA n xs ys)) (ys (stA n xs ys)) (xs (stA n xs ys + 1)) (ys (stA n xs ys + 1)) (by omega) (by omega) W
      rw [hQ] at h; exact h
    · have h := partRise_any (xs (stA n xs ys)) (ys (stA n xs ys)) (xs (stA n xs ys + 1)) (ys (stA n xs ys + 1)) (by omega) (by omega) W
      rw [hP] at h; exact h
  obtain ⟨AA, PP, QQ, GG, X1, X2, hA0, hA1, hX1, hX2, hP4, hQ4, hG0, hG4, hX14, hX24, u1, u2, hg, hrn, hrs⟩ := hDF
  rw [hA1, hX1, hX2]
  have HBF := Lib.hid hBF; clear hBF
  have Hg := Lib.hid hg; clear hg
  have Hrn := Lib.hid hrn; clear hrn
  have Hrs := Lib.hid hrs; clear hrs
  have HA0 := Lib.hid hA0; clear hA0
  have U1 := Lib.hid u1; clear u1
  have U2 := Lib.hid u2; clear u2
  clear hA1 hX1 hX2 c
  have hlt := hr.lt
  have k0 : Below w.heap.size w (w.alloc (.cells #[.int .i64 0, .int .i64 0, .int .i64 0] 39)) := (Below.refl _ _).alloc (Nat.le_refl _) _
  have hne : ((n : Int) == 1) = false := by rw [beq_eq_false_iff_ne]; omega
  refine (callsIn_wide (n := 10)).1 ?_
  refine callsIn_of_wp_marks Tryd.func12 rfl trivial ?_ rfl
  simp only [Tryd.ntmps12, List.size_toArray, List.length_cons, List.length_nil, Nat.reduceAdd, Nat.reduceSub, Array.replicate_succ, Array.replicate_zero, List.push_toArray, List.append_toArray, List.nil_append, List.cons_append]
  gi_wp2
  refine ⟨trivial, ?_⟩
  refine (callsIn_wide.2 (Hk.out _ (hr.below k0 hlt))).mono ?_; rintro e w1 ⟨rfl, hb1⟩
  obtain ⟨q1, f1⟩ := bcell hb1
  have z1 : w.heap.size < w1.heap.size := by have := hb1.size; simp at this; omega
  have hS : w1.heap[w.heap.size]? = some (.cells #[.int .i64 0, .int .i64 0, .int .i64 0] 39 (0, 0)) := (hb1.block _ (by simp)).trans (World.alloc_heap_new w _)
  have hr1 := (hr.below k0 hlt).below hb1 (by simp; omega)
  have k1 := k0.trans (hb1.mono k0.size)
  have c0 : w1.cell? ⟨b, 0, none⟩ = some (.int .i16 (xs 0)) := hr1.cell0 (k := 0) (by omega)
  have c1 : w1.cell? ⟨b, 1, none⟩ = some (.int .i16 (ys 0)) := hr1.cell1 (k := 0) (by omega)
  have d0 : w1.cell? ⟨b, 2, none⟩ = some (.int .i16 (xs 1)) := hr1.cell0 (k := 1) hn2
  have d1 : w1.cell? ⟨b, 3, none⟩ = some (.int .i16 (ys 1)) := hr1.cell1 (k := 1) hn2
  have hbl := hr1.lt
  have w3 : (0 : Int) < n := by omega
  have w4 : (1 : Int) < n := by omega
  clear q1 f1 hb1 k0 Hk
  gi_wp2
  gi_region
  all_goals first | (
      have bI : Boxed (((w1.alloc (.cells #[.int .i64 0] 3)).alloc (.cells #[.int .i16 (xs 0), .int .i16 (ys 0), .int .i16 (xs 1), .int .i16 (ys 1)] 47)).drew) (w1.heap.size) 3 (.int .i64 0) := by
        exact (Boxed.new w1 3 (.int .i64 0)).alloc (.cells #[.int .i16 (xs 0), .int .i16 (ys 0), .int .i16 (xs 1), .int .i16 (ys 1)] 47)
      have bP : PartBox (((w1.alloc (.cells #[.int .i64 0] 3)).alloc (.cells #[.int .i16 (xs 0), .int .i16 (ys 0), .int .i16 (xs 1), .int .i16 (ys 1)] 47)).drew) (w1.heap.size + 1) xs ys 0 := by
        have h := PartBox.new (w1.alloc (.cells #[.int .i64 0] 3)) xs ys 0
        rw [World.size_alloc] at h
        exact h
      have k2 : Below w1.heap.size w1 (((w1.alloc (.cells #[.int .i64 0] 3)).alloc (.cells #[.int .i16 (xs 0), .int .i16 (ys 0), .int .i16 (xs 1), .int .i16 (ys 1)] 47)).drew) := (((Below.refl _ _).alloc (Nat.le_refl _) _).alloc (by simp) _).drew
      obtain ⟨W0, hW0⟩ : ∃ x, ((w1.alloc (.cells #[.int .i64 0] 3)).alloc (.cells #[.int .i16 (xs 0), .int .i16 (ys 0), .int .i16 (xs 1), .int .i16 (ys 1)] 47)).drew = x := ⟨_, rfl⟩
      rw [hW0] at bI bP k2 ⊢
      clear hW0
      obtain ⟨I, hI⟩ : ∃ I, I = w1.heap.size := ⟨_, rfl⟩
      obtain ⟨Pt, hP⟩ : ∃ P, P = w1.heap.size + 1 := ⟨_, rfl⟩
      rw [← hP, ← hI]
      rw [← hI] at bI
      rw [← hP] at bP
      have hIP : I ≠ Pt := by omega
      have hI0 : w1.heap.size ≤ I := by omega
      have hP0 : w1.heap.size ≤ Pt := by omega
      clear hI hP) | (
      have bI : Boxed (((w1.alloc (.cells #[.int .i16 (xs 0), .int .i16 (ys 0), .int .i16 (xs 1), .int .i16 (ys 1)] 47)).alloc (.cells #[.int .i64 0] 3)).drew) (w1.heap.size + 1) 3 (.int .i64 0) := by
        have h := Boxed.new (w1.alloc (.cells #[.int .i16 (xs 0), .int .i16 (ys 0), .int .i16 (xs 1), .int .i16 (ys 1)] 47)) 3 (.int .i64 0)
        rw [World.size_alloc] at h
        exact h
      have bP : PartBox (((w1.alloc (.cells #[.int .i16 (xs 0), .int .i16 (ys 0), .int .i16 (xs 1), .int .i16 (ys 1)] 47)).alloc (.cells #[.int .i64 0] 3)).drew) (w1.heap.size) xs ys 0 := by
        exact (PartBox.new w1 xs ys 0).allocK (.cells #[.int .i64 0] 3)
      have k2 : Below w1.heap.size w1 (((w1.alloc (.cells #[.int .i16 (xs 0), .int .i16 (ys 0), .int .i16 (xs 1), .int .i16 (ys 1)] 47)).alloc (.cells #[.int .i64 0] 3)).drew) := (((Below.refl _ _).alloc (Nat.le_refl _) _).alloc (by simp) _).drew
      obtain ⟨W0, hW0⟩ : ∃ x, ((w1.alloc (.cells #[.int .i16 (xs 0), .int .i16 (ys 0), .int .i16 (xs 1), .int .i16 (ys 1)] 47)).alloc (.cells #[.int .i64 0] 3)).drew = x := ⟨_, rfl⟩
      rw [hW0] at bI bP k2 ⊢
      clear hW0
      obtain ⟨I, hI⟩ : ∃ I, I = w1.heap.size + 1 := ⟨_, rfl⟩
      obtain ⟨Pt, hP⟩ : ∃ P, P = w1.heap.size := ⟨_, rfl⟩
      rw [← hI, ← hP]
      rw [← hI] at bI
      rw [← hP] at bP
      have hIP : I ≠ Pt := by omega
      have hI0 : w1.heap.size ≤ I := by omega
      have hP0 : w1.heap.size ≤ Pt := by omega
      clear hI hP)
  all_goals
    have hrA := hr1.below k2 hbl
    have hIl := bI.lt
    have hPl := bP.lt
    clear c0 c1 d0 d1 w3 w4
    gi_wp2
    refine ⟨trivial, ?_⟩
    refine (parts_in Fence.wide 9 trivial rfl _ _ _ _).mono ?_; rintro e w' ⟨rfl, rfl⟩
    have bN := Boxed.new W0 27 (.slice (some ⟨b, 0, none⟩) n cap)
    have bI := bI.alloc (.cells #[.slice (some ⟨b, 0, none⟩) n cap] 27)
    have bP := bP.allocK (.cells #[.slice (some ⟨b, 0, none⟩) n cap] 27)
    have hz2 := k2.size
    have kW : Below w1.heap.size w1 (W0.alloc (.cells #[.slice (some ⟨b, 0, none⟩) n cap] 27)) := k2.alloc k2.size _
    have hW2z : (W0.alloc (.cells #[.slice (some ⟨b, 0, none⟩) n cap] 27)).heap.size = W0.heap.size + 1 := by simp
    obtain ⟨W2, hW2⟩ : ∃ x, W0.alloc (.cells #[.slice (some ⟨b, 0, none⟩) n cap] 27) = x := ⟨_, rfl⟩
    rw [hW2] at bI bP bN kW hW2z ⊢
    clear hW2
    obtain ⟨N, hN⟩ : ∃ N, W0.heap.size = N := ⟨_, rfl⟩
    rw [hN] at bN hW2z hz2 hIl hPl ⊢
    have hr2 := hr1.below kW hbl
    clear hrA k2 hN
    gi_wp2
    refine wpIn_rangeFunc_ownH rfl (by omega) (gf := 25) (lb := #[.pointer (some ⟨N, 0, none⟩)]) rfl trivial (enters_of Tryd.func25 (by kernel_rfl) rfl)
      (parts_stops Fence.wide 9 trivial rfl (by omega) N b n cap xs ys hn hs W2 (by omega) bN.cell hr2) keeps2_t (keeps2_b (by omega) (by omega)) (Below.refl _ _) (fun _ => rfl)
      (fun pre W => (Boxed W I 3 (.int .i64 (stL xs ys pre)) ∧ PartBox W Pt xs ys (stL xs ys pre)) ∧ N < W.heap.size ∧ Below w1.heap.size w1 W)
      (fun _ _ _ => False)
      (OwnFrom.and (OwnFrom.and (Own.from (boxed_own I 3 (fun pre => Value.int .i64 (stL xs ys pre))) _) (Own.from (fun s X Y row hs hg hr => hs.own hg hr) _)) (OwnFrom.and (ownFrom_size _ _) (ownFrom_below (Nat.le_refl _) (by omega))))
      (fun cd => fun _ _ _ _ h => h.elim)
      ⟨⟨bI, bP⟩, by omega, kW⟩
      (fun i a' W => ∃ Bx, N < Bx ∧ PartBox W Bx xs ys i.1 ∧ a' = { tmps := #[.slice (some ⟨b, 0, none⟩) n cap, undef, .pointer (some ⟨w.heap.size, 0, none⟩), .nilIface, .pointer (some ⟨I, 0, none⟩), .pointer (some ⟨Pt, 0, none⟩), .int .i64 (i.1 : Int), .pointer (some ⟨Bx, 0, none⟩), undef, .slice (some ⟨b, 0, none⟩) n cap, .bool true, .bool false, undef, undef, .slice (some ⟨b, 0, none⟩) n cap, .int .i64 (n : Int), .bool false, undef, undef, .slice (some ⟨b, 0, none⟩) n cap, .pointer (some ⟨b, 0, none⟩), .agg #[.int .i16 (xs 0), .int .i16 (ys 0)], .slice (some ⟨b, 0, none⟩) n cap, .pointer (some ⟨b, 2, none⟩), .agg #[.int .i16 (xs 1), .int .i16 (ys 1)], .agg #[.int .i16 (xs 0), .int .i16 (ys 0), .int .i16 (xs 1), .int .i16 (ys 1)], .slice (some ⟨b, 0, none⟩) n cap, .func (.func 25) #[] #[.pointer (some ⟨N, 0, none⟩)], .int .i64 (i.1 : Int), .agg #[.int .i16 (xs i.1), .int .i16 (ys i.1), .int .i16 (xs (i.1 + 1)), .int .i16 (ys (i.1 + 1))], undef, undef, undef, undef, undef, undef, undef, undef, undef, undef, undef, undef, undef, undef, undef, undef, undef, undef, undef, undef], defers := [] })
      (fun x a' s X Y row hs hg hr => by obtain ⟨Bx, h1, h2, h3⟩ := hs; exact ⟨Bx, h1, h2.own hg (fun r e => (hr r e).2), h3⟩)
      ?assign ?body ?done ?stop
    case assign =>
     as_aux_lemma =>
      rintro l pre i W K ⟨⟨bI1, bP1⟩, hZ, hB1⟩ hK
      unfold partE partV
      have hz := hB1.size
      gi_wp2
      exact hK _ _ ((KeepsOthers.alloc _ _).from _) (Keeps2.of_below ((Below.refl _ W).alloc (Nat.le_refl _) _) (by omega) (by omega)) ⟨⟨bI1.alloc _, bP1.allocK _⟩, by simp; omega, hB1.alloc hz _⟩ ⟨W.heap.size, by omega, PartBox.new W xs ys i.1, rfl⟩
    case body =>
     as_aux_lemma =>
      rintro l pre i a' W hl - ⟨⟨bI1, bP1⟩, hZ, hB1⟩ ⟨Bx, hBx, bX, rfl⟩ hlt2
      obtain ⟨k, hk⟩ := i
      simp only at bX ⊢
      obtain ⟨A, P1, P2, hAe, hcase, hq⟩ := HBF.out pre k hk
      rw [hAe] at bI1 bP1
      have Hq := Lib.hid hq; clear hq
      have Hcase := Lib.hid hcase; clear hcase hAe
      obtain ⟨e0, e1, e2, e3⟩ := bX.cells
      obtain ⟨p0, p1, p2, p3⟩ := bP1.cells
      have cI := bI1.cell
      have fI := bI1.frozen
      have hbl2 := bX.lt
      have hIl1 := bI1.lt
      have hPl1 := bP1.lt
      have hz := hB1.size
      have HX := Lib.hid bX
      have HI := Lib.hid bI1
      have HP := Lib.hid bP1
      have HB := Lib.hid hB1
      clear bX bI1 bP1 hB1
      gi_wp2
      refine ⟨trivial, ?_⟩
      refine (CallsIn.inRound l (callsIn_wide.2 (Hq.out _))).mono ?_; rintro e w2 ⟨rfl, hb2⟩
      have hz3 := hb2.size
      by_cases hlt : P2 < P1
      · have hd : decide (P2 < P1) = true := decide_eq_true hlt
        have I2 : Boxed w2 I 3 (.int .i64 A) := (hb2.block _ hIl1).trans HI.out
        have P2b : PartBox w2 Pt xs ys A := (hb2.block _ hPl1).trans HP.out
        have E0 : w2.cell? ⟨Bx, 0, none⟩ = some (.int .i16 (xs k)) := below_cellOf hb2 e0 (Nat.le_refl _)
        have E1 : w2.cell? ⟨Bx, 1, none⟩ = some (.int .i16 (ys k)) := below_cellOf hb2 e1 (Nat.le_refl _)
        have E2 : w2.cell? ⟨Bx, 2, none⟩ = some (.int .i16 (xs (k + 1))) := below_cellOf hb2 e2 (Nat.le_refl _)
        have E3 : w2.cell? ⟨Bx, 3, none⟩ = some (.int .i16 (ys (k + 1))) := below_cellOf hb2 e3 (Nat.le_refl _)
        have cI2 := I2.cell
        have fI2 := I2.frozen
        obtain ⟨q0, q1, q2, q3⟩ := P2b.cells
        have Q0 : w2.frozen? ⟨Pt, 0, none⟩ = false ∧ w2.frozen? ⟨Pt, 1, none⟩ = false ∧ w2.frozen? ⟨Pt, 2, none⟩ = false ∧ w2.frozen? ⟨Pt, 3, none⟩ = false := by
          have h' : w2.heap[Pt]? = _ := P2b
          simp [World.frozen?, h']
        obtain ⟨z0, z1', z2, z3⟩ := Q0
        have kk : Below w1.heap.size w1 w2 := HB.out.trans (hb2.mono HB.out.size)
        have hIP' : ¬ Pt = I := fun e => hIP e.symm
        have hIP2 : ¬ I = Pt := hIP
        have hBI : ¬ Bx = I := by omega
        have hBP : ¬ Bx = Pt := by omega
        clear e0 e1 e2 e3 p0 p1 p2 p3 cI fI
        obtain ⟨s1, s2, s3, s4, s5, s6⟩ := store5 (k := k) hIP I2 P2b kk hI0 hP0
        have HS := Lib.hid (And.intro s1 (And.intro s2 (And.intro s3 (And.intro s4 (And.intro s5 s6)))))
        clear s1 s2 s3 s4 s5 s6
        gi_wp2
        gi_region
        all_goals
          gi_wp2
          obtain ⟨s1, s2, s3, s4, s5, s6⟩ := HS.out
          refine ⟨(keepsFrom_below hb2).trans (s6.from _), ⟨(s4 _ (by omega) (by omega)).trans (hb2.block _ (by omega)), (s4 _ (by omega) (by omega)).trans (hb2.block _ (by omega))⟩, ⟨?_, ?_⟩, by rw [s5]; omega, s3⟩
          · rw [Hcase.out, if_pos hlt]; exact s1
          · rw [Hcase.out, if_pos hlt]; exact s2
      · have hd : decide (P2 < P1) = false := decide_eq_false hlt
        have Hlt := Lib.hid hlt; clear hlt
        gi_wp2
        refine ⟨keepsFrom_below hb2, ⟨hb2.block _ (by omega), hb2.block _ (by omega)⟩, ⟨?_, ?_⟩, by omega, HB.out.trans (hb2.mono hz)⟩
        · rw [Hcase.out, if_neg (Int.not_lt.2 Hlt.out)]; exact (hb2.block _ hIl1).trans HI.out
        · rw [Hcase.out, if_neg (Int.not_lt.2 Hlt.out)]; exact (hb2.block _ hPl1).trans HP.out
    case done =>
     as_aux_lemma =>
      rintro D l W hD rfl ⟨⟨bI1, bP1⟩, hZ, hB1⟩ hK
      rw [HA0.out] at bI1 bP1
      obtain ⟨p0, p1, p2, p3⟩ := bP1.cells
      have cI := bI1.cell
      have hS1 := (hB1.block _ z1).trans hS
      have hDl := (Array.getElem?_eq_some_iff.1 hK).1
      have hG0' : ¬ (GG : Int) = 0 := by omega
      have hz := hB1.size
      clear bI1 bP1
      gi_wp2
      refine wpIn_wide.2 ?_
      refine wp_region_quietD (Below W.heap.size W) (by kernel_rfl) (by kernel_rfl) (below_drew1 _) ?_
      have n0 := below_nonempty W
      have f0 := inCell p0
      have f1 := inCell p1
      have f2 := inCell p2
      have f3 := inCell p3
      repeat (go_big_quiet_step (first | (go_at_call 20; with_reducible exact inCall _ (Hrs.out _)) | (go_at_call 21; with_reducible exact inCall _ (Hrn.out _)) | (go_at_call 19; with_reducible exact inCall _ (Hg.out _))))
      refine wpQuiet_nil ?_
      rintro _ ⟨y, rfl⟩
      obtain ⟨W3, hb3⟩ := y
      try simp only at hb3
      try simp only
      have hz3 := hb3.size
      have cI3 : W3.cell? ⟨I, 0, none⟩ = some (.int .i64 AA) := below_cellOf hb3 cI (Nat.le_refl _)
      have P0 : W3.cell? ⟨Pt, 0, none⟩ = some (.int .i16 (xs AA)) := below_cellOf hb3 p0 (Nat.le_refl _)
      have P1 : W3.cell? ⟨Pt, 1, none⟩ = some (.int .i16 (ys AA)) := below_cellOf hb3 p1 (Nat.le_refl _)
      have P2 : W3.cell? ⟨Pt, 2, none⟩ = some (.int .i16 (xs (AA + 1))) := below_cellOf hb3 p2 (Nat.le_refl _)
      have P3 : W3.cell? ⟨Pt, 3, none⟩ = some (.int .i16 (ys (AA + 1))) := below_cellOf hb3 p3 (Nat.le_refl _)
      have hK3 := (hb3.block D hDl).trans hK
      have hS3 := (hb3.block w.heap.size (by omega)).trans hS1
      have v1 : IntKind.i64.wrap (X1 : Int) = X1 := IntWalk.i64_in _ (by omega)
      have v2 : IntKind.i64.wrap (X2 : Int) = X2 := IntWalk.i64_in _ (by omega)
      have U1' := U1.out
      have U2' := U2.out
      clear f0 f1 f2 f3 n0 p0 p1 p2 p3 cI
      gi_wp2
      refine wpIn_wide.2 ?_
      refine wp_region_quiet_tail 10 (fun w' => ∃ x : WIn (Below W3.heap.size W3), w' = x.w) (by kernel_rfl) (by kernel_rfl) ⟨⟨_, below_drew1 _⟩, rfl⟩ ?_
      simp only [List.take_succ_cons, List.take_zero, List.drop_succ_cons, List.drop_zero]
      have n0 := below_nonempty W3
      have fI := inCell cI3
      have f0 := inCell P0
      have f1 := inCell P1
      have f2 := inCell P2
      have f3 := inCell P3
      repeat (go_big_quiet_step (first | (go_at_call 20; with_reducible exact inCall _ (Hrs.out _)) | (go_at_call 21; with_reducible exact inCall _ (Hrn.out _))))
      refine wpQuiet_nil ?_
      rintro w4 ⟨⟨w5, hb5⟩, rfl⟩
      try simp only at hb5
      have hS5 := (hb5.block w.heap.size (by omega)).trans hS3
      have hK5 := (hb5.block D (by omega)).trans hK3
      have s0 : w4.cell? ⟨w.heap.size, 0, none⟩ = some (.int .i64 0) := by simp [World.cell?, hS5]
      have s1 : w4.cell? ⟨w.heap.size, 1, none⟩ = some (.int .i64 0) := by simp [World.cell?, hS5]
      have s2 : w4.cell? ⟨w.heap.size, 2, none⟩ = some (.int .i64 0) := by simp [World.cell?, hS5]
      have g0 : w4.frozen? ⟨w.heap.size, 0, none⟩ = false := by simp [World.frozen?, hS5]
      have g1 : w4.frozen? ⟨w.heap.size, 1, none⟩ = false := by simp [World.frozen?, hS5]
      have g2 : w4.frozen? ⟨w.heap.size, 2, none⟩ = false := by simp [World.frozen?, hS5]
      have kA := k1.trans (hB1.mono k1.size)
      have kB := kA.trans (hb3.mono kA.size)
      have kC := kB.trans (hb5.mono kB.size)
      have kD := ((kC.setCell (p := ⟨w.heap.size, 0, none⟩) (Nat.le_refl _) (.int .i64 (AA : Int))).setCell (p := ⟨w.heap.size, 1, none⟩) (Nat.le_refl _) (.int .i64 (X1 : Int))).setCell (p := ⟨w.heap.size, 2, none⟩) (Nat.le_refl _) (.int .i64 (X2 : Int))
      have t0 : (((w4.setCell ⟨w.heap.size, 0, none⟩ (.int .i64 (AA : Int))).setCell ⟨w.heap.size, 1, none⟩ (.int .i64 (X1 : Int))).setCell ⟨w.heap.size, 2, none⟩ (.int .i64 (X2 : Int))).cell? ⟨w.heap.size, 0, none⟩ = some (.int .i64 (AA : Int)) := by simp [go_sem, s0]
      have t1 : (((w4.setCell ⟨w.heap.size, 0, none⟩ (.int .i64 (AA : Int))).setCell ⟨w.heap.size, 1, none⟩ (.int .i64 (X1 : Int))).setCell ⟨w.heap.size, 2, none⟩ (.int .i64 (X2 : Int))).cell? ⟨w.heap.size, 1, none⟩ = some (.int .i64 (X1 : Int)) := by simp [go_sem, s1]
      have t2 : (((w4.setCell ⟨w.heap.size, 0, none⟩ (.int .i64 (AA : Int))).setCell ⟨w.heap.size, 1, none⟩ (.int .i64 (X1 : Int))).setCell ⟨w.heap.size, 2, none⟩ (.int .i64 (X2 : Int))).cell? ⟨w.heap.size, 2, none⟩ = some (.int .i64 (X2 : Int)) := by simp [go_sem, s2]
      have hK6 := (((KeepsOthers.setCell w4 ⟨w.heap.size, 0, none⟩ (.int .i64 (AA : Int))).trans (KeepsOthers.setCell _ ⟨w.heap.size, 1, none⟩ (.int .i64 (X1 : Int)))).trans (KeepsOthers.setCell _ ⟨w.heap.size, 2, none⟩ (.int .i64 (X2 : Int)))).same D _ hK5 rfl
      have KK := Lib.hid (And.intro t0 (And.intro t1 (And.intro t2 (And.intro hK6 kD))))
      clear t0 t1 t2 hK6 kD kA kB kC hS5 hK5 hS3 hK3 f0 f1 f2 f3 fI n0 P0 P1 P2 P3 cI3
      go_wp2
      gi_wp2
      obtain ⟨t0, t1, t2, hK6, kD⟩ := KK.out
      refine ⟨by simp, .inl ⟨_, _, rfl, run_takeDeferred hK6, ?_⟩⟩
      have c0 := cell_kept t0 (grownBy_putObj' _ D (.deferred none)) (fun r e => by cases e; exact ⟨_, hK6, rfl⟩)
      have c1 := cell_kept t1 (grownBy_putObj' _ D (.deferred none)) (fun r e => by cases e; exact ⟨_, hK6, rfl⟩)
      have c2 := cell_kept t2 (grownBy_putObj' _ D (.deferred none)) (fun r e => by cases e; exact ⟨_, hK6, rfl⟩)
      refine ⟨.tuple #[.agg #[.int .i64 AA, .int .i64 X1, .int .i64 X2], .nilIface], ?_, _, .ok, rfl, kD.trans (belowK_b (w := w) (Nat.le_refl _) _ D _ _ (by omega) hK6 rfl rfl)⟩
      simp [results, Tryd.f12, go_sem, c0, c1, c2]
    case stop =>
      rintro D cd pre W hD - h hK
      exact h.elim
end Go.Proofs.YtnlcjbobfhmnmabDoor

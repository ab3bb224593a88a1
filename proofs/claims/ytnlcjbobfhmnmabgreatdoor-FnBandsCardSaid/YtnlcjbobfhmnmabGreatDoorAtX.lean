/-
  The density at an exposure, by the program and by the reference. Condition: the points are a curve's.
-/
import Derived.Test.YtnlcjbobfhmnmabGreatDoorValidC
import Derived.Test.YtnlcjbobfhmnmabGreatDoorPlainAt
import Derived.Test.YtnlcjbobfhmnmabGreatDoorShapeS
namespace Go.Proofs.YtnlcjbobfhmnmabGreatDoor
open Go.RowKit Go.Shelf

attribute [local go_sem] Oper.semAt_some

set_option maxRecDepth 100000 in
set_option maxHeartbeats 1000000 in
theorem partAt_any (x0 y0 x1 y1 x P Q : Int) (hx0 : -32768 ≤ x0 ∧ x0 ≤ 32767) (hy0 : -32768 ≤ y0 ∧ y0 ≤ 32767) (hx1 : -32768 ≤ x1 ∧ x1 ≤ 32767) (hy1 : -32768 ≤ y1 ∧ y1 ≤ 32767) (hx : -1000000 ≤ x) (hx' : x ≤ 1000000) (hlt : x0 < x1)
    (hP : (y1 - y0) * (x - x0) = P) (hP0 : -1000000000000 ≤ P) (hP1 : P ≤ 1000000000000) (hQt : P.tdiv (x1 - x0) = Q) (hQ0 : -1000000000000 ≤ Q) (hQ1 : Q ≤ 1000000000000) (w : World) :
    Calls Tryz.prog 132 #[partV x0 y0 x1 y1, .int .i64 x] w fun e w' => e = .returned (.int .i64 (y0 + Q)) ∧ Below w.heap.size w w' := by
  have hr1 := partRun_any x0 y0 x1 y1 hx0 hx1
  have hr2 := partRise_any x0 y0 x1 y1 hy0 hy1
  unfold partV at *
  have Hr1 := Lib.hid hr1; clear hr1
  have Hr2 := Lib.hid hr2; clear hr2
  have e1 : IntKind.i64.wrap (x - x0) = x - x0 := IntWalk.i64_in _ (by omega)
  have e2 : IntKind.i64.wrap P = P := IntWalk.i64_in _ (by omega)
  have e3 : IntKind.i64.wrap Q = Q := IntWalk.i64_in _ (by omega)
  have e4 : IntKind.i64.wrap (y0 + Q) = y0 + Q := IntWalk.i64_in _ (by omega)
  have e5 : ¬ (x1 - x0 = 0) := by omega
  have hpos : 0 < x1 - x0 := by omega
  go_enter Tryz.func132, Tryz.ntmps132
  go_wp2
  generalize hW : w.alloc (.cells #[.int .i16 x0, .int .i16 y0, .int .i16 x1, .int .i16 y1] 163) = W
  have c0 : W.cell? ⟨w.heap.size, 0, none⟩ = some (.int .i16 x0) := by rw [← hW]; simp
  have c1 : W.cell? ⟨w.heap.size, 1, none⟩ = some (.int .i16 y0) := by rw [← hW]; simp
  have c2 : W.cell? ⟨w.heap.size, 2, none⟩ = some (.int .i16 x1) := by rw [← hW]; simp
  have c3 : W.cell? ⟨w.heap.size, 3, none⟩ = some (.int .i16 y1) := by rw [← hW]; simp
  have hB : Below w.heap.size w W := by rw [← hW]; exact (Below.refl _ _).alloc (Nat.le_refl _) _
  clear hW
  refine wp_region_quietD (Below W.heap.size W) (by kernel_rfl) (by kernel_rfl) (below_drew1 _) ?_
  have n0 := below_nonempty W
  have f0 := inCell c0
  have f1 := inCell c1
  have f2 := inCell c2
  have f3 := inCell c3
  repeat (go_big_quiet_step (first | (go_at_call 130; exact inCall _ (Hr2.out _)) | (go_at_call 129; exact inCall _ (Hr1.out _))))
  refine wpQuiet_nil ?_
  rintro _ ⟨y, rfl⟩
  go_wp2
  go_ret
  exact ⟨rfl, hB.trans (y.ok.mono hB.size)⟩

theorem span_low (a c : Int) (W : World) : (Instr.field 165 (.agg #[.int .i64 a, .int .i64 c]) 0).run Tryz.prog W = .ok (.int .i64 a) W := by kernel_rfl
theorem span_high (a c : Int) (W : World) : (Instr.field 165 (.agg #[.int .i64 a, .int .i64 c]) 1).run Tryz.prog W = .ok (.int .i64 c) W := by kernel_rfl

theorem partAt_crv {n : Nat} {xs ys : Nat → Int} (c : Crv n xs ys) {i : Nat} (hi : i + 1 < n) {x : Int} (hx : -1000000 ≤ x) (hx' : x ≤ 1000000) (w : World) :
    Calls Tryz.prog 132 #[partV (xs i) (ys i) (xs (i + 1)) (ys (i + 1)), .int .i64 x] w fun e w' => e = .returned (.int .i64 (tint (xs i) (ys i) (xs (i + 1)) (ys (i + 1)) x)) ∧ Below w.heap.size w w' := by
  have h0 := c.scale i (by omega)
  have h1 := c.scale (i + 1) hi
  have hr := c.rise i hi
  have hp := prod_bd (a := ys (i + 1) - ys i) (b := x - xs i) (by omega) (by omega) (by omega) (by omega)
  have hq := tdiv_bd (d := xs (i + 1) - xs i) hp.1 hp.2
  exact partAt_any (xs i) (ys i) (xs (i + 1)) (ys (i + 1)) x _ _ (by omega) (by omega) (by omega) (by omega) hx hx' hr.1 rfl (by omega) (by omega) rfl (by omega) (by omega) w

set_option maxRecDepth 100000 in
set_option maxHeartbeats 1000000 in
theorem at_low (b n cap : Nat) (xs ys : Nat → Int) (hn : n ≤ 1048576) (c : Crv n xs ys) (x : Int) (hx : x ≤ xs 0) (hx' : -1000000 ≤ x) (w : World) (hr : PtRow w b n xs ys) :
    Calls Tryz.prog 112 #[.slice (some ⟨b, 0, none⟩) n cap, .int .i64 x] w fun e w' => e = .returned (.int .i64 (dens n xs ys x)) ∧ Below w.heap.size w w' := by
  have hlt := hr.lt
  have h0 := c.scale 0 c.pos
  have hk := densities_any b n cap xs ys hn c.pos c.smallP
  rw [dens_first c hx]
  have hpos := c.pos
  have d0 : (((w.alloc (.cells #[.int .i64 x] 2)).alloc (.cells #[.int .i64 0] 2))).cell? ⟨b, 0, none⟩ = some (.int .i16 (xs 0)) := by
    have := (hr.below (((Below.refl _ w).alloc (Nat.le_refl _) (.cells #[.int .i64 x] 2)).alloc (by simp) (.cells #[.int .i64 0] 2)) hlt).cell0 hpos
    simpa using this
  have Hk := Lib.hid hk; clear hk
  have w0 : (0 : Int) < n := by omega
  go_enter Tryz.func112, Tryz.ntmps112
  go_wp2_with fail
  go_quiet (fail)
  have bR := Boxed.new (w.alloc (.cells #[.int .i64 x] 2)) 2 (.int .i64 0)
  have hBW : Below w.heap.size w (((w.alloc (.cells #[.int .i64 x] 2)).alloc (.cells #[.int .i64 0] 2)).drewN nq) := below_drewL (((Below.refl _ w).alloc (Nat.le_refl _) _).alloc (by simp) _) _
  have hWz : (((w.alloc (.cells #[.int .i64 x] 2)).alloc (.cells #[.int .i64 0] 2)).drewN nq).heap.size = w.heap.size + 2 := by simp
  have bR : Boxed (((w.alloc (.cells #[.int .i64 x] 2)).alloc (.cells #[.int .i64 0] 2)).drewN nq) (w.heap.size + 1) 2 (.int .i64 0) := by rw [World.size_alloc] at bR; exact bR
  generalize ((w.alloc (.cells #[.int .i64 x] 2)).alloc (.cells #[.int .i64 0] 2)).drewN nq = W at bR hBW hWz ⊢
  clear d0
  have HWz := Lib.hid hWz; clear hWz
  go_wp2_with fail
  refine (Hk.out _ (hr.below hBW hlt)).mono ?_; rintro e w1 ⟨rfl, hb1⟩
  have bR1 : Boxed w1 (w.heap.size + 1) 2 (.int .i64 0) := (hb1.block _ bR.lt).trans bR
  have cR := bR1.cell
  have fR := bR1.frozen
  have hlo := span_low (ys 0) (ys (n - 1))
  go_wp2_with fail
  refine bodyPost_ret (v := .int .i64 (ys 0)) (by simp [results, Tryz.f112, go_sem, (bR1.set (.int .i64 (ys 0))).cell]) rfl ⟨rfl, ?_⟩
  exact (hBW.trans (hb1.mono hBW.size)).setCell (by simp) _

theorem dens_end {n : Nat} {xs ys : Nat → Int} {x : Int} (c : Crv n xs ys) (h0 : xs 0 < x) (h : ∀ i ∈ List.finRange (n - 1), xs (i.1 + 1) ≤ x) : dens n xs ys x = ys (n - 1) := by
  have hp := c.pos
  refine dens_last ?_
  by_cases e : n - 1 = 0
  · rw [e]; omega
  · have := h ⟨n - 2, by omega⟩ (mem_finR _)
    rw [show n - 2 + 1 = n - 1 by omega] at this
    exact this
theorem dens_mid {n k : Nat} {xs ys : Nat → Int} {x : Int} (c : Crv n xs ys) (h0 : xs 0 < x) (hk : k ≤ n - 1) {ini : List (Fin (n - 1))} {i : Fin (n - 1)} (e : fins (n - 1) k = ini ++ [i]) (h : ∀ j ∈ ini, xs (j.1 + 1) ≤ x) (h1 : x < xs (i.1 + 1)) :
    tint (xs i.1) (ys i.1) (xs (i.1 + 1)) (ys (i.1 + 1)) x = dens n xs ys x := by
  cases k with
  | zero => rw [fins_zero] at e; simp at e
  | succ k =>
    rw [fins_succ (by omega)] at e
    obtain ⟨rfl, e2⟩ := List.append_inj' e rfl
    have hik : i.1 = k := by
      have := congrArg (fun l => l.map Fin.val) e2
      simpa using this.symm
    rw [hik] at h1 ⊢
    have hx : xs k ≤ x := by
      cases k with
      | zero => omega
      | succ m => exact h ⟨m, by omega⟩ (by rw [fins_succ (by omega)]; simp)
    rw [tint_interp (c.rise k (by omega)).2 hx, dens_seg c (by omega) hx h1]

set_option maxRecDepth 100000 in
set_option maxHeartbeats 2000000 in
theorem at_high (b n cap : Nat) (xs ys : Nat → Int) (hn : n ≤ 1048576) (c : Crv n xs ys) (x : Int) (hx0 : xs 0 < x) (hx : x ≤ 1000000) (w : World) (hr : PtRow w b n xs ys) :
    Calls Tryz.prog 112 #[.slice (some ⟨b, 0, none⟩) n cap, .int .i64 x] w fun e w' => e = .returned (.int .i64 (dens n xs ys x)) ∧ Below w.heap.size w w' := by
  have hlt := hr.lt
  have h0 := c.scale 0 c.pos
  have hs := c.smallP
  have hk := densities_any b n cap xs ys hn c.pos c.smallP
  have hpos := c.pos
  have d0 : (((w.alloc (.cells #[.int .i64 x] 2)).alloc (.cells #[.int .i64 0] 2))).cell? ⟨b, 0, none⟩ = some (.int .i16 (xs 0)) := by
    have := (hr.below (((Below.refl _ w).alloc (Nat.le_refl _) (.cells #[.int .i64 x] 2)).alloc (by simp) (.cells #[.int .i64 0] 2)) hlt).cell0 hpos
    simpa using this
  have Hk := Lib.hid hk; clear hk
  have w0 : (0 : Int) < n := by omega
  have hdx : decide (x ≤ xs 0) = false := decide_eq_false (by omega)
  refine (callsIn_wide (n := 10)).1 ?_
  refine callsIn_of_wp_marks Tryz.func112 rfl trivial ?_ rfl
  simp only [Tryz.ntmps112, List.size_toArray, List.length_cons, List.length_nil, Nat.reduceAdd, Nat.reduceSub, Array.replicate_succ, Array.replicate_zero, List.push_toArray, List.append_toArray, List.nil_append, List.cons_append]
  gi_wp2
  refine wpIn_region_quiet_lit rfl (by kernel_rfl) (by kernel_rfl) ?_
  repeat (gi_big_quiet_step (fail))
  refine wpQuietIn_nil ?_
  rintro _ ⟨nq, rfl⟩
  have bA := (Boxed.new w 2 (.int .i64 x)).alloc (.cells #[.int .i64 0] 2)
  have bR := Boxed.new (w.alloc (.cells #[.int .i64 x] 2)) 2 (.int .i64 0)
  have hBW : Below w.heap.size w (((w.alloc (.cells #[.int .i64 x] 2)).alloc (.cells #[.int .i64 0] 2)).drewN nq) := below_drewL (((Below.refl _ w).alloc (Nat.le_refl _) _).alloc (by simp) _) _
  have hWz : (((w.alloc (.cells #[.int .i64 x] 2)).alloc (.cells #[.int .i64 0] 2)).drewN nq).heap.size = w.heap.size + 2 := by simp
  have bA : Boxed (((w.alloc (.cells #[.int .i64 x] 2)).alloc (.cells #[.int .i64 0] 2)).drewN nq) w.heap.size 2 (.int .i64 x) := bA
  have bR : Boxed (((w.alloc (.cells #[.int .i64 x] 2)).alloc (.cells #[.int .i64 0] 2)).drewN nq) (w.heap.size + 1) 2 (.int .i64 0) := by rw [World.size_alloc] at bR; exact bR
  generalize ((w.alloc (.cells #[.int .i64 x] 2)).alloc (.cells #[.int .i64 0] 2)).drewN nq = W1 at bA bR hBW hWz ⊢
  clear d0
  gi_wp2
  refine ⟨trivial, ?_⟩
  refine (parts_in Fence.wide 9 trivial rfl _ _ _ _).mono ?_; rintro e w' ⟨rfl, rfl⟩
  rw [hWz]
  have bN := Boxed.new W1 29 (.slice (some ⟨b, 0, none⟩) n cap)
  rw [hWz] at bN
  have bA := bA.alloc (.cells #[.slice (some ⟨b, 0, none⟩) n cap] 29)
  have bR := bR.alloc (.cells #[.slice (some ⟨b, 0, none⟩) n cap] 29)
  have hB0 : Below w.heap.size w (W1.alloc (.cells #[.slice (some ⟨b, 0, none⟩) n cap] 29)) := hBW.alloc hBW.size _
  have hsz : (W1.alloc (.cells #[.slice (some ⟨b, 0, none⟩) n cap] 29)).heap.size = w.heap.size + 3 := by simp; omega
  have hr0 := hr.below hB0 hlt
  obtain ⟨W0, hW0⟩ : ∃ W0, W1.alloc (.cells #[.slice (some ⟨b, 0, none⟩) n cap] 29) = W0 := ⟨_, rfl⟩
  rw [hW0] at bA bR bN hB0 hsz hr0 ⊢
  clear hW0 hWz
  gi_wp2
  refine wpIn_rangeFunc_ownH rfl (by omega) (gf := 138) (lb := #[.pointer (some ⟨w.heap.size + 2, 0, none⟩)]) rfl trivial (enters_of Tryz.func138 (by kernel_rfl) rfl)
    (parts_stops Fence.wide 9 trivial rfl (by omega) (w.heap.size + 2) b n cap xs ys hn hs W0 (by omega) bN.cell hr0) keeps2_t (keeps2_b (by omega) (by omega)) (Below.refl _ _) (fun _ => rfl)
    (fun pre W => ((∀ i ∈ pre, xs (i.1 + 1) ≤ x) ∧ Boxed W w.heap.size 2 (.int .i64 x) ∧ Boxed W (w.heap.size + 1) 2 (.int .i64 0)) ∧ w.heap.size + 2 < W.heap.size ∧ Below w.heap.size w W)
    (fun cd pre W => (cd = .ret ∧ ∃ ini i, pre = ini ++ [i] ∧ (∀ j ∈ ini, xs (j.1 + 1) ≤ x) ∧ x < xs (i.1 + 1) ∧ Boxed W (w.heap.size + 1) 2 (.int .i64 (tint (xs i.1) (ys i.1) (xs (i.1 + 1)) (ys (i.1 + 1)) x))) ∧ w.heap.size + 2 < W.heap.size ∧ Below w.heap.size w W)
    (OwnFrom.and (OwnFrom.and (ownFrom_pure _ _) (OwnFrom.and (Own.from (boxed_own _ _ _) _) (Own.from (boxed_own _ _ _) _))) (OwnFrom.and (ownFrom_size _ _) (ownFrom_below (Nat.le_refl _) (by omega))))
    (fun cd => OwnFrom.and (Own.from (fun s X Y row hs hg hr => by
      obtain ⟨hc, ini, i, e1, e2, e3, e4⟩ := hs
      exact ⟨hc, ini, i, e1, e2, e3, boxed_own _ _ (fun (_ : Unit) => Value.int .i64 (tint (xs i.1) (ys i.1) (xs (i.1 + 1)) (ys (i.1 + 1)) x)) () X Y row e4 hg hr⟩) _) (OwnFrom.and (ownFrom_size _ _) (ownFrom_below (Nat.le_refl _) (by omega))))
    ⟨⟨by simp, bA, bR⟩, by omega, hB0⟩
    (fun i a' W => ∃ Bx, w.heap.size + 2 < Bx ∧ PartBox W Bx xs ys i.1 ∧ a' = { tmps := #[.slice (some ⟨b, 0, none⟩) n cap, .int .i64 x, undef, .pointer (some ⟨w.heap.size, 0, none⟩), .pointer (some ⟨w.heap.size + 1, 0, none⟩), undef, .pointer (some ⟨Bx, 0, none⟩), .int .i64 x, .slice (some ⟨b, 0, none⟩) n cap, .pointer (some ⟨b, 0, none⟩), .pointer (some ⟨b, 0, none⟩), .int .i16 (xs 0), .int .i64 (xs 0), .bool false, undef, undef, undef, .slice (some ⟨b, 0, none⟩) n cap, .func (.func 138) #[] #[.pointer (some ⟨w.heap.size + 2, 0, none⟩)], .int .i64 (i.1 : Int), .agg #[.int .i16 (xs i.1), .int .i16 (ys i.1), .int .i16 (xs (i.1 + 1)), .int .i16 (ys (i.1 + 1))], undef, undef, undef, undef, undef, undef, undef, undef, undef, undef, undef, undef], defers := [] })
    (fun x a' s X Y row hs hg hr => by obtain ⟨Bx, h1, h2, h3⟩ := hs; exact ⟨Bx, h1, h2.own hg (fun r e => (hr r e).2), h3⟩)
    ?assign ?body ?done ?stop
  case assign =>
    rintro l pre i W K ⟨⟨hp, bA1, bR1⟩, hZ, hB1⟩ hK
    unfold partE partV
    have hz := hB1.size
    gi_wp2
    exact hK _ _ ((KeepsOthers.alloc _ _).from _) (Keeps2.of_below ((Below.refl _ W).alloc (Nat.le_refl _) _) (by omega) (by omega)) ⟨⟨hp, bA1.alloc _, bR1.alloc _⟩, by simp; omega, hB1.alloc hz _⟩ ⟨W.heap.size, by omega, PartBox.new W xs ys i.1, rfl⟩
  case body =>
    rintro l pre i a' W hl - ⟨⟨hp, bA1, bR1⟩, hZ, hB1⟩ ⟨Bx, hBx, bX, rfl⟩ hlt2
    have hi := i.2
    have hs1 := hs (i.1 + 1) (by omega)
    have hz := hB1.size
    have hp1 : ∀ (h : xs (i.1 + 1) ≤ x), ∀ j ∈ pre ++ [i], xs (j.1 + 1) ≤ x := fun h j hj => by
      rcases List.mem_append.1 hj with hj | hj
      · exact hp j hj
      · obtain rfl : j = i := by simpa using hj
        exact h
    have Hp1 := Lib.hid hp1; clear hp1
    have Hp := Lib.hid hp; clear hp
    obtain ⟨e0, e1, e2, e3⟩ := bX.cells
    have hbl := bX.lt
    have hrl := bR1.lt
    have cA := bA1.cell
    have hr1 := fun W => partAt_crv c (i := i.1) (by omega) (x := x) (by omega) hx W
    unfold partV at hr1
    have Hr1 := Lib.hid hr1; clear hr1
    by_cases h1 : x < xs (i.1 + 1)
    · gi_wp2
      refine ⟨trivial, ?_⟩
      refine (CallsIn.inRound l (callsIn_wide.2 (Hr1.out _))).mono ?_; rintro e w1 ⟨rfl, hb1⟩
      have bR2 : Boxed w1 (w.heap.size + 1) 2 (.int .i64 0) := (hb1.block _ hrl).trans bR1
      have cR := bR2.cell
      have fR := bR2.frozen
      gi_wp2
      exact ⟨(keepsFrom_below hb1).trans ((KeepsOthers.setCell _ _ _).from _), ⟨rfl, pre, i, rfl, Hp.out, h1, bR2.set _⟩, by have := hb1.size; simp; omega, (hB1.trans (hb1.mono hz)).setCell (by simp) _⟩
    · have h1' : decide (x < xs (i.1 + 1)) = false := decide_eq_false h1
      gi_wp2
      exact ⟨KeepsFrom.refl _ _, ⟨rfl, rfl⟩, ⟨Hp1.out (by omega), bA1, bR1⟩, hZ, hB1⟩
  case done =>
    rintro D l W hD rfl ⟨⟨hp, bA1, bR1⟩, hZ, hB1⟩ hK
    have hv := dens_end c hx0 hp
    have Hv := Lib.hid hv; clear hv
    have Hp := Lib.hid hp; clear hp
    have hDl := (Array.getElem?_eq_some_iff.1 hK).1
    have hz := hB1.size
    have hrl := bR1.lt
    gi_wp2
    refine ⟨trivial, ?_⟩
    refine (callsIn_wide.2 (Hk.out _ (hr.below hB1 hlt))).mono ?_; rintro e w1 ⟨rfl, hb1⟩
    have bR2 : Boxed w1 (w.heap.size + 1) 2 (.int .i64 0) := (hb1.block _ hrl).trans bR1
    have hK := (hb1.block D hDl).trans hK
    have cR := bR2.cell
    have fR := bR2.frozen
    have hhi := span_high (ys 0) (ys (n - 1))
    gi_wp2
    have hK' := (KeepsOthers.setCell w1 ⟨w.heap.size + 1, 0, none⟩ (.int .i64 (ys (n - 1)))).same D _ hK rfl
    refine ⟨by simp, .inl ⟨_, _, rfl, run_takeDeferred hK', ?_⟩⟩
    have hc5 := cell_kept (bR2.set (.int .i64 (ys (n - 1)))).cell (grownBy_putObj' _ D (.deferred none)) (fun r e => by cases e; exact ⟨_, hK', rfl⟩)
    refine ⟨.int .i64 (ys (n - 1)), ?_, ret_int Hv.out.symm, ((hB1.trans (hb1.mono hz)).setCell (p := ⟨w.heap.size + 1, 0, none⟩) (by simp) _).trans (belowK_b (w := w) (Nat.le_refl _) _ D _ _ (by omega) hK' rfl rfl)⟩
    simp [results, Tryz.f112, go_sem, hc5]
  case stop =>
    rintro D cd pre W hD ⟨k, hk, rfl⟩ ⟨⟨rfl, ini, i, e1, e2, e3, bR1⟩, hZ, hB1⟩ hK
    have hv := dens_mid c hx0 hk e1 e2 e3
    have Hv := Lib.hid hv; clear hv
    have cR := bR1.cell
    gi_wp2
    refine ⟨by simp, .inl ⟨_, _, rfl, run_takeDeferred hK, ?_⟩⟩
    have hc5 := cell_kept cR (grownBy_putObj' _ D (.deferred none)) (fun r e => by cases e; exact ⟨_, hK, rfl⟩)
    refine ⟨_, ?_, ret_int Hv.out, hB1.trans (belowK_b (w := w) (Nat.le_refl _) W D _ _ (by omega) hK rfl rfl)⟩
    simp [results, Tryz.f112, go_sem, hc5]

theorem at_any (b n cap : Nat) (xs ys : Nat → Int) (hn : n ≤ 1048576) (c : Crv n xs ys) (x : Int) (hx : -1000000 ≤ x) (hx' : x ≤ 1000000) (w : World) (hr : PtRow w b n xs ys) :
    Calls Tryz.prog 112 #[.slice (some ⟨b, 0, none⟩) n cap, .int .i64 x] w fun e w' => e = .returned (.int .i64 (dens n xs ys x)) ∧ Below w.heap.size w w' := by
  by_cases h : x ≤ xs 0
  · exact at_low b n cap xs ys hn c x h hx w hr
  · exact at_high b n cap xs ys hn c x (by omega) hx' w hr
end Go.Proofs.YtnlcjbobfhmnmabGreatDoor

namespace Go.Proofs.YtnlcjbobfhmnmabGreatDoor
open Go.RowKit

set_option maxRecDepth 100000 in
set_option maxHeartbeats 1000000 in
theorem l02At_any (b n cap : Nat) (xs ys : Nat → Int) (hn : n ≤ 1048576) (c : Crv n xs ys) (x : Int) (hx : -1000000 ≤ x) (hx' : x ≤ 1000000) (w : World) (hr : PtRow w b n xs ys) :
    Calls Tryz.prog 92 #[.slice (some ⟨b, 0, none⟩) n cap, .int .i64 x] w fun e w' => e = .returned (.int .i64 (dens n xs ys x)) ∧ Below w.heap.size w w' := by
  have hlt := hr.lt
  have hpos := c.pos
  have h0 := c.small c.pos
  have hl := c.small (j := n - 1) (by omega)
  have c0 := hr.cell0 hpos
  have c1 := hr.cell1 hpos
  rw [Nat.zero_mul] at c0 c1
  rw [Nat.zero_add] at c1
  have w0 : (0 : Int) < n := by omega
  have e1 : ((n : Int) - 1).toNat = n - 1 := by omega
  have e2 : (n : Int) - 1 < n := by omega
  by_cases hlo : x ≤ xs 0
  · have hv := dens_first c hlo
    have Hv := Lib.hid hv; clear hv
    go_enter Tryz.func92, Tryz.ntmps92
    go_wp2
    go_ret
    exact ⟨ret_int Hv.out.symm, Below.refl _ _⟩
  · have d0 := hr.cell0 (k := n - 1) (by omega)
    have d1 := hr.cell1 (k := n - 1) (by omega)
    by_cases hhi : xs (n - 1) ≤ x
    · have hv := dens_last (n := n) (ys := ys) hhi
      have Hv := Lib.hid hv; clear hv
      go_enter Tryz.func92, Tryz.ntmps92
      go_wp2
      go_ret
      exact ⟨ret_int Hv.out.symm, Below.refl _ _⟩
    · go_enter Tryz.func92, Tryz.ntmps92
      go_wp2
      go_loopw [6] (fun i wr => ∃ k : Nat, k + 1 < n ∧ i = .int .i64 k ∧ xs k ≤ x ∧ wr = w) (fun i _ => n - (intOf i).toNat)
      case atStart =>
        refine ⟨0, ?_, rfl, by omega, rfl⟩
        rcases Nat.lt_or_ge 1 n with h | h
        · exact h
        · exfalso
          have : n - 1 = 0 := by omega
          rw [this] at hhi
          omega
      case round =>
        obtain ⟨k, hk, rfl, hxk, rfl⟩ := hrel
        have f0 := hr.cell0 (k := k) (by omega)
        have f1 := hr.cell1 (k := k) (by omega)
        have g0 := hr.cell0 (k := k + 1) hk
        have g1 := hr.cell1 (k := k + 1) hk
        have sk := c.scale k (by omega)
        have sk1 := c.scale (k + 1) hk
        have rk := c.rise k hk
        have w3 : ((k : Int) + 1).toNat = k + 1 := by omega
        have w4 : (k : Int) + 1 < n := by omega
        by_cases hm : xs (k + 1) ≤ x
        · have hk2 : k + 1 + 1 < n := by
            rcases Nat.lt_or_ge (k + 1 + 1) n with h | h
            · exact h
            · exfalso
              have : n - 1 = k + 1 := by omega
              rw [this] at hhi
              omega
          clear d0 d1 c0 c1
          go_wp2
          go_roundw
          case rel => exact ⟨k + 1, hk2, by go_num, hm, trivial⟩
          case measure => simp [intOf]; omega
        · have hv := dens_seg c hk hxk (by omega)
          have Hv := Lib.hid hv; clear hv
          have hP := prod_bd (a := ys (k + 1) - ys k) (b := x - xs k) (by omega) (by omega) (by omega) (by omega)
          have hp0 : 0 ≤ (ys (k + 1) - ys k) * (x - xs k) := Int.mul_nonneg (by omega) (by omega)
          generalize hP' : (ys (k + 1) - ys k) * (x - xs k) = P at hP hp0
          have hQ := tdiv_bd (d := xs (k + 1) - xs k) hP.1 hP.2
          have hQi : P.tdiv (xs (k + 1) - xs k) = P / (xs (k + 1) - xs k) := Int.tdiv_eq_ediv_of_nonneg hp0
          generalize hQ' : P.tdiv (xs (k + 1) - xs k) = Q at hQ hQi
          have hr1 : interp (xs k) (ys k) (xs (k + 1)) (ys (k + 1)) x = ys k + Q := by unfold interp; rw [hP', hQi]
          have Hr1 := Lib.hid hr1; clear hr1 hQi
          have hz : ¬ (xs (k + 1) - xs k = 0) := by omega
          have i1 : IntKind.i64.wrap (x - xs k) = x - xs k := IntWalk.i64_in _ (by omega)
          have i2 : IntKind.i64.wrap P = P := IntWalk.i64_in _ (by omega)
          have i3 : IntKind.i64.wrap Q = Q := IntWalk.i64_in _ (by omega)
          have i4 : IntKind.i64.wrap (ys k + Q) = ys k + Q := IntWalk.i64_in _ (by omega)
          clear d0 d1 c0 c1
          go_wp2
          go_quiet (fail)
          go_wp2
          go_ret
          exact ⟨ret_int (Hv.out.trans Hr1.out).symm, by (repeat (first | exact Below.refl _ _ | assumption | apply Below.drew | apply below_drewL | apply below_drewP | (refine Below.alloc ?_ (by first | omega | (simp; done) | (simp; omega)) _) | (refine Below.setCell ?_ (by first | omega | (simp; done) | (simp; omega)) _)))⟩
end Go.Proofs.YtnlcjbobfhmnmabGreatDoor

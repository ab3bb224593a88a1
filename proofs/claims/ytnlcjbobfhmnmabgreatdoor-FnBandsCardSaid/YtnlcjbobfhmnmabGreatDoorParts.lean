/-
  The iterator over the parts of a curve: each part with the index of its first point, for every loop body that leaves the points alone. Condition: at most 1048576 points.
-/
import Derived.RangeFuncNested
import Derived.RangeFuncLeaves
import Derived.RangeFuncBox
import Derived.Shelf.Abstract
import Derived.Shelf.RegionOpen
import Derived.OwnWalkIn
import Derived.TacticsInMore
import Derived.LoopNIn
import Derived.LoopIn
import Derived.Test.YtnlcjbobfhmnmabGreatDoorQX
import Derived.Test.YtnlcjbobfhmnmabGreatDoorCvX
namespace Go.Proofs.YtnlcjbobfhmnmabGreatDoor
open Go.RowKit Go.Shelf

attribute [local go_sem] Oper.semAt_some

/-- Two blocks lie as they lay. -/
def Keeps2 (b c : Nat) (W W' : World) : Prop := W'.heap[b]? = W.heap[b]? ∧ W'.heap[c]? = W.heap[c]?
theorem keeps2_t {b c : Nat} {A B C : World} (h : Keeps2 b c A B) (k : Keeps2 b c B C) : Keeps2 b c A C := ⟨k.1.trans h.1, k.2.trans h.2⟩
theorem keeps2_b {b c N : Nat} (hb : b < N) (hc : c < N) (W : World) (l : Nat) (o o' : Obj) (hl : N ≤ l) (_ : W.heap[l]? = some o) (_ : o.isCells = false) (_ : o.isWalk = false) : Keeps2 b c W (W.putObj l o') :=
  ⟨World.putObj_heap_other (by omega), World.putObj_heap_other (by omega)⟩
theorem Keeps2.of_below {b c : Nat} {W W' : World} (h : Below W.heap.size W W') (hb : b < W.heap.size) (hc : c < W.heap.size) : Keeps2 b c W W' := ⟨h.block b hb, h.block c hc⟩
theorem PtRow.of_heap {w w' : World} {b n : Nat} {fs es : Nat → Int} (h : PtRow w b n fs es) (hb : w'.heap[b]? = w.heap[b]?) : PtRow w' b n fs es := by
  obtain ⟨m, f, hm, hr, he⟩ := h
  exact ⟨m, f, hm, hr.of_block hb, he⟩
/-- The first k of m numbers. -/
def fins (m k : Nat) : List (Fin m) := (List.finRange m).take k
theorem fins_zero (m : Nat) : fins m 0 = [] := by simp [fins]
theorem fins_succ {m k : Nat} (h : k < m) : fins m (k + 1) = fins m k ++ [⟨k, h⟩] := by
  unfold fins
  rw [List.take_succ_eq_append_getElem (by simpa using h)]
  simp
theorem fins_length {m k : Nat} (h : k ≤ m) : (fins m k).length = k := by simp [fins, h]
theorem fins_all (m : Nat) : fins m m = List.finRange m := by unfold fins; rw [List.take_of_length_le (by simp)]
theorem mem_finR {m : Nat} (i : Fin m) : i ∈ List.finRange m := List.mem_finRange i

set_option maxRecDepth 100000 in
set_option maxHeartbeats 2000000 in
theorem parts1_in (F : Fence) (m : Nat) (hf : F.fn 138) (hro : F.round = none) (hm : 1 ≤ m) (l Bs b n cap : Nat) (xs ys : Nat → Int) (hn : n ≤ 1048576) (hs : SmallP n xs ys) (J Jx : List (Fin (n - 1)) → World → Prop)
    (hJd : ∀ pre W q, J pre W → J pre (World.drewN W q)) (hY : ∀ pre (x : Fin (n - 1)) W, J pre W → pre.length < n - 1 → YieldAt F (m - 1) Tryz.prog l #[.int .i64 (x.1 : Int), partV (xs x.1) (ys x.1) (xs (x.1 + 1)) (ys (x.1 + 1))] W fun e W' =>
      (e = .returned (.bool true) ∧ J (pre ++ [x]) W' ∧ Keeps2 b Bs W W') ∨ (e = .returned (.bool false) ∧ Jx (pre ++ [x]) W'))
    (W : World) (hBs : W.cell? ⟨Bs, 0, none⟩ = some (.slice (some ⟨b, 0, none⟩) n cap)) (hr : PtRow W b n xs ys) (h0 : J [] W) :
    CallsIn F m Tryz.prog 138 #[.func (.yield l) #[] #[], .pointer (some ⟨Bs, 0, none⟩)] W fun e W' => (∃ v, e = .returned v) ∧
      ((∃ ys, ys = List.finRange (n - 1) ∧ J ys W') ∨ (∃ pre, (∃ k, k ≤ n - 1 ∧ pre = fins (n - 1) k) ∧ Jx pre W')) := by
  refine callsIn_of_wp Tryz.func138 rfl hf ?_ hro
  simp only [Tryz.ntmps138, List.size_toArray, List.length_cons, List.length_nil, Nat.reduceAdd, Nat.reduceSub, Array.replicate_succ, Array.replicate_zero, List.push_toArray, List.append_toArray, List.nil_append, List.cons_append]
  gi_wp2
  gi_loopw [3] (fun i wr => ∃ k : Nat, k ≤ n - 1 ∧ i = .int .i64 ((k : Int) + 1) ∧ J (fins (n - 1) k) wr ∧ Keeps2 b Bs W wr) (fun i _ => n + 1 - (intOf i).toNat)
  case atStart => exact ⟨0, Nat.zero_le _, rfl, by rw [fins_zero]; exact h0, rfl, rfl⟩
  case round =>
    obtain ⟨k, hk, rfl, hJs, hnx⟩ := hrel
    have hbs : wr.cell? ⟨Bs, 0, none⟩ = some (.slice (some ⟨b, 0, none⟩) n cap) := by rw [World.cell?_of_block (a := ⟨Bs, 0, none⟩) hnx.2]; exact hBs
    have hR := hr.of_heap hnx.1
    by_cases hlt : k + 1 < n
    · have c0 := hR.cell0 (k := k) (by omega)
      have c1 := hR.cell1 (k := k) (by omega)
      have d0 := hR.cell0 (k := k + 1) (by omega)
      have d1 := hR.cell1 (k := k + 1) (by omega)
      have hsk := hs k (by omega)
      have hsk1 := hs (k + 1) (by omega)
      have w3 : (k : Int) < n := by omega
      have w4 : (k : Int) + 1 < n := by omega
      have w7 : ((k : Int) + 1).toNat = k + 1 := by omega
      gi_wp2
      refine wpIn_region_quiet_tail 13 (fun w' => ∃ q, w' = wr.drewN q) hro (by kernel_rfl) (by kernel_rfl) ⟨1, rfl⟩ ?_
      simp only [List.take_succ_cons, List.take_zero, List.drop_succ_cons, List.drop_zero]
      repeat (gi_big_quiet_step (fail))
      refine wpQuietIn_nil ?_
      rintro _ ⟨q, rfl⟩
      obtain ⟨fn, tmps, assign, body, hy, hR3⟩ := hY _ ⟨k, by omega⟩ (wr.drewN q) (hJd _ _ q hJs) (by rw [fins_length hk]; omega)
      unfold partV at hy
      dsimp only at hy
      clear hY
      gi_wp2
      refine hR3.mono ?_
      rintro e W3 (⟨rfl, hJ3, hk3⟩ | ⟨rfl, hJx3⟩)
      · gi_wp2
        go_roundw
        case rel => exact ⟨k + 1, by omega, by go_num, by rw [fins_succ (by omega)]; exact hJ3, keeps2_t hnx hk3⟩
        case measure => simp [intOf]; omega
      · gi_wp2
        refine bodyPost_ret (results_none rfl _ _ _) rfl ?_
        exact ⟨⟨_, rfl⟩, .inr ⟨_, ⟨k + 1, by omega, (fins_succ (by omega)).symm⟩, hJx3⟩⟩
    · obtain rfl : k = n - 1 := by omega
      gi_wp2
      go_end0
      exact ⟨⟨_, rfl⟩, .inl ⟨_, rfl, by rw [← fins_all]; exact hJs⟩⟩

theorem drewN_grown (W : World) (q : Nat) : W.grownBy (W.drewN q) none := ⟨rfl, rfl, rfl, Nat.le_refl _, fun _ _ _ => rfl⟩

set_option maxHeartbeats 1000000 in
theorem parts_in (F : Fence) (m : Nat) (hf : F.fn 128) (hro : F.round = none) (A : Option Addr) (n cap : Nat) (w : World) :
    CallsIn F m Tryz.prog 128 #[.slice A n cap] w fun e w' => e = .returned (.func (.func 138) #[] #[.pointer (some ⟨w.heap.size, 0, none⟩)]) ∧ w' = w.alloc (.cells #[.slice A n cap] 29) := by
  refine callsIn_of_wp Tryz.func128 rfl hf ?_ hro
  simp only [Tryz.ntmps128, List.size_toArray, List.length_cons, List.length_nil, Nat.reduceAdd, Nat.reduceSub, Array.replicate_succ, Array.replicate_zero, List.push_toArray, List.append_toArray, List.nil_append, List.cons_append]
  gi_wp2
  go_ret
  exact ⟨rfl, rfl⟩

/-- A part as it is yielded. -/
def partE (xs ys : Nat → Int) (m : Nat) (x : Fin m) : Array Value := #[.int .i64 (x.1 : Int), partV (xs x.1) (ys x.1) (xs (x.1 + 1)) (ys (x.1 + 1))]
theorem parts_stops (F : Fence) (m : Nat) (hf : F.fn 138) (hro : F.round = none) (hm : 1 ≤ m) (Bs b n cap : Nat) (xs ys : Nat → Int) (hn : n ≤ 1048576) (hs : SmallP n xs ys) (w : World) (hlt : Bs < w.heap.size)
    (hBs : w.cell? ⟨Bs, 0, none⟩ = some (.slice (some ⟨b, 0, none⟩) n cap)) (hr : PtRow w b n xs ys) :
    SeqStopsK F m Tryz.prog 138 #[.pointer (some ⟨Bs, 0, none⟩)] (partE xs ys (n - 1)) (Keeps2 b Bs) (fun l => l = List.finRange (n - 1)) (fun pre => ∃ k, k ≤ n - 1 ∧ pre = fins (n - 1) k) (n - 1) w :=
  fun l J Jx W hW hJ _ hY h0 => parts1_in F m hf hro hm l Bs b n cap xs ys hn hs J Jx (fun pre W q h => hJ pre W _ none h (drewN_grown W q) (fun r e => by cases e)) hY W
    (by rw [hW.cell (p := ⟨Bs, 0, none⟩) hlt]; exact hBs) (hr.below hW hr.lt) h0

/-- Block B is a variable that holds a part. -/
def PartBox (W : World) (B : Nat) (xs ys : Nat → Int) (i : Nat) : Prop := W.heap[B]? = some (.cells #[.int .i16 (xs i), .int .i16 (ys i), .int .i16 (xs (i + 1)), .int .i16 (ys (i + 1))] 163 (0, 0))
theorem PartBox.new (W : World) (xs ys : Nat → Int) (i : Nat) : PartBox (W.alloc (.cells #[.int .i16 (xs i), .int .i16 (ys i), .int .i16 (xs (i + 1)), .int .i16 (ys (i + 1))] 163)) W.heap.size xs ys i := World.alloc_heap_new W _
theorem PartBox.lt {W : World} {B : Nat} {xs ys : Nat → Int} {i : Nat} (h : PartBox W B xs ys i) : B < W.heap.size := (Array.getElem?_eq_some_iff.1 h).1
theorem PartBox.cells {W : World} {B : Nat} {xs ys : Nat → Int} {i : Nat} (h : PartBox W B xs ys i) :
    W.cell? ⟨B, 0, none⟩ = some (.int .i16 (xs i)) ∧ W.cell? ⟨B, 1, none⟩ = some (.int .i16 (ys i)) ∧ W.cell? ⟨B, 2, none⟩ = some (.int .i16 (xs (i + 1))) ∧ W.cell? ⟨B, 3, none⟩ = some (.int .i16 (ys (i + 1))) := by
  have h' : W.heap[B]? = _ := h
  simp [World.cell?, h']
theorem PartBox.own {W W' : World} {row : Option Nat} {B : Nat} {xs ys : Nat → Int} {i : Nat} (h : PartBox W B xs ys i) (hg : W.grownBy W' row) (hr : ∀ r, row = some r → ∃ o : Obj, W.heap[r]? = some o ∧ o.isCells = false) : PartBox W' B xs ys i :=
  (hg.block B h.lt (fun e => by
    obtain ⟨o, ho, hc⟩ := hr B e.symm
    rw [show W.heap[B]? = _ from h] at ho; cases ho; cases hc)).trans h
theorem ownFrom_size {β : Type} (B N : Nat) : OwnFrom B (fun (_ : β) W => N < W.heap.size) := fun _ _ _ _ hs hg _ => Nat.lt_of_lt_of_le hs hg.size
theorem keepsFrom_below {B : Nat} {W W' : World} (h : Below W.heap.size W W') : KeepsFrom B W W' := ⟨h.size, fun k o _ hk _ => (h.block k (Array.getElem?_eq_some_iff.1 hk).1).trans hk⟩

set_option maxRecDepth 100000 in
set_option maxHeartbeats 2000000 in
theorem rises_any (b n cap : Nat) (xs ys : Nat → Int) (hn : n ≤ 1048576) (hs : SmallP n xs ys) (w : World) (hr : PtRow w b n xs ys) :
    Calls Tryz.prog 109 #[.slice (some ⟨b, 0, none⟩) n cap] w fun e w' => e = .returned (.bool (risesB xs ys (n - 1))) ∧ Below w.heap.size w w' := by
  refine (callsIn_wide (n := 10)).1 ?_
  refine callsIn_of_wp_marks Tryz.func109 rfl trivial ?_ rfl
  simp only [Tryz.ntmps109, List.size_toArray, List.length_cons, List.length_nil, Nat.reduceAdd, Nat.reduceSub, Array.replicate_succ, Array.replicate_zero, List.push_toArray, List.append_toArray, List.nil_append, List.cons_append]
  gi_wp2
  refine ⟨trivial, ?_⟩
  refine (parts_in Fence.wide 9 trivial rfl _ _ _ _).mono ?_; rintro e w' ⟨rfl, rfl⟩
  gi_wp2
  have hlt := hr.lt
  have bR := Boxed.new w 4 (.bool false)
  have bN := Boxed.new (w.alloc (.cells #[.bool false] 4)) 29 (.slice (some ⟨b, 0, none⟩) n cap)
  rw [World.size_alloc] at bN
  have bR := bR.alloc (.cells #[.slice (some ⟨b, 0, none⟩) n cap] 29)
  have hB0 : Below w.heap.size w ((w.alloc (.cells #[.bool false] 4)).alloc (.cells #[.slice (some ⟨b, 0, none⟩) n cap] 29)) := ((Below.refl _ w).alloc (Nat.le_refl _) _).alloc (by simp) _
  have hsz : ((w.alloc (.cells #[.bool false] 4)).alloc (.cells #[.slice (some ⟨b, 0, none⟩) n cap] 29)).heap.size = w.heap.size + 2 := by simp
  have hr0 := hr.below hB0 hlt
  obtain ⟨W0, hW0⟩ : ∃ W0, (w.alloc (.cells #[.bool false] 4)).alloc (.cells #[.slice (some ⟨b, 0, none⟩) n cap] 29) = W0 := ⟨_, rfl⟩
  rw [hW0] at bR bN hB0 hsz hr0 ⊢
  clear hW0
  refine wpIn_rangeFunc_ownH rfl (by omega) (gf := 138) (lb := #[.pointer (some ⟨w.heap.size + 1, 0, none⟩)]) rfl trivial (enters_of Tryz.func138 (by kernel_rfl) rfl)
    (parts_stops Fence.wide 9 trivial rfl (by omega) (w.heap.size + 1) b n cap xs ys hn hs W0 (by omega) bN.cell hr0) keeps2_t (keeps2_b (by omega) (by omega)) (Below.refl _ _) (fun _ => rfl)
    (fun pre W => ((∀ i ∈ pre, riseOk xs ys i.1 = true) ∧ Boxed W w.heap.size 4 (.bool false)) ∧ w.heap.size + 1 < W.heap.size ∧ Below w.heap.size w W)
    (fun c pre W => (c = .ret ∧ (∃ i ∈ pre, riseOk xs ys i.1 = false) ∧ Boxed W w.heap.size 4 (.bool false)) ∧ w.heap.size + 1 < W.heap.size ∧ Below w.heap.size w W)
    (OwnFrom.and (OwnFrom.and (ownFrom_pure _ _) (Own.from (boxed_own _ _ _) _)) (OwnFrom.and (ownFrom_size _ _) (ownFrom_below (Nat.le_refl _) (by omega))))
    (fun c => OwnFrom.and (OwnFrom.and (ownFrom_pure _ _) (OwnFrom.and (ownFrom_pure _ _) (Own.from (boxed_own _ _ _) _))) (OwnFrom.and (ownFrom_size _ _) (ownFrom_below (Nat.le_refl _) (by omega))))
    ⟨⟨by simp, bR⟩, by omega, hB0⟩
    (fun x a' W => ∃ Bx, w.heap.size + 1 < Bx ∧ PartBox W Bx xs ys x.1 ∧ a' = { tmps := #[.slice (some ⟨b, 0, none⟩) n cap, undef, .pointer (some ⟨w.heap.size, 0, none⟩), undef, .pointer (some ⟨Bx, 0, none⟩), .slice (some ⟨b, 0, none⟩) n cap, .func (.func 138) #[] #[.pointer (some ⟨w.heap.size + 1, 0, none⟩)], .int .i64 (x.1 : Int), .agg #[.int .i16 (xs x.1), .int .i16 (ys x.1), .int .i16 (xs (x.1 + 1)), .int .i16 (ys (x.1 + 1))], undef, undef, undef, undef, undef, undef, undef, undef], defers := [] })
    (fun x a' s X Y row hs hg hr => by obtain ⟨Bx, h1, h2, h3⟩ := hs; exact ⟨Bx, h1, h2.own hg (fun r e => (hr r e).2), h3⟩)
    ?assign ?body ?done ?stop
  case assign =>
    rintro l pre x W K ⟨⟨hp, bR1⟩, hZ, hB1⟩ hK
    unfold partE partV
    have hz := hB1.size
    have hz' := bR1.lt
    gi_wp2
    exact hK _ _ ((KeepsOthers.alloc _ _).from _) (Keeps2.of_below ((Below.refl _ W).alloc (Nat.le_refl _) _) (by omega) (by omega)) ⟨⟨hp, bR1.alloc _⟩, by simp; omega, hB1.alloc hz _⟩ ⟨W.heap.size, by omega, PartBox.new W xs ys x.1, rfl⟩
  case body =>
    rintro l pre x a' W hl - ⟨⟨hp, bR1⟩, hZ, hB1⟩ ⟨Bx, hBx, bX, rfl⟩ hlt2
    have hx := x.2
    have hs0 := hs x.1 (by omega)
    have hs1 := hs (x.1 + 1) (by omega)
    have hz := hB1.size
    have hp1 : ∀ (h : riseOk xs ys x.1 = true), ∀ i ∈ pre ++ [x], riseOk xs ys i.1 = true := fun h i hi => by
      rcases List.mem_append.1 hi with hi | hi
      · exact hp i hi
      · obtain rfl : i = x := by simpa using hi
        exact h
    have hp2 : ∀ (h : riseOk xs ys x.1 = false), ∃ i ∈ pre ++ [x], riseOk xs ys i.1 = false := fun h => ⟨x, by simp, h⟩
    have Hp2 := Lib.hid hp2; clear hp2
    have Hp1 := Lib.hid hp1; clear hp1
    have Hp := Lib.hid hp; clear hp
    obtain ⟨e0, e1, e2, e3⟩ := bX.cells
    have hbl := bX.lt
    have hrl := bR1.lt
    have hr1 := partRun_any (xs x.1) (ys x.1) (xs (x.1 + 1)) (ys (x.1 + 1)) hs0.1 hs1.1
    have hr2 := partRise_any (xs x.1) (ys x.1) (xs (x.1 + 1)) (ys (x.1 + 1)) hs0.2 hs1.2
    unfold partV at hr1 hr2
    have Hr1 := Lib.hid hr1; clear hr1
    have Hr2 := Lib.hid hr2; clear hr2
    by_cases h1 : xs (x.1 + 1) - xs x.1 ≤ 0
    · have ho : riseOk xs ys x.1 = false := by simp [riseOk]; omega
      have Ho := Lib.hid ho; clear ho
      gi_wp2
      refine ⟨trivial, ?_⟩
      refine (CallsIn.inRound l (callsIn_wide.2 (Hr1.out _))).mono ?_; rintro e w1 ⟨rfl, hb1⟩
      have cR : w1.cell? ⟨w.heap.size, 0, none⟩ = some (.bool false) := by rw [hb1.cell (p := ⟨w.heap.size, 0, none⟩) hrl]; exact bR1.cell
      have bR2 : Boxed w1 w.heap.size 4 (.bool false) := (hb1.block _ hrl).trans bR1
      have fR := bR2.frozen
      gi_wp2
      refine ⟨trivial, ?_⟩
      gi_wp2
      exact ⟨(keepsFrom_below hb1).trans ((KeepsOthers.setCell _ _ _).from _), ⟨rfl, Hp2.out Ho.out, bR2.set _⟩, by have := hb1.size; simp; omega, (hB1.trans (hb1.mono hz)).setCell (Nat.le_refl _) _⟩
    · by_cases h2 : ys (x.1 + 1) - ys x.1 < 0
      · have ho : riseOk xs ys x.1 = false := by simp [riseOk]; omega
        have Ho := Lib.hid ho; clear ho
        gi_wp2
        refine ⟨trivial, ?_⟩
        refine (CallsIn.inRound l (callsIn_wide.2 (Hr1.out _))).mono ?_; rintro e w1 ⟨rfl, hb1⟩
        have bX1 : PartBox w1 Bx xs ys x.1 := (hb1.block _ hbl).trans bX
        obtain ⟨e0, e1, e2, e3⟩ := bX1.cells
        gi_wp2
        refine ⟨trivial, ?_⟩
        refine (CallsIn.inRound l (callsIn_wide.2 (Hr2.out _))).mono ?_; rintro e w2 ⟨rfl, hb2⟩
        have hb2 := hb1.trans (hb2.mono hb1.size)
        have cR : w2.cell? ⟨w.heap.size, 0, none⟩ = some (.bool false) := by rw [hb2.cell (p := ⟨w.heap.size, 0, none⟩) hrl]; exact bR1.cell
        have bR2 : Boxed w2 w.heap.size 4 (.bool false) := (hb2.block _ hrl).trans bR1
        have fR := bR2.frozen
        gi_wp2
        exact ⟨(keepsFrom_below hb2).trans ((KeepsOthers.setCell _ _ _).from _), ⟨rfl, Hp2.out Ho.out, bR2.set _⟩, by have := hb2.size; simp; omega, (hB1.trans (hb2.mono hz)).setCell (Nat.le_refl _) _⟩
      · have ho : riseOk xs ys x.1 = true := by simp [riseOk]; omega
        have Ho := Lib.hid ho; clear ho
        gi_wp2
        refine ⟨trivial, ?_⟩
        refine (CallsIn.inRound l (callsIn_wide.2 (Hr1.out _))).mono ?_; rintro e w1 ⟨rfl, hb1⟩
        have bX1 : PartBox w1 Bx xs ys x.1 := (hb1.block _ hbl).trans bX
        obtain ⟨e0, e1, e2, e3⟩ := bX1.cells
        gi_wp2
        refine ⟨trivial, ?_⟩
        refine (CallsIn.inRound l (callsIn_wide.2 (Hr2.out _))).mono ?_; rintro e w2 ⟨rfl, hb2⟩
        have hb2 := hb1.trans (hb2.mono hb1.size)
        have bR2 : Boxed w2 w.heap.size 4 (.bool false) := (hb2.block _ hrl).trans bR1
        gi_wp2
        exact ⟨keepsFrom_below hb2, Keeps2.of_below hb2 (by omega) (by omega), ⟨Hp1.out Ho.out, bR2⟩, by have := hb2.size; omega, hB1.trans (hb2.mono hz)⟩
  case done =>
    rintro D l W hD rfl ⟨⟨hp, bR1⟩, hZ, hB1⟩ hK
    have hrz : risesB xs ys (n - 1) = true := by
      rw [risesB_iff]
      intro j hj
      have := hp ⟨j, hj⟩ (mem_finR _)
      simp only [riseOk, Bool.and_eq_true, decide_eq_true_eq] at this
      exact this
    have Hrz := Lib.hid hrz; clear hrz
    have Hp := Lib.hid hp; clear hp
    have cR := bR1.cell
    have fR := bR1.frozen
    gi_wp2
    have hK' := (KeepsOthers.setCell W ⟨w.heap.size, 0, none⟩ (.bool true)).same D _ hK rfl
    refine ⟨by simp, .inl ⟨_, _, rfl, run_takeDeferred hK', ?_⟩⟩
    have hc5 := cell_kept (World.cell?_setCell_same' W ⟨w.heap.size, 0, none⟩ (.bool true) (by rw [cR]; rfl)) (grownBy_putObj' _ D (.deferred none)) (fun r e => by cases e; exact ⟨_, hK', rfl⟩)
    refine ⟨.bool true, ?_, ret_bool Hrz.out.symm, (hB1.setCell (p := ⟨w.heap.size, 0, none⟩) (Nat.le_refl _) _).trans (belowK_b (w := w) (Nat.le_refl _) _ D _ _ (by omega) hK' rfl rfl)⟩
    simp [results, Tryz.f109, go_sem, hc5]
  case stop =>
    rintro D c pre W hD ⟨k, hk, rfl⟩ ⟨⟨rfl, ⟨i, hi, hf⟩, bR1⟩, hZ, hB1⟩ hK
    have hrz : risesB xs ys (n - 1) = false := by
      rcases h : risesB xs ys (n - 1) with _ | _
      · rfl
      · have := risesB_iff.1 h i.1 i.2
        simp [riseOk, this] at hf
    have cR := bR1.cell
    gi_wp2
    refine ⟨by simp, .inl ⟨_, _, rfl, run_takeDeferred hK, ?_⟩⟩
    have hc5 := cell_kept cR (grownBy_putObj' _ D (.deferred none)) (fun r e => by cases e; exact ⟨_, hK, rfl⟩)
    refine ⟨.bool false, ?_, ret_bool hrz.symm, hB1.trans (belowK_b (w := w) (Nat.le_refl _) W D _ _ (by omega) hK rfl rfl)⟩
    simp [results, Tryz.f109, go_sem, hc5]
end Go.Proofs.YtnlcjbobfhmnmabGreatDoor

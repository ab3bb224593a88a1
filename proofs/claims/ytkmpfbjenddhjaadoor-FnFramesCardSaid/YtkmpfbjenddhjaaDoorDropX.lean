/-
  slices.Concat of two lists of prints; a list of prints without one. Condition: at most 1048576 prints each.
-/
import Derived.Test.YtkmpfbjenddhjaaDoorPrL
import Derived.Lib.AppendZerosOnto
import Derived.Laws.Slices
import Derived.Maps.AppendAt
import Derived.Test.YtkmpfbjenddhjaaDoorSwapS
import Derived.Test.YtkmpfbjenddhjaaDoorPickX
namespace Go.Proofs.YtkmpfbjenddhjaaDoor
open Go.RowKit

/-- Frames, one of them left out. -/
def drpF (g : Nat → Nat → Int) (i : Nat) : Nat → Nat → Int := appF g (fun j => g (i + 1 + j)) i
theorem run_front {P : Program} (t e : TypeId) (i : TypeInfo) (ht : P.underlying t = some (.slice e)) (hi : P.info? e = some i) (b o len cap k : Nat) (h2 : k ≤ cap) (w : World) :
    (Instr.slice t (.slice (some ⟨b, o, none⟩) len cap) none (some (.int .i64 (k : Int))) none).run P w = .ok (.slice (some ⟨b, o, none⟩) k cap) w := by
  simp [Instr.slice, run_underlying ht, Instr.sliceBounds, run_sliceBound, sizeOf, typeInfo, hi, h2, Addr.add]
theorem run_back {P : Program} (t e : TypeId) (i : TypeInfo) (ht : P.underlying t = some (.slice e)) (hi : P.info? e = some i) (a : Option Addr) (len cap k : Nat) (h2 : k ≤ len) (w : World) :
    (Instr.slice t (.slice a len cap) (some (.int .i64 (k : Int))) none none).run P w = .ok (.slice (if cap = k then a else a.map (·.add (k * i.size))) (len - k) (cap - k)) w := by
  simp [Instr.slice, run_underlying ht, Instr.sliceBounds, run_sliceBound, sizeOf, typeInfo, hi, h2]
/-- What stands behind a frame. -/
theorem back_pr {P : Program} (t : TypeId) (ht : P.underlying t = some (.slice 58)) (i0 : TypeInfo) (hi : P.info? 58 = some i0) (hz : i0.size = 64) (b o n cap i : Nat) (hin : i < n) (hc : n ≤ cap) :
    ∃ o2, (∀ W : World, (Instr.slice t (.slice (some ⟨b, o, none⟩) n cap) (some (.int .i64 ((i : Int) + 1))) none none).run P W = .ok (.slice (some ⟨b, o2, none⟩) (n - (i + 1)) (cap - (i + 1))) W) ∧ (∀ W g, PrsAt W b o n g → PrsAt W b o2 (n - (i + 1)) (fun j => g (i + 1 + j))) := by
  have hr := fun W => run_back t _ i0 ht hi (some ⟨b, o, none⟩) n cap (i + 1) (by omega) W
  rw [show ((i + 1 : Nat) : Int) = (i : Int) + 1 from by omega, hz] at hr
  by_cases h : cap = i + 1
  · rw [if_pos h] at hr
    exact ⟨o, hr, fun W g hP j hj => by omega⟩
  · rw [if_neg h, Option.map_some, Addr.add_mid] at hr
    refine ⟨_, hr, fun W g hP j hj => ?_⟩
    rw [show o + (i + 1) * 64 + j * 64 = o + (i + 1 + j) * 64 by omega]
    exact hP (i + 1 + j) (by omega)
theorem PrsAt.front {W : World} {b o n i : Nat} {g : Nat → Nat → Int} (h : PrsAt W b o n g) (hi : i ≤ n) : PrsAt W b o i g := fun j hj => h j (by omega)

theorem yields_back {P : Program} {ops : Array Oper} {S : World → Prop} {op : Oper} {a : Act} {t e : TypeId} {x lo : Operand} {X L v : Value} (hgd : op.guard = none) (ho : op.op = .slice t x (some lo) none none) (ht : P.underlying t = some (.slice e)) (hx : a.eval x = X) (hl : a.eval lo = L)
    (hr : ∀ W : World, (Instr.slice t X (some L) none none).run P W = .ok v W) : YieldsIf P ops S op v a :=
  .inl ⟨by simp [Region.wanted, hgd], fun W _ => by
    unfold execOp
    simp only [ho]
    simp [hx, hl, Instr.sliceAt, run_underlying ht, hr W]⟩
theorem yields_front {P : Program} {ops : Array Oper} {S : World → Prop} {op : Oper} {a : Act} {t e : TypeId} {x hi : Operand} {X L v : Value} (hgd : op.guard = none) (ho : op.op = .slice t x none (some hi) none) (ht : P.underlying t = some (.slice e)) (hx : a.eval x = X) (hl : a.eval hi = L)
    (hr : ∀ W : World, (Instr.slice t X none (some L) none).run P W = .ok v W) : YieldsIf P ops S op v a :=
  .inl ⟨by simp [Region.wanted, hgd], fun W _ => by
    unfold execOp
    simp only [ho]
    simp [hx, hl, Instr.sliceAt, run_underlying ht, hr W]⟩

section
variable {ops : Array Oper} {rest : List Oper} {o : Oper} {a : Act} {Q : Exit → Act → World → Prop} {w : World} {L n m c b' o' : Nat} {v : Value} {f h : Nat → Nat → Int} {t : TypeId}
/-- 'append(s, x...)' of prints onto an own list that may be nil. -/
theorem wpList_append_prsN (hgd : o.guard = none) (s x : Operand) (ho : o.op = .call { callee := .builtin .append, args := #[s, x], argTypes := #[t, t] }) (ht : Tryd.prog.underlying t = some (.slice 58))
    (hs : a.eval s = v) (hown : w.ownsRow L 58 64 v n (prL f n)) (hxv : a.eval x = .slice (some ⟨b', o', none⟩) m c) (hx : PrsAt w b' o' m h) (hnm : n + m ≤ 2097152) (hL : L ≤ w.heap.size)
    (hK : ∀ v' w', w'.ownsRow L 58 64 v' (n + m) (prL (appF f h n) (n + m)) → Below L w w' → w.grownBy w' v.ownBlock → wpList Tryd.prog ops Q rest (a.put o.dst v') w') :
    wpList Tryd.prog ops Q (o :: rest) a w := by
  refine wpList_plain hgd fun K hK' => ?_
  obtain ⟨i0, hi, hz0, hz1, hz2⟩ := info_parts prInfo
  obtain ⟨v', w', hr, h2, h3, h4, h5⟩ := run_append_own_at (P := Tryd.prog) w L t o.type 58 i0 (.agg #[.int .i16 0, .int .i16 0, .int .i16 0, .int .i16 0, .int .i16 0, .int .i16 0, .int .i16 0, .int .i16 0, .int .i16 0, .int .i16 0, .int .i16 0, .int .i16 0, .int .i16 0, .int .i16 0, .int .i16 0, .int .i16 0, .int .i16 0, .int .i16 0, .int .i16 0, .int .i16 0, .int .i16 0, .int .i16 0, .int .i16 0, .int .i16 0, .int .i16 0, .int .i16 0, .int .i16 0, .int .i16 0, .int .i16 0, .int .i16 0, .int .i16 0, .int .i16 0, .int .i16 0, .int .i16 0, .int .i16 0, .int .i16 0, .int .i16 0, .int .i16 0, .int .i16 0, .int .i16 0, .int .i16 0, .int .i16 0, .int .i16 0, .int .i16 0, .int .i16 0, .int .i16 0, .int .i16 0, .int .i16 0, .int .i16 0, .int .i16 0, .int .i16 0, .int .i16 0, .int .i16 0, .int .i16 0, .int .i16 0, .int .i16 0, .int .i16 0, .int .i16 0, .int .i16 0, .int .i16 0, .int .i16 0, .int .i16 0, .int .i16 0, .int .i16 0]) 64 128 ht hi hz0 hz1 hz2 rfl (by decide) v n (prL f n) hown ⟨b', o', none⟩ m c (prL h m) (prL_len _ _) hx.news (prL_one _ _) (by unfold maxLen; omega) (by omega) hL
  rw [prL_append] at h2
  unfold Oper.wp execOp
  simp only [ho, resolve, invoke, builtin, Sem.run_bind, Sem.run_pure, Result.andThen_ok, List.map_toArray, List.map_cons, List.map_nil, hs, hxv, hr]
  exact hK' _ _ (hK v' w' h2 (Below.grown (Below.refl _ _) h3 hL (fun k hk => (hown.lt k hk).1)) h3)
end

theorem zeros_sizeP (z : Array Value) (n : Nat) : (Builtin.zeroCells z n).size = n * z.size := by simp [Builtin.zeroCells]
set_option maxRecDepth 100000 in
set_option maxHeartbeats 1000000 in
theorem GrowPr_any (N : Nat) (hN : N ≤ 2097152) (w : World) :
    Calls Tryd.prog 73 #[.slice none 0 0, .int .i64 N] w fun e w' => ∃ v, e = .returned v ∧ w'.ownsRow w.heap.size 58 64 v 0 [] ∧ Below w.heap.size w w' := by
  obtain ⟨i0, hi, hz0, hz1, hz2⟩ := info_parts prInfo
  obtain ⟨z, hz⟩ : ∃ z : Value, z = .agg #[.int .i16 0, .int .i16 0, .int .i16 0, .int .i16 0, .int .i16 0, .int .i16 0, .int .i16 0, .int .i16 0, .int .i16 0, .int .i16 0, .int .i16 0, .int .i16 0, .int .i16 0, .int .i16 0, .int .i16 0, .int .i16 0, .int .i16 0, .int .i16 0, .int .i16 0, .int .i16 0, .int .i16 0, .int .i16 0, .int .i16 0, .int .i16 0, .int .i16 0, .int .i16 0, .int .i16 0, .int .i16 0, .int .i16 0, .int .i16 0, .int .i16 0, .int .i16 0, .int .i16 0, .int .i16 0, .int .i16 0, .int .i16 0, .int .i16 0, .int .i16 0, .int .i16 0, .int .i16 0, .int .i16 0, .int .i16 0, .int .i16 0, .int .i16 0, .int .i16 0, .int .i16 0, .int .i16 0, .int .i16 0, .int .i16 0, .int .i16 0, .int .i16 0, .int .i16 0, .int .i16 0, .int .i16 0, .int .i16 0, .int .i16 0, .int .i16 0, .int .i16 0, .int .i16 0, .int .i16 0, .int .i16 0, .int .i16 0, .int .i16 0, .int .i16 0] := ⟨_, rfl⟩
  rw [← hz] at hz0
  have hzs : z.cells.size = 64 := by subst hz; rfl
  clear hz
  rcases Nat.eq_zero_or_pos N with rfl | hpos
  · clear hi hz0 hz1 hz2 hzs
    go_enter Tryd.func73, Tryd.ntmps73
    go_wp2
    go_ret
    exact ⟨_, rfl, ⟨rfl, .inl ⟨rfl, rfl⟩⟩, Below.refl _ _⟩
  · have hrz := fun ty => Lib.run_append_grow_zeros w 80 3 ty 58 i0 _ .i64 .i64 Tryd.underlying80 Tryd.underlying3 hi hz0 none 0 0 [] (run_firstCells_none w.drew i0.size 0 0 0) N hpos (by rw [hz1]; decide) (by omega) (by omega) (by rw [hz2]; omega) (by rw [Nat.zero_add]; exact growslice_fits hpos (by rw [hz2]; omega))
    rw [Nat.zero_add] at hrz
    have hG0 : N ≤ grownCap w N 0 58 := grownCap_ge w _ _ _
    have hGm := grownCap_le_maxLen w N 0 58 (by unfold maxLen; omega)
    generalize grownCap w N 0 58 = G at hrz hG0 hGm
    have h4 : (N : Int) > 0 := by omega
    have hown : (w.drew.alloc (.cells (([] : List Value).toArray ++ Builtin.zeroCells z.cells N ++ Builtin.zeroCells z.cells (G - N)) 58)).ownsRow w.heap.size 58 64 (.slice (some ⟨w.heap.size, 0, none⟩) 0 G) 0 [] := by
      refine ⟨rfl, .inr ⟨w.heap.size, G, _, rfl, Nat.le_refl _, heap_alloc_new w.drew _, Nat.zero_le _, hGm, ?_, by simp⟩⟩
      simp only [Array.size_append, zeros_sizeP, hzs]
      simp; omega
    have hB : Below w.heap.size w (w.drew.alloc (.cells (([] : List Value).toArray ++ Builtin.zeroCells z.cells N ++ Builtin.zeroCells z.cells (G - N)) 58)) := (below_drew1 w).alloc (Nat.le_refl _) _
    generalize w.drew.alloc (.cells (([] : List Value).toArray ++ Builtin.zeroCells z.cells N ++ Builtin.zeroCells z.cells (G - N)) 58) = W at hrz hown hB
    have hG63 : G ≤ 9223372036854775807 := by unfold maxLen at hGm; omega
    clear hi hz0 hz1 hz2 hzs
    go_enter Tryd.func73, Tryd.ntmps73
    go_wp2_with (at_builtin; refine Lib.wpList_append_run _ rfl _ _ _ _ rfl _ _ rfl rfl _ _ (hrz _) ?_)
    all_goals (go_ret; exact ⟨_, rfl, hown, hB⟩)

set_option maxRecDepth 100000 in
set_option maxHeartbeats 2000000 in
theorem ConcatPr_any (b o m c : Nat) (g : Nat → Nat → Int) (b' o' m' c' : Nat) (g' : Nat → Nat → Int) (q : Nat) (hm : m ≤ 1048576) (hm' : m' ≤ 1048576) (w : World) (hp : PrsAt w b o m g) (hb : b < w.heap.size) (hp' : PrsAt w b' o' m' g') (hb' : b' < w.heap.size)
    (h0 : w.cell? ⟨q, 0, none⟩ = some (.slice (some ⟨b, o, none⟩) m c)) (h1 : w.cell? ⟨q, 1, none⟩ = some (.slice (some ⟨b', o', none⟩) m' c')) :
    Calls Tryd.prog 66 #[.slice (some ⟨q, 0, none⟩) 2 2] w fun e w' => ∃ v, e = .returned v ∧ w'.ownsRow w.heap.size 58 64 v (m + m') (prL (appF g g' m) (m + m')) ∧ Below w.heap.size w w' := by
  have hg : q < w.heap.size := World.block_lt_of_cell? w _ h0
  have hgr := GrowPr_any (m + m') (by omega) w
  have e0 : (m : Int) + (m' : Int) = ((m + m' : Nat) : Int) := by omega
  have E0 := Lib.hid e0; clear e0
  have n0 : decide ((m : Int) < 0) = false := decide_eq_false (by omega)
  have n1 : decide ((m : Int) + (m' : Int) < 0) = false := decide_eq_false (by omega)
  have Hgr := Lib.hid hgr; clear hgr
  have HP := Lib.hid hp; have HP' := Lib.hid hp'; clear hp hp'
  go_enter Tryd.func66, Tryd.ntmps66
  go_wp2_with fail
  refine wp_loop_rounds 3 ?_
  rw [rounds_succ]
  go_wp2_with fail
  rw [rounds_succ]
  go_wp2_with fail
  rw [rounds_succ]
  go_wp2_with fail
  rw [E0.out]
  refine Hgr.out.mono ?_; rintro e w1 ⟨v, rfl, o1, hb1⟩
  have h0' := below_cellOf hb1 h0 (Nat.le_refl _)
  have h1' := below_cellOf hb1 h1 (Nat.le_refl _)
  have p1 := Lib.hid (HP.out.below hb1 hb)
  have p2 := Lib.hid (HP'.out.below hb1 hb')
  have z1 := hb1.size
  have O1 := Lib.hid (show w1.ownsRow w.heap.size 58 64 v 0 (prL g 0) by simpa [prL_nil] using o1)
  have H1 := Lib.hid hb1
  have N1 : Hid (0 + m ≤ 2097152) := Lib.hid (by omega)
  have N2 : Hid (m + m' ≤ 2097152) := Lib.hid (by omega)
  clear h0 h1 o1 hb1
  go_wp2_with fail
  refine wp_loop_rounds 3 ?_
  rw [rounds_succ]
  go_wp2_with (at_builtin; refine wpList_append_prsN (c := c) rfl _ _ rfl Tryd.underlying80 rfl O1.out rfl p1.out N1.out H1.out.size ?_; intro v2 w2 o2 k2 hg2)
  have e2 : appF g g 0 = g := by funext i; simp [appF]
  rw [e2] at o2
  simp only [Nat.zero_add] at o2
  have hb2 : Below w.heap.size w w2 := H1.out.trans k2
  have h1'' : w2.cell? ⟨q, 1, none⟩ = _ := (k2.cell (p := ⟨q, 1, none⟩) hg).trans h1'
  have p3 := Lib.hid (p2.out.below k2 hb')
  have O2 := Lib.hid o2
  have H2 := Lib.hid hb2
  clear h0' h1' p1 p2 hg2 o2 k2 hb2 O1 H1
  go_wp2_with fail
  rw [rounds_succ]
  go_wp2_with (at_builtin; refine wpList_append_prsN (c := c') rfl _ _ rfl Tryd.underlying80 rfl O2.out rfl p3.out N2.out H2.out.size ?_; intro v3 w3 o3 k3 hg3)
  have H3 := Lib.hid (H2.out.trans k3)
  have O3 := Lib.hid o3
  clear p3 hg3 O2 h1'' k3 o3
  go_wp2_with fail
  rw [rounds_succ]
  go_wp2_with fail
  go_ret
  exact ⟨_, rfl, O3.out, H3.out⟩

set_option maxRecDepth 100000 in
set_option maxHeartbeats 2000000 in
theorem without_any (b o n c : Nat) (g : Nat → Nat → Int) (i : Nat) (hi : i < n) (hn : n ≤ 1048576) (hc : n ≤ c) (w : World) (hx : PrsAt w b o n g) (hb : b < w.heap.size) :
    Calls Tryd.prog 56 #[.slice (some ⟨b, o, none⟩) n c, .int .i64 (i : Int)] w fun e w' => ∃ A cap, e = .returned (.slice A (n - 1) cap) ∧ Mine w' w.heap.size w'.heap.size 58 64 (.slice A (n - 1) cap) (n - 1) (prF (drpF g i)) ∧ Below w.heap.size w w' := by
  obtain ⟨i0, hi0, hz0, hz1, hz2⟩ := info_parts prInfo
  obtain ⟨o2, hbk, hpb⟩ := back_pr (P := Tryd.prog) 80 Tryd.underlying80 i0 hi0 hz1 b o n c i hi hc
  have hfr := fun W => run_front (P := Tryd.prog) 80 _ i0 Tryd.underlying80 hi0 b o n c i (by omega) W
  clear hi0 hz0 hz1 hz2
  have hp : Hid (∀ W, Below w.heap.size w W → PrsAt W b o i g ∧ PrsAt W b o2 (n - (i + 1)) (fun j => g (i + 1 + j)) ∧ b < W.heap.size) := Lib.hid fun W h => by
    have h1 := hx.below h hb
    exact ⟨h1.front (by omega), hpb W g h1, Nat.lt_of_lt_of_le hb h.size⟩
  clear hx hpb
  have hi' : (i : Int) < n := by omega
  have hwr : IntKind.i64.wrap ((i : Int) + 1) = (i : Int) + 1 := by rw [IntKind.wrap_i64]; omega
  have hm1 : Hid (i ≤ 1048576) := Lib.hid (by omega)
  have hm2 : Hid (n - (i + 1) ≤ 1048576) := Lib.hid (by omega)
  go_enter Tryd.func56, Tryd.ntmps56
  go_wp2_with fail
  refine wp_region_held (S := fun _ => True) (by kernel_rfl) ?_
  have hB0 := below_drew1 w
  have hS0 : True := trivial
  show wpAnyH _ _ _ _ _ _ _ _ w.drew
  generalize w.drew = Wd at *
  simp only [List.size_toArray, List.length_cons, List.length_nil]
  refine wpAnyH_take (i := 0) (v := .slice (some ⟨b, o, none⟩) n c) rfl (by kernel_rfl) (by kernel_rfl) (by kernel_rfl) (fun _ _ _ h => h) (.inl ⟨by rfl, fun W _ => by go_simp⟩) hS0 ?_
  go_frame
  refine wpAnyH_take (i := 1) (v := .int .i64 (i : Int)) rfl (by kernel_rfl) (by kernel_rfl) (by kernel_rfl) (fun _ _ _ h => h) (.inl ⟨by rfl, fun W _ => by go_simp⟩) hS0 ?_
  go_frame
  refine wpAnyH_take (i := 2) (v := .slice (some ⟨b, o, none⟩) i c) rfl (by kernel_rfl) (by kernel_rfl) (by kernel_rfl) (fun _ _ _ h => h) (yields_front rfl rfl Tryd.underlying80 (by go_simp) (by go_simp) hfr) hS0 ?_
  go_frame
  refine wpAnyH_take (i := 3) (v := .slice (some ⟨b, o, none⟩) n c) rfl (by kernel_rfl) (by kernel_rfl) (by kernel_rfl) (fun _ _ _ h => h) (.inl ⟨by rfl, fun W _ => by go_simp⟩) hS0 ?_
  go_frame
  refine wpAnyH_take (i := 4) (v := .int .i64 (i : Int)) rfl (by kernel_rfl) (by kernel_rfl) (by kernel_rfl) (fun _ _ _ h => h) (.inl ⟨by rfl, fun W _ => by go_simp⟩) hS0 ?_
  go_frame
  refine wpAnyH_take (i := 5) (v := .int .i64 ((i : Int) + 1)) rfl (by kernel_rfl) (by kernel_rfl) (by kernel_rfl) (fun _ _ _ h => h) (.inl ⟨by rfl, fun W _ => by go_simp⟩) hS0 ?_
  go_frame
  refine wpAnyH_take (i := 6) (v := .slice (some ⟨b, o2, none⟩) (n - (i + 1)) (c - (i + 1))) rfl (by kernel_rfl) (by kernel_rfl) (by kernel_rfl) (fun _ _ _ h => h) (yields_back rfl rfl Tryd.underlying80 (by go_simp) (by go_simp) hbk) hS0 ?_
  go_frame
  refine wpAnyH_ready (rs := [7]) (by kernel_rfl) (by decide) ?_
  refine AllReadyH.cons rfl ?_ AllReadyH.nil
  intro K5 hK5
  go_simp
  refine hK5.out _ _ trivial (fun _ => ?_)
  clear hK5 K5 hbk hfr
  have hB := hB0.alloc hB0.size (.cells #[.slice (some ⟨b, o, none⟩) i c, .slice (some ⟨b, o2, none⟩) (n - (i + 1)) (c - (i + 1))] 80)
  have h2 := hp.out _ hB
  have hco := Lib.hid (ConcatPr_any b o i c g b o2 (n - (i + 1)) (c - (i + 1)) _ Wd.heap.size hm1.out hm2.out _ h2.1 h2.2.2 h2.2.1 h2.2.2 (show (Wd.alloc (.cells #[.slice (some ⟨b, o, none⟩) i c, .slice (some ⟨b, o2, none⟩) (n - (i + 1)) (c - (i + 1))] 80)).cell? _ = _ by simp) (by simp))
  clear h2 hp
  refine wpAnyH_ready (rs := [8]) (by kernel_rfl) (by decide) ?_
  refine AllReadyH.cons rfl ?_ AllReadyH.nil
  intro K6 hK6
  go_simp
  refine hco.out.mono ?_; rintro e w5 ⟨v5, rfl, o5, hb5⟩
  have R5 := hB.trans (hb5.mono hB.size)
  have M5 := (mine_prs o5).mono (show w.heap.size ≤ _ from hB.size) (Nat.le_refl _)
  rw [show i + (n - (i + 1)) = n - 1 from by omega] at M5
  obtain ⟨A5, cap5, rfl, _⟩ := id M5
  have HM := Lib.hid M5
  have HR := Lib.hid R5
  clear M5 R5 o5 hb5 hB hco hB0
  go_wp2_with fail
  refine hK6.out _ _ trivial (fun _ => ?_)
  clear hK6 K6
  refine wpAnyH_ready (rs := [9]) (by kernel_rfl) (by decide) ?_
  refine AllReadyH.cons rfl ?_ AllReadyH.nil
  intro KZ hKZ
  go_simp
  refine hKZ.out _ _ trivial (fun _ => ?_)
  clear hKZ KZ
  refine wpAnyH_done (by kernel_rfl) ?_ _
  go_wp2_with fail
  go_ret
  exact ⟨_, _, rfl, HM.out, HR.out⟩
end Go.Proofs.YtkmpfbjenddhjaaDoor

namespace Go.Proofs.YtkmpfbjenddhjaaDoor
open Go.RowKit

set_option maxRecDepth 100000 in
set_option maxHeartbeats 8000000 in
theorem specDrop_ok (X : Int) (A : Option Addr) (n cap : Nat) (g : Nat → Nat → Int) (i : Nat) (hn : n ≤ 1048576) (hcap : n ≤ cap) (hX : -128 ≤ X ∧ X ≤ 127) (hs : ∀ i, i < n → S16 (g i)) (hi : i < n) (h0i : askC X n g i = 0) (w : World) (hr : PrsIn w A n g) :
    Calls Tryd.prog 13 #[.agg #[.int .i8 X, .slice A n cap], .int .i64 (i : Int)] w (ShtOut w.heap.size X (n - 1) (drpF g i) 0 w) := by
  have k0 := ((Below.refl w.heap.size w).alloc (Nat.le_refl _) (.cells #[.int .i8 X, .slice A n cap] 29)).alloc (by simp) (.cells #[.int .i8 0, .slice none 0 0] 29)
  have hq := fun W c0 c1 hp => l07Asked_any w.heap.size X A n cap g i hn hX hs W c0 c1 hp
  rw [h0i] at hq
  have Hq := Lib.hid hq; clear hq hs
  have d0 : ((w.alloc (.cells #[.int .i8 X, .slice A n cap] 29)).alloc (.cells #[.int .i8 0, .slice none 0 0] 29)).cell? ⟨w.heap.size, 0, none⟩ = some (.int .i8 X) := by simp
  have d1 : ((w.alloc (.cells #[.int .i8 X, .slice A n cap] 29)).alloc (.cells #[.int .i8 0, .slice none 0 0] 29)).cell? ⟨w.heap.size, 1, none⟩ = some (.slice A n cap) := by simp
  have r0 : ((w.alloc (.cells #[.int .i8 X, .slice A n cap] 29)).alloc (.cells #[.int .i8 0, .slice none 0 0] 29)).cell? ⟨w.heap.size + 1, 0, none⟩ = some (.int .i8 0) := by simp
  have r1 : ((w.alloc (.cells #[.int .i8 X, .slice A n cap] 29)).alloc (.cells #[.int .i8 0, .slice none 0 0] 29)).cell? ⟨w.heap.size + 1, 1, none⟩ = some (.slice none 0 0) := by simp
  have f0 : ((w.alloc (.cells #[.int .i8 X, .slice A n cap] 29)).alloc (.cells #[.int .i8 0, .slice none 0 0] 29)).frozen? ⟨w.heap.size + 1, 0, none⟩ = false := by simp
  have f1 : ((w.alloc (.cells #[.int .i8 X, .slice A n cap] 29)).alloc (.cells #[.int .i8 0, .slice none 0 0] 29)).frozen? ⟨w.heap.size + 1, 1, none⟩ = false := by simp
  have hsz : w.heap.size + 1 < ((w.alloc (.cells #[.int .i8 X, .slice A n cap] 29)).alloc (.cells #[.int .i8 0, .slice none 0 0] 29)).heap.size := by simp
  have HP0 := Lib.hid (hr.below k0 (Nat.le_refl _)); clear hr
  have G4 := Lib.hid (And.intro r0 (And.intro r1 (And.intro f0 (And.intro f1 hsz)))); clear r0 r1 f0 f1 hsz
  go_enter Tryd.func13, Tryd.ntmps13
  go_wp2_with fail
  generalize ((w.alloc (.cells #[.int .i8 X, .slice A n cap] 29)).alloc (.cells #[.int .i8 0, .slice none 0 0] 29)) = W0 at *
  refine (Hq.out _ d0 d1 HP0.out).mono ?_; rintro e w1 ⟨rfl, hb1⟩
  have k1 := k0.trans (hb1.mono k0.size)
  have e0 := Lib.hid (below_cellOf hb1 d0 (Nat.le_refl _))
  have e1 := Lib.hid (below_cellOf hb1 d1 (Nat.le_refl _))
  have s0 := Lib.hid (below_cellOf hb1 G4.out.1 (Nat.le_refl _))
  have s1 := Lib.hid (below_cellOf hb1 G4.out.2.1 (Nat.le_refl _))
  have u0 := Lib.hid ((hb1.frozen (p := ⟨w.heap.size + 1, 0, none⟩) G4.out.2.2.2.2).trans G4.out.2.2.1)
  have u1 := Lib.hid ((hb1.frozen (p := ⟨w.heap.size + 1, 1, none⟩) G4.out.2.2.2.2).trans G4.out.2.2.2.1)
  have hz1 : w.heap.size + 1 < w1.heap.size := Nat.lt_of_lt_of_le G4.out.2.2.2.2 hb1.size
  have hP1 := HP0.out.below hb1 (Nat.le_refl _)
  have K1 := Lib.hid k1
  clear hb1 d0 d1 G4 k0 k1 Hq HP0
  rcases hP1 with h0 | ⟨b, o, rfl, hlt, hc⟩
  · exfalso; omega
  have HP1 : Hid (PrsAt w1 b o n g) := Lib.hid hc
  clear hc h0i
  obtain ⟨i0, hi0, hz0, hz10, hz2⟩ := info_parts prInfo
  obtain ⟨o2, hbk, hpb⟩ := back_pr (P := Tryd.prog) 27 Tryd.underlying27 i0 hi0 hz10 b o n cap i hi hcap
  have hfr := fun W => run_front (P := Tryd.prog) 27 _ i0 Tryd.underlying27 hi0 b o n cap i (by omega) W
  have HPB := Lib.hid hpb
  clear hi0 hz0 hz10 hz2 hpb
  have hi' : (i : Int) < n := by omega
  have hwr : IntKind.i64.wrap ((i : Int) + 1) = (i : Int) + 1 := by rw [IntKind.wrap_i64]; omega
  go_wp2_with fail
  refine wp_region_held (S := fun W => W.cell? ⟨w.heap.size, 1, none⟩ = some (.slice (some ⟨b, o, none⟩) n cap)) (by kernel_rfl) ?_
  have hS0 : w1.drew.cell? ⟨w.heap.size, 1, none⟩ = some (.slice (some ⟨b, o, none⟩) n cap) := e1.out
  have T0 := Lib.hid (below_drew1 w1)
  show wpAnyH _ _ _ _ _ _ _ _ w1.drew
  generalize w1.drew = Wd at *
  simp only [List.size_toArray, List.length_cons, List.length_nil]
  refine wpAnyH_take (i := 1) (v := .pointer (some ⟨w.heap.size, 1, none⟩)) rfl (by kernel_rfl) (by kernel_rfl) (by kernel_rfl) (fun _ _ _ h => h) (.inl ⟨by rfl, fun W _ => by go_simp⟩) hS0 ?_
  go_frame
  refine wpAnyH_take (i := 2) (v := .slice (some ⟨b, o, none⟩) n cap) rfl (by kernel_rfl) (by kernel_rfl) (by kernel_rfl) (fun _ _ _ h => h) (.inl ⟨by rfl, fun W hW => by have h := hW; go_simp⟩) hS0 ?_
  go_frame
  refine wpAnyH_take (i := 3) (v := .int .i64 (i : Int)) rfl (by kernel_rfl) (by kernel_rfl) (by kernel_rfl) (fun _ _ _ h => h) (.inl ⟨by rfl, fun W _ => by go_simp⟩) hS0 ?_
  go_frame
  refine wpAnyH_take (i := 4) (v := .slice (some ⟨b, o, none⟩) i cap) rfl (by kernel_rfl) (by kernel_rfl) (by kernel_rfl) (fun _ _ _ h => h) (yields_front rfl rfl Tryd.underlying27 (by go_simp) (by go_simp) hfr) hS0 ?_
  go_frame
  refine wpAnyH_take (i := 6) (v := .pointer (some ⟨w.heap.size, 1, none⟩)) rfl (by kernel_rfl) (by kernel_rfl) (by kernel_rfl) (fun _ _ _ h => h) (.inl ⟨by rfl, fun W _ => by go_simp⟩) hS0 ?_
  go_frame
  refine wpAnyH_take (i := 7) (v := .slice (some ⟨b, o, none⟩) n cap) rfl (by kernel_rfl) (by kernel_rfl) (by kernel_rfl) (fun _ _ _ h => h) (.inl ⟨by rfl, fun W hW => by have h := hW; go_simp⟩) hS0 ?_
  go_frame
  refine wpAnyH_take (i := 8) (v := .int .i64 (i : Int)) rfl (by kernel_rfl) (by kernel_rfl) (by kernel_rfl) (fun _ _ _ h => h) (.inl ⟨by rfl, fun W _ => by go_simp⟩) hS0 ?_
  go_frame
  refine wpAnyH_take (i := 9) (v := .int .i64 ((i : Int) + 1)) rfl (by kernel_rfl) (by kernel_rfl) (by kernel_rfl) (fun _ _ _ h => h) (.inl ⟨by rfl, fun W _ => by go_simp⟩) hS0 ?_
  go_frame
  refine wpAnyH_take (i := 10) (v := .slice (some ⟨b, o2, none⟩) (n - (i + 1)) (cap - (i + 1))) rfl (by kernel_rfl) (by kernel_rfl) (by kernel_rfl) (fun _ _ _ h => h) (yields_back rfl rfl Tryd.underlying27 (by go_simp) (by go_simp) hbk) hS0 ?_
  go_frame
  refine wpAnyH_ready (rs := [0]) (by kernel_rfl) (by decide) ?_
  refine AllReadyH.cons rfl ?_ AllReadyH.nil
  intro K5 hK5
  go_simp
  have o5 := World.ownsRow_lit (base := w1.heap.size) (e := 58) (size := 64) Wd #[] 0 T0.out.size (Nat.zero_le _) rfl
  have hT5 := T0.out.alloc T0.out.size (.cells #[] 58)
  have O5 := Lib.hid (show (Wd.alloc (.cells #[] 58)).ownsRow w1.heap.size 58 64 (.slice (some ⟨Wd.heap.size, 0, none⟩) 0 0) 0 (prL g 0) by simpa [prL_nil] using o5)
  have T5 := Lib.hid hT5
  have V5 : Hid (Value.slice (some ⟨Wd.heap.size, 0, none⟩) 0 0 ≠ .slice none 0 0) := Lib.hid (by simp)
  have hS5 : (Wd.alloc (.cells #[] 58)).cell? ⟨w.heap.size, 1, none⟩ = some (.slice (some ⟨b, o, none⟩) n cap) := below_cellOf hT5 e1.out (Nat.le_refl _)
  clear o5 hT5 T0 hS0
  refine hK5.out _ _ hS5 (fun _ => ?_)
  clear hK5 K5
  have n1 : Hid (0 + i ≤ 2097152) := Lib.hid (by omega)
  have n2 : Hid (i + (n - (i + 1)) ≤ 2097152) := Lib.hid (by omega)
  generalize Wd.heap.size = qd at *
  generalize (Wd.alloc (.cells #[] 58)) = W5 at *
  refine wpAnyH_ready (rs := [5]) (by kernel_rfl) (by decide) ?_
  refine AllReadyH.cons rfl ?_ AllReadyH.nil
  intro K6 hK6
  refine step_append_prs (c := cap) (by rfl) (.tmp 13) (.tmp 17) (by rfl) Tryd.underlying27 (by go_simp) O5.out (.inl V5.out) (by go_simp) ((HP1.out.below T5.out hlt).front (Nat.le_of_lt hi)) n1.out T5.out.size ?_
  intro q6 c6 w6 o6 hb6 hg6
  have e6 : appF g g 0 = g := by funext i; simp [appF]
  rw [e6] at o6
  simp only [Nat.zero_add] at o6 ⊢
  have T6 := Lib.hid (T5.out.trans hb6)
  have O6 := Lib.hid o6
  have hS6 : w6.cell? ⟨w.heap.size, 1, none⟩ = some (.slice (some ⟨b, o, none⟩) n cap) := below_cellOf T6.out e1.out (Nat.le_refl _)
  have V6 : Hid (Value.slice (some ⟨q6, 0, none⟩) i c6 ≠ .slice none 0 0) := Lib.hid (by simp)
  clear hb6 hg6 o6 T5 O5 V5 hS5 n1
  refine hK6.out _ _ hS6 (fun _ => ?_)
  clear hK6 K6
  refine wpAnyH_ready (rs := [11]) (by kernel_rfl) (by decide) ?_
  refine AllReadyH.cons rfl ?_ AllReadyH.nil
  intro K7 hK7
  refine step_append_prs (c := cap - (i + 1)) (by rfl) (.tmp 18) (.tmp 23) (by rfl) Tryd.underlying27 (by go_simp) O6.out (.inl V6.out) (by go_simp) (HPB.out _ _ (HP1.out.below T6.out hlt)) n2.out T6.out.size ?_
  intro q7 c7 w7 o7 hb7 hg7
  have e7 : i + (n - (i + 1)) = n - 1 := by omega
  rw [e7] at o7 ⊢
  have T7 := Lib.hid (T6.out.trans hb7)
  have O7 := Lib.hid (own_row (show w7.ownsRow w1.heap.size 58 64 (.slice (some ⟨q7, 0, none⟩) (n - 1) c7) (n - 1) (prL (drpF g i) (n - 1)) from o7))
  have hS7 : w7.cell? ⟨w.heap.size, 1, none⟩ = some (.slice (some ⟨b, o, none⟩) n cap) := below_cellOf T7.out e1.out (Nat.le_refl _)
  clear hb7 hg7 o7 T6 O6 V6 hS6 n2 e7 e6
  refine hK7.out _ _ hS7 (fun _ => ?_)
  clear hK7 K7 hbk hfr
  refine wpAnyH_ready (rs := [12]) (by kernel_rfl) (by decide) ?_
  refine AllReadyH.cons rfl ?_ AllReadyH.nil
  intro K8 hK8
  go_simp
  have hn1 : n - 1 ≤ 1048576 := by omega
  refine (l07With_any w.heap.size X q7 0 (n - 1) c7 (drpF g i) hn1 _ (below_cellOf T7.out e0.out (Nat.le_refl _)) O7.out.2.at0 O7.out.2.lt).mono ?_; rintro e w8 ⟨q8, c8, rfl, hq8, hR8, hb8⟩
  have T8 := T7.out.trans (hb8.mono T7.out.size)
  have hS8 : w8.cell? ⟨w.heap.size, 1, none⟩ = some (.slice (some ⟨b, o, none⟩) n cap) := below_cellOf T8 e1.out (Nat.le_refl _)
  have a0 := below_cellOf T8 s0.out (Nat.le_refl _)
  have a1 := below_cellOf T8 s1.out (Nat.le_refl _)
  have g0 := (T8.frozen (p := ⟨w.heap.size + 1, 0, none⟩) hz1).trans u0.out
  have g1 := (T8.frozen (p := ⟨w.heap.size + 1, 1, none⟩) hz1).trans u1.out
  have hq8' : w1.heap.size ≤ q8 := Nat.le_trans T7.out.size hq8
  have HR8 := Lib.hid hR8
  have T8 := Lib.hid T8
  clear hb8 hq8 hR8 T7 hS7 O7
  go_wp2_with fail
  refine hK8.out _ _ hS8 (fun _ => ?_)
  clear hK8 K8
  refine wpAnyH_ready (rs := [13]) (by kernel_rfl) (by decide) ?_
  refine AllReadyH.cons rfl ?_ AllReadyH.nil
  intro K9 hK9
  go_simp
  have hS9 : ((w8.setCell ⟨w.heap.size + 1, 0, none⟩ (.int .i8 X)).setCell ⟨w.heap.size + 1, 1, none⟩ (.slice (some ⟨q8, 0, none⟩) (n - 1) c8)).cell? ⟨w.heap.size, 1, none⟩ = some (.slice (some ⟨b, o, none⟩) n cap) := by rw [World.cell?_setCell_far _ _ _ _ (by show w.heap.size + 1 ≠ w.heap.size; omega), World.cell?_setCell_far _ _ _ _ (by show w.heap.size + 1 ≠ w.heap.size; omega)]; exact hS8
  refine hK9.out _ _ hS9 (fun _ => ?_)
  clear hK9 K9
  refine wpAnyH_ready (rs := [14]) (by kernel_rfl) (by decide) ?_
  refine AllReadyH.cons rfl ?_ AllReadyH.nil
  intro KZ hKZ
  go_simp
  refine hKZ.out _ _ hS9 (fun _ => ?_)
  clear hKZ KZ
  refine wpAnyH_done (by kernel_rfl) ?_ _
  go_wp2_with fail
  refine bodyPost_ret (v := .tuple #[.agg #[.int .i8 X, .slice (some ⟨q8, 0, none⟩) (n - 1) c8], .int .i64 0]) (by simp [results, Tryd.results13, go_sem, a0, a1]) rfl ⟨_, rfl, ?_, ?_⟩
  · exact ((HR8.out.other (by show q8 ≠ w.heap.size + 1; omega) _).other (by show q8 ≠ w.heap.size + 1; omega) _).mineL c8 (by omega)
  · exact ((K1.out.trans (T8.out.mono (Nat.le_of_lt (by omega)))).setCell (by show _ ≤ w.heap.size + 1; omega) _).setCell (by show _ ≤ w.heap.size + 1; omega) _

set_option maxRecDepth 100000 in
set_option maxHeartbeats 4000000 in
theorem specDrop_bad (X : Int) (A : Option Addr) (n cap : Nat) (g : Nat → Nat → Int) (i : Int) (hn : n ≤ 1048576) (hX : -128 ≤ X ∧ X ≤ 127) (hs : ∀ i, i < n → S16 (g i)) (c : Int) (h0i : askC X n g i = c) (hc0 : c = 1 ∨ c = 2) (G : Nat → Nat → Int) (w : World) (hr : PrsIn w A n g) :
    Calls Tryd.prog 13 #[.agg #[.int .i8 X, .slice A n cap], .int .i64 i] w (ShtOut w.heap.size 0 0 G c w) := by
  have k0 := ((Below.refl w.heap.size w).alloc (Nat.le_refl _) (.cells #[.int .i8 X, .slice A n cap] 29)).alloc (by simp) (.cells #[.int .i8 0, .slice none 0 0] 29)
  have hq := fun W c0 c1 hp => l07Asked_any w.heap.size X A n cap g i hn hX hs W c0 c1 hp
  rw [h0i] at hq
  have Hq := Lib.hid hq; clear hq hs
  have d0 : ((w.alloc (.cells #[.int .i8 X, .slice A n cap] 29)).alloc (.cells #[.int .i8 0, .slice none 0 0] 29)).cell? ⟨w.heap.size, 0, none⟩ = some (.int .i8 X) := by simp
  have d1 : ((w.alloc (.cells #[.int .i8 X, .slice A n cap] 29)).alloc (.cells #[.int .i8 0, .slice none 0 0] 29)).cell? ⟨w.heap.size, 1, none⟩ = some (.slice A n cap) := by simp
  have r0 : ((w.alloc (.cells #[.int .i8 X, .slice A n cap] 29)).alloc (.cells #[.int .i8 0, .slice none 0 0] 29)).cell? ⟨w.heap.size + 1, 0, none⟩ = some (.int .i8 0) := by simp
  have r1 : ((w.alloc (.cells #[.int .i8 X, .slice A n cap] 29)).alloc (.cells #[.int .i8 0, .slice none 0 0] 29)).cell? ⟨w.heap.size + 1, 1, none⟩ = some (.slice none 0 0) := by simp
  have f0 : ((w.alloc (.cells #[.int .i8 X, .slice A n cap] 29)).alloc (.cells #[.int .i8 0, .slice none 0 0] 29)).frozen? ⟨w.heap.size + 1, 0, none⟩ = false := by simp
  have f1 : ((w.alloc (.cells #[.int .i8 X, .slice A n cap] 29)).alloc (.cells #[.int .i8 0, .slice none 0 0] 29)).frozen? ⟨w.heap.size + 1, 1, none⟩ = false := by simp
  have hsz : w.heap.size + 1 < ((w.alloc (.cells #[.int .i8 X, .slice A n cap] 29)).alloc (.cells #[.int .i8 0, .slice none 0 0] 29)).heap.size := by simp
  have HP0 := Lib.hid (hr.below k0 (Nat.le_refl _)); clear hr
  have G4 := Lib.hid (And.intro r0 (And.intro r1 (And.intro f0 (And.intro f1 hsz)))); clear r0 r1 f0 f1 hsz
  have hcn : ¬ c = 0 := by omega
  go_enter Tryd.func13, Tryd.ntmps13
  go_wp2_with fail
  generalize ((w.alloc (.cells #[.int .i8 X, .slice A n cap] 29)).alloc (.cells #[.int .i8 0, .slice none 0 0] 29)) = W0 at *
  refine (Hq.out _ d0 d1 HP0.out).mono ?_; rintro e w1 ⟨rfl, hb1⟩
  have k1 := k0.trans (hb1.mono k0.size)
  have s0 := below_cellOf hb1 G4.out.1 (Nat.le_refl _)
  have s1 := below_cellOf hb1 G4.out.2.1 (Nat.le_refl _)
  have u0 := (hb1.frozen (p := ⟨w.heap.size + 1, 0, none⟩) G4.out.2.2.2.2).trans G4.out.2.2.1
  have u1 := (hb1.frozen (p := ⟨w.heap.size + 1, 1, none⟩) G4.out.2.2.2.2).trans G4.out.2.2.2.1
  clear hb1 d0 d1 G4 k0 Hq HP0
  go_wp2_with fail
  refine bodyPost_ret (v := .tuple #[.agg #[.int .i8 0, .slice none 0 0], .int .i64 c]) (by simp [results, Tryd.results13, go_sem, s0, s1]) rfl ⟨_, rfl, .nil _ _ _ _ _ _ _ _, ?_⟩
  exact (k1.setCell (by show _ ≤ w.heap.size + 1; omega) _).setCell (by show _ ≤ w.heap.size + 1; omega) _
end Go.Proofs.YtkmpfbjenddhjaaDoor

namespace Go.Proofs.YtkmpfbjenddhjaaDoor
open Go.RowKit

theorem one_in (w : World) (i : Int) : IntsIn (w.alloc (.cells #[.int .i64 i] 2)) (some ⟨w.heap.size, 0, none⟩) 1 (fun _ => i) :=
  .inr ⟨_, 0, rfl, by simp, fun j hj => by
    obtain rfl : j = 0 := by omega
    simp⟩

set_option maxRecDepth 100000 in
set_option maxHeartbeats 4000000 in
theorem dropFrame_ok (s : Ers) (X : Int) (A : Option Addr) (n cap : Nat) (g : Nat → Nat → Int) (i : Nat) (hn : n ≤ 1048576) (hX : -128 ≤ X ∧ X ≤ 127) (w : World) (hr : PrsIn w A n g) (hE : ErrEnv s w) (hcap : n ≤ cap) (hi : i < n)
    (hF : frmC X n g 1 (fun _ => (i : Int)) = 0) :
    Calls Tryd.prog 36 #[.agg #[.int .i8 X, .slice A n cap], .int .i64 (i : Int)] w (ShtErr s w.heap.size X (n - 1) (drpF g i) 0 w) := by
  have k8 := ((Below.refl w.heap.size w).alloc (Nat.le_refl _) (.cells #[.int .i8 X, .slice A n cap] 29)).alloc (by simp) (.cells #[.int .i8 0, .slice none 0 0] 29)
  have d0 : ((w.alloc (.cells #[.int .i8 X, .slice A n cap] 29)).alloc (.cells #[.int .i8 0, .slice none 0 0] 29)).cell? ⟨w.heap.size, 0, none⟩ = some (.int .i8 X) := by simp
  have d1 : ((w.alloc (.cells #[.int .i8 X, .slice A n cap] 29)).alloc (.cells #[.int .i8 0, .slice none 0 0] 29)).cell? ⟨w.heap.size, 1, none⟩ = some (.slice A n cap) := by simp
  have r0 : ((w.alloc (.cells #[.int .i8 X, .slice A n cap] 29)).alloc (.cells #[.int .i8 0, .slice none 0 0] 29)).cell? ⟨w.heap.size + 1, 0, none⟩ = some (.int .i8 0) := by simp
  have r1 : ((w.alloc (.cells #[.int .i8 X, .slice A n cap] 29)).alloc (.cells #[.int .i8 0, .slice none 0 0] 29)).cell? ⟨w.heap.size + 1, 1, none⟩ = some (.slice none 0 0) := by simp
  have f0 : ((w.alloc (.cells #[.int .i8 X, .slice A n cap] 29)).alloc (.cells #[.int .i8 0, .slice none 0 0] 29)).frozen? ⟨w.heap.size + 1, 0, none⟩ = false := by simp
  have f1 : ((w.alloc (.cells #[.int .i8 X, .slice A n cap] 29)).alloc (.cells #[.int .i8 0, .slice none 0 0] 29)).frozen? ⟨w.heap.size + 1, 1, none⟩ = false := by simp
  have hsz : w.heap.size + 1 < ((w.alloc (.cells #[.int .i8 X, .slice A n cap] 29)).alloc (.cells #[.int .i8 0, .slice none 0 0] 29)).heap.size := by simp
  have k9 := (Below.refl ((w.alloc (.cells #[.int .i8 X, .slice A n cap] 29)).alloc (.cells #[.int .i8 0, .slice none 0 0] 29)).heap.size ((w.alloc (.cells #[.int .i8 X, .slice A n cap] 29)).alloc (.cells #[.int .i8 0, .slice none 0 0] 29))).alloc (Nat.le_refl _) (.cells #[.int .i64 (i : Int)] 2)
  have k0 := k8.trans (k9.mono k8.size)
  have d0 := below_cellOf k9 d0 (Nat.le_refl _)
  have d1 := below_cellOf k9 d1 (Nat.le_refl _)
  have r0 := below_cellOf k9 r0 (Nat.le_refl _)
  have r1 := below_cellOf k9 r1 (Nat.le_refl _)
  have f0 := (k9.frozen (p := ⟨w.heap.size + 1, 0, none⟩) hsz).trans f0
  have f1 := (k9.frozen (p := ⟨w.heap.size + 1, 1, none⟩) hsz).trans f1
  have hsz := Nat.lt_of_lt_of_le hsz k9.size
  clear k8 k9
  have hi9 : IntsIn (((w.alloc (.cells #[.int .i8 X, .slice A n cap] 29)).alloc (.cells #[.int .i8 0, .slice none 0 0] 29)).alloc (.cells #[.int .i64 (i : Int)] 2)) (some ⟨w.heap.size + 1 + 1, 0, none⟩) 1 (fun _ => (i : Int)) := by simpa using one_in ((w.alloc (.cells #[.int .i8 X, .slice A n cap] 29)).alloc (.cells #[.int .i8 0, .slice none 0 0] 29)) (i : Int)
  have hq := framesOf_any s X A n cap g hn hX _ 1 1 (fun _ => (i : Int)) (by omega) _ (hr.below k0 (Nat.le_refl _)) hi9 (hE.below k0 (Nat.le_refl _))
  rw [hF, frmR_0] at hq
  have Hq := Lib.hid hq; clear hq hF hi9
  have HP := Lib.hid (hr.below k0 (Nat.le_refl _))
  have G4 := Lib.hid (And.intro r0 (And.intro r1 (And.intro f0 (And.intro f1 hsz)))); clear r0 r1 f0 f1 hsz hr hE
  have D0 := Lib.hid d0; have D1 := Lib.hid d1; clear d0 d1
  go_enter Tryd.func36, Tryd.ntmps36
  go_wp2_with fail
  generalize (((w.alloc (.cells #[.int .i8 X, .slice A n cap] 29)).alloc (.cells #[.int .i8 0, .slice none 0 0] 29)).alloc (.cells #[.int .i64 (i : Int)] 2)) = W0 at *
  refine Hq.out.mono ?_; rintro e w1 ⟨rfl, hb1⟩
  have s0 := below_cellOf hb1 G4.out.1 (Nat.le_refl _)
  have s1 := below_cellOf hb1 G4.out.2.1 (Nat.le_refl _)
  have u0 := (hb1.frozen (p := ⟨w.heap.size + 1, 0, none⟩) G4.out.2.2.2.2).trans G4.out.2.2.1
  have u1 := (hb1.frozen (p := ⟨w.heap.size + 1, 1, none⟩) G4.out.2.2.2.2).trans G4.out.2.2.2.1
  have KE := Lib.hid (k0.trans (hb1.mono k0.size))
  have R1 := Lib.hid hb1
  clear hb1 k0 Hq
  have e0 := below_cellOf R1.out D0.out (Nat.le_refl _)
  have e1 := below_cellOf R1.out D1.out (Nat.le_refl _)
  have hp0 : ∀ W : World, Below w1.heap.size w1 W → Calls Tryd.prog 56 #[.slice A n cap, .int .i64 (i : Int)] W fun e w' => ∃ A' cap', e = .returned (.slice A' (n - 1) cap') ∧ Mine w' W.heap.size w'.heap.size 58 64 (.slice A' (n - 1) cap') (n - 1) (prF (drpF g i)) ∧ Below W.heap.size W w' := fun W h => by
    rcases (HP.out.below R1.out (Nat.le_refl _)).below h (Nat.le_refl _) with h0 | ⟨b, o, hb, hlt, hc⟩
    · exfalso; omega
    · subst hb
      exact without_any b o n cap g i hi hn hcap W hc hlt
  have hp := Lib.hid hp0; clear hp0
  have hz := G4.out.2.2.2.2
  have hz1 := R1.out.size
  go_wp2_with fail
  go_region_with (first | (go_at_call 56; refine (hp.out _ (below_drew1 w1)).mono ?_; rintro e w5 ⟨A5, c5, rfl, hM5, hb5⟩; have t0 := below_cellOf hb5 (show w1.drew.cell? _ = _ from e0) (Nat.le_refl _); have t1 := below_cellOf hb5 (show w1.drew.cell? _ = _ from e1) (Nat.le_refl _)) | (go_at_call 53; refine (withFrames_any X A _ n cap (n - 1) _ _).mono ?_; rintro e w6 ⟨rfl, hb6⟩; have R6 := Below.trans ((below_drew1 w1).trans hb5) (hb6.mono (Nat.le_trans (below_drew1 w1).size hb5.size)); have v0 := below_cellOf R6 s0 (Nat.le_refl _); have v1 := below_cellOf R6 s1 (Nat.le_refl _); have x0 := (R6.frozen (p := ⟨w.heap.size + 1, 0, none⟩) (by show w.heap.size + 1 < w1.heap.size; omega)).trans u0; have x1 := (R6.frozen (p := ⟨w.heap.size + 1, 1, none⟩) (by show w.heap.size + 1 < w1.heap.size; omega)).trans u1))
  all_goals
    have hM6 := hM5.below hb6 (Nat.le_refl _)
    have hz6 := hb6.size
    have hz5 : w1.heap.size ≤ w5.heap.size := hb5.size
    go_wp2_with fail
    refine bodyPost_ret (v := .tuple #[.agg #[.int .i8 X, .slice A5 (n - 1) c5], .nilIface]) (by simp [results, Tryd.results36, go_sem, v0, v1]) rfl ⟨_, _, _, rfl, .ok, ?_, ?_⟩
    · refine (hM6.keep (fun b h1 h2 h3 => ?_)).mono (show w.heap.size ≤ w1.heap.size by omega) (by simpa [World.setCell] using hz6)
      have h1 : w1.heap.size ≤ b := h1
      rw [Below.heap_setCell _ _ _ _ (by show b ≠ w.heap.size + 1; omega), Below.heap_setCell _ _ _ _ (by show b ≠ w.heap.size + 1; omega)]
    · exact ((KE.out.trans (R6.mono KE.out.size)).setCell (by show _ ≤ w.heap.size + 1; omega) _).setCell (by show _ ≤ w.heap.size + 1; omega) _

set_option maxRecDepth 100000 in
set_option maxHeartbeats 4000000 in
theorem dropFrame_bad (s : Ers) (X : Int) (A : Option Addr) (n cap : Nat) (g G : Nat → Nat → Int) (i : Int) (hn : n ≤ 1048576) (hX : -128 ≤ X ∧ X ≤ 127) (w : World) (hr : PrsIn w A n g) (hE : ErrEnv s w)
    (E : Addr) (cc : Int) (hF : frmC X n g 1 (fun _ => i) = cc) (hR : frmR s A n cap cc = #[.slice none 0 0, errV E]) (hI : IsCode s (errV E) cc) :
    Calls Tryd.prog 36 #[.agg #[.int .i8 X, .slice A n cap], .int .i64 i] w (ShtErr s w.heap.size 0 0 G cc w) := by
  have k8 := ((Below.refl w.heap.size w).alloc (Nat.le_refl _) (.cells #[.int .i8 X, .slice A n cap] 29)).alloc (by simp) (.cells #[.int .i8 0, .slice none 0 0] 29)
  have d0 : ((w.alloc (.cells #[.int .i8 X, .slice A n cap] 29)).alloc (.cells #[.int .i8 0, .slice none 0 0] 29)).cell? ⟨w.heap.size, 0, none⟩ = some (.int .i8 X) := by simp
  have d1 : ((w.alloc (.cells #[.int .i8 X, .slice A n cap] 29)).alloc (.cells #[.int .i8 0, .slice none 0 0] 29)).cell? ⟨w.heap.size, 1, none⟩ = some (.slice A n cap) := by simp
  have r0 : ((w.alloc (.cells #[.int .i8 X, .slice A n cap] 29)).alloc (.cells #[.int .i8 0, .slice none 0 0] 29)).cell? ⟨w.heap.size + 1, 0, none⟩ = some (.int .i8 0) := by simp
  have r1 : ((w.alloc (.cells #[.int .i8 X, .slice A n cap] 29)).alloc (.cells #[.int .i8 0, .slice none 0 0] 29)).cell? ⟨w.heap.size + 1, 1, none⟩ = some (.slice none 0 0) := by simp
  have f0 : ((w.alloc (.cells #[.int .i8 X, .slice A n cap] 29)).alloc (.cells #[.int .i8 0, .slice none 0 0] 29)).frozen? ⟨w.heap.size + 1, 0, none⟩ = false := by simp
  have f1 : ((w.alloc (.cells #[.int .i8 X, .slice A n cap] 29)).alloc (.cells #[.int .i8 0, .slice none 0 0] 29)).frozen? ⟨w.heap.size + 1, 1, none⟩ = false := by simp
  have hsz : w.heap.size + 1 < ((w.alloc (.cells #[.int .i8 X, .slice A n cap] 29)).alloc (.cells #[.int .i8 0, .slice none 0 0] 29)).heap.size := by simp
  have k9 := (Below.refl ((w.alloc (.cells #[.int .i8 X, .slice A n cap] 29)).alloc (.cells #[.int .i8 0, .slice none 0 0] 29)).heap.size ((w.alloc (.cells #[.int .i8 X, .slice A n cap] 29)).alloc (.cells #[.int .i8 0, .slice none 0 0] 29))).alloc (Nat.le_refl _) (.cells #[.int .i64 i] 2)
  have k0 := k8.trans (k9.mono k8.size)
  have d0 := below_cellOf k9 d0 (Nat.le_refl _)
  have d1 := below_cellOf k9 d1 (Nat.le_refl _)
  have r0 := below_cellOf k9 r0 (Nat.le_refl _)
  have r1 := below_cellOf k9 r1 (Nat.le_refl _)
  have f0 := (k9.frozen (p := ⟨w.heap.size + 1, 0, none⟩) hsz).trans f0
  have f1 := (k9.frozen (p := ⟨w.heap.size + 1, 1, none⟩) hsz).trans f1
  have hsz := Nat.lt_of_lt_of_le hsz k9.size
  clear k8 k9
  clear d0 d1
  have hi9 : IntsIn (((w.alloc (.cells #[.int .i8 X, .slice A n cap] 29)).alloc (.cells #[.int .i8 0, .slice none 0 0] 29)).alloc (.cells #[.int .i64 i] 2)) (some ⟨w.heap.size + 1 + 1, 0, none⟩) 1 (fun _ => i) := by simpa using one_in ((w.alloc (.cells #[.int .i8 X, .slice A n cap] 29)).alloc (.cells #[.int .i8 0, .slice none 0 0] 29)) i
  have hq := framesOf_any s X A n cap g hn hX _ 1 1 (fun _ => i) (by omega) _ (hr.below k0 (Nat.le_refl _)) hi9 (hE.below k0 (Nat.le_refl _))
  rw [hF, hR] at hq
  have Hq := Lib.hid hq; clear hq hr hE hF hR hi9
  have G4 := Lib.hid (And.intro r0 (And.intro r1 (And.intro f0 (And.intro f1 hsz)))); clear r0 r1 f0 f1 hsz
  go_enter Tryd.func36, Tryd.ntmps36
  go_wp2_with fail
  generalize (((w.alloc (.cells #[.int .i8 X, .slice A n cap] 29)).alloc (.cells #[.int .i8 0, .slice none 0 0] 29)).alloc (.cells #[.int .i64 i] 2)) = W0 at *
  refine Hq.out.mono ?_; rintro e w1 ⟨rfl, hb1⟩
  have s0 := below_cellOf hb1 G4.out.1 (Nat.le_refl _)
  have s1 := below_cellOf hb1 G4.out.2.1 (Nat.le_refl _)
  have u0 := (hb1.frozen (p := ⟨w.heap.size + 1, 0, none⟩) G4.out.2.2.2.2).trans G4.out.2.2.1
  have u1 := (hb1.frozen (p := ⟨w.heap.size + 1, 1, none⟩) G4.out.2.2.2.2).trans G4.out.2.2.2.1
  have KE := Lib.hid (k0.trans (hb1.mono k0.size))
  clear hb1 G4 k0 Hq
  go_wp2_with fail
  refine bodyPost_ret (v := .tuple #[.agg #[.int .i8 0, .slice none 0 0], errV E]) (by simp [results, Tryd.results36, go_sem, s0, s1]) rfl ⟨_, _, _, rfl, hI, .nil _ _ _ _ _ _ _ _, ?_⟩
  exact (KE.out.setCell (by show _ ≤ w.heap.size + 1; omega) _).setCell (by show _ ≤ w.heap.size + 1; omega) _

end Go.Proofs.YtkmpfbjenddhjaaDoor

namespace Go.Proofs.YtkmpfbjenddhjaaDoor
open Go.RowKit

/-- What leaving out hands back. -/
def DrpOut (L : Nat) (X : Int) (n : Nat) (g : Nat → Nat → Int) (i : Int) (w : World) (e : Ending) (w' : World) : Prop :=
  ShtOut L (if askC X n g i = 0 then X else 0) (if askC X n g i = 0 then n - 1 else 0) (drpF g i.toNat) (askC X n g i) w e w'
theorem dropFrame_any (s : Ers) (X : Int) (A : Option Addr) (n cap : Nat) (g : Nat → Nat → Int) (i : Int) (hn : n ≤ 1048576) (hcap : n ≤ cap) (hX : -128 ≤ X ∧ X ≤ 127) (w : World) (hr : PrsIn w A n g) (hE : ErrEnv s w) :
    Calls Tryd.prog 36 #[.agg #[.int .i8 X, .slice A n cap], .int .i64 i] w (ShtErr s w.heap.size (if askC X n g i = 0 then X else 0) (if askC X n g i = 0 then n - 1 else 0) (drpF g i.toNat) (askC X n g i) w) := by
  rcases askC_cases X n g i with ⟨h, _, h1, h2⟩ | h | h
  · obtain ⟨j, rfl⟩ : ∃ j : Nat, i = j := ⟨i.toNat, by omega⟩
    rw [h]
    exact dropFrame_ok s X A n cap g j hn hX w hr hE hcap (by omega) (by rw [frmC_one]; exact h)
  · rw [h]
    exact dropFrame_bad s X A n cap g _ i hn hX w hr hE s.einvalid 1 (by rw [frmC_one]; exact h) rfl .einvalid
  · rw [h]
    exact dropFrame_bad s X A n cap g _ i hn hX w hr hE s.erange 2 (by rw [frmC_one]; exact h) rfl .erange
theorem specDrop_any (X : Int) (A : Option Addr) (n cap : Nat) (g : Nat → Nat → Int) (i : Int) (hn : n ≤ 1048576) (hcap : n ≤ cap) (hX : -128 ≤ X ∧ X ≤ 127) (hs : ∀ i, i < n → S16 (g i)) (w : World) (hr : PrsIn w A n g) :
    Calls Tryd.prog 13 #[.agg #[.int .i8 X, .slice A n cap], .int .i64 i] w (DrpOut w.heap.size X n g i w) := by
  unfold DrpOut
  rcases askC_cases X n g i with ⟨h, _, h1, h2⟩ | h | h
  · obtain ⟨j, rfl⟩ : ∃ j : Nat, i = j := ⟨i.toNat, by omega⟩
    rw [h]
    exact specDrop_ok X A n cap g j hn hcap hX hs (by omega) h w hr
  · rw [h]
    exact specDrop_bad X A n cap g i hn hX hs 1 h (.inl rfl) _ w hr
  · rw [h]
    exact specDrop_bad X A n cap g i hn hX hs 2 h (.inr rfl) _ w hr

set_option maxRecDepth 100000 in
set_option maxHeartbeats 4000000 in
theorem DropFrame_any (s : Ers) (X : Int) (A : Option Addr) (n cap : Nat) (g : Nat → Nat → Int) (i : Int) (hn : n ≤ 1048576) (hcap : n ≤ cap) (hX : -128 ≤ X ∧ X ≤ 127) (w : World) (hr : PrsIn w A n g) (hE : ErrEnv s w) :
    Calls Tryd.prog 14 #[.agg #[.int .i8 X, .slice A n cap], .int .i64 i] w (DrpOut w.heap.size X n g i w) := by
  have k0 := ((Below.refl w.heap.size w).alloc (Nat.le_refl _) (.cells #[.int .i8 X, .slice A n cap] 29)).alloc (by simp) (.cells #[.int .i8 0, .slice none 0 0] 29)
  have r0 : ((w.alloc (.cells #[.int .i8 X, .slice A n cap] 29)).alloc (.cells #[.int .i8 0, .slice none 0 0] 29)).cell? ⟨w.heap.size + 1, 0, none⟩ = some (.int .i8 0) := by simp
  have r1 : ((w.alloc (.cells #[.int .i8 X, .slice A n cap] 29)).alloc (.cells #[.int .i8 0, .slice none 0 0] 29)).cell? ⟨w.heap.size + 1, 1, none⟩ = some (.slice none 0 0) := by simp
  have f0 : ((w.alloc (.cells #[.int .i8 X, .slice A n cap] 29)).alloc (.cells #[.int .i8 0, .slice none 0 0] 29)).frozen? ⟨w.heap.size + 1, 0, none⟩ = false := by simp
  have f1 : ((w.alloc (.cells #[.int .i8 X, .slice A n cap] 29)).alloc (.cells #[.int .i8 0, .slice none 0 0] 29)).frozen? ⟨w.heap.size + 1, 1, none⟩ = false := by simp
  have hsz : w.heap.size + 1 < ((w.alloc (.cells #[.int .i8 X, .slice A n cap] 29)).alloc (.cells #[.int .i8 0, .slice none 0 0] 29)).heap.size := by simp
  have hq := dropFrame_any s X A n cap g i hn hcap hX _ (hr.below k0 (Nat.le_refl _)) (hE.below k0 (Nat.le_refl _))
  have HE := Lib.hid (hE.below k0 (Nat.le_refl _))
  unfold DrpOut
  generalize (if askC X n g i = 0 then X else 0) = RX at *
  generalize (if askC X n g i = 0 then n - 1 else 0) = RN at *
  generalize askC X n g i = C at *
  generalize drpF g i.toNat = G at *
  have Hq := Lib.hid hq; clear hq hr hE
  have G4 := Lib.hid (And.intro r0 (And.intro r1 (And.intro f0 (And.intro f1 hsz)))); clear r0 r1 f0 f1
  have d0 : ((w.alloc (.cells #[.int .i8 X, .slice A n cap] 29)).alloc (.cells #[.int .i8 0, .slice none 0 0] 29)).cell? ⟨w.heap.size, 0, none⟩ = some (.int .i8 X) := by simp
  have d1 : ((w.alloc (.cells #[.int .i8 X, .slice A n cap] 29)).alloc (.cells #[.int .i8 0, .slice none 0 0] 29)).cell? ⟨w.heap.size, 1, none⟩ = some (.slice A n cap) := by simp
  go_enter Tryd.func14, Tryd.ntmps14
  go_wp2_with fail
  generalize ((w.alloc (.cells #[.int .i8 X, .slice A n cap] 29)).alloc (.cells #[.int .i8 0, .slice none 0 0] 29)) = W0 at *
  refine Hq.out.mono ?_; rintro e w1 ⟨A1, c1, v1, rfl, hI, hM, hb1⟩
  have R1 := Lib.hid hb1
  clear hb1 Hq d0 d1
  go_wp2_with fail
  refine (codedSheet_any RX A1 RN c1 hI _ (HE.out.below R1.out (Nat.le_refl _))).mono ?_; rintro e w2 ⟨rfl, hb2⟩
  have R2 := R1.out.trans (hb2.mono R1.out.size)
  have hM2 := hM.below hb2 (Nat.le_refl _)
  have s0 := below_cellOf R2 G4.out.1 (Nat.le_refl _)
  have s1 := below_cellOf R2 G4.out.2.1 (Nat.le_refl _)
  have u0 := (R2.frozen (p := ⟨w.heap.size + 1, 0, none⟩) G4.out.2.2.2.2).trans G4.out.2.2.1
  have u1 := (R2.frozen (p := ⟨w.heap.size + 1, 1, none⟩) G4.out.2.2.2.2).trans G4.out.2.2.2.1
  have KE := Lib.hid (k0.trans (R2.mono k0.size))
  have hz1 := hb2.size
  clear R2 hb2 hM
  go_wp2_with fail
  refine bodyPost_ret (v := .tuple #[.agg #[.int .i8 RX, .slice A1 RN c1], .int .i64 C]) (by simp [results, Tryd.results14, go_sem, s0, s1]) rfl ⟨_, rfl, ?_, ?_⟩
  · refine (hM2.keep (fun b h1 h2 h3 => ?_)).mono (by omega) (by simpa [World.setCell] using hz1)
    rw [Below.heap_setCell _ _ _ _ (by show b ≠ w.heap.size + 1; omega), Below.heap_setCell _ _ _ _ (by show b ≠ w.heap.size + 1; omega)]
  · exact (KE.out.setCell (by show _ ≤ w.heap.size + 1; omega) _).setCell (by show _ ≤ w.heap.size + 1; omega) _
end Go.Proofs.YtkmpfbjenddhjaaDoor

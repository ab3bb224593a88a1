/-
  slices.Concat of two lists of prints; a list of prints without one. Condition: at most 1048576 prints each.
-/
import Derived.Test.YtkmpfbjenddhjaaDoorPrL
import Derived.Lib.AppendZerosOnto
import Derived.Laws.Slices
import Derived.Maps.AppendAt
namespace Go.Proofs.YtkmpfbjenddhjaaDoor
open Go.RowKit

/-- Frames, one of them left out. -/
def drpF (g : Nat → Nat → Int) (i : Nat) : Nat → Nat → Int := appF g (fun j => g (i + 1 + j)) i
theorem run_front {P : Program} (t e : TypeId) (i : TypeInfo) (ht : P.underlying t = some (.slice e)) (hi : P.info? e = some i) (b o len cap k : Nat) (h2 : k ≤ cap) (w : World) :
    (Instr.slice t (.slice (some ⟨b, o, none⟩) len cap) none (some (.int .i64 (k : Int))) none).run P w = .ok (.slice (some ⟨b, o, none⟩) k cap) w := by
  simp [Instr.slice, run_underlying ht, Instr.sliceBounds, run_sliceBound, sizeOf, typeInfo, hi, h2, Addr.add]
theorem run_back {P : Program} (t e : TypeId) (i : TypeInfo) (ht : P.underlying t = some (.slice e)) (hi : P.info? e = some i) (a : Option Addr) (len cap k : Nat) (h2 : k ≤ len) (w : World) :
    (Instr.slice t (.slice a len cap) (some (.int .i64 (k : Int))) none none).run P w = .ok (.slice (if cap = k then a else a.map (·.add (k * i.size))) (len - k) (cap - k)) w := by
  simp [Instr.slice, run_underlying ht, Instr.sliceBounds, run_sliceBound, sizeOf, typeInfo, hi, h2]
/-- What stands behind a frame. -/
theorem back_pr {P : Program} (t : TypeId) (ht : P.underlying t = some (.slice 58)) (i0 : TypeInfo) (hi : P.info? 58 = some i0) (hz : i0.size = 64) (b o n cap i : Nat) (hin : i < n) (hc : n ≤ cap) :
    ∃ o2, (∀ W : World, (Instr.slice t (.slice (some ⟨b, o, none⟩) n cap) (some (.int .i64 ((i : Int) + 1))) none none).run P W = .ok (.slice (some ⟨b, o2, none⟩) (n - (i + 1)) (cap - (i + 1))) W) ∧ (∀ W g, PrsAt W b o n g → PrsAt W b o2 (n - (i + 1)) (fun j => g (i + 1 + j))) := by
  have hr := fun W => run_back t _ i0 ht hi (some ⟨b, o, none⟩) n cap (i + 1) (by omega) W
  rw [show ((i + 1 : Nat) : Int) = (i : Int) + 1 from by omega, hz] at hr
  by_cases h : cap = i + 1
  · rw [if_pos h] at hr
    exact ⟨o, hr, fun W g hP j hj => by omega⟩
  · rw [if_neg h, Option.map_some, Addr.add_mid] at hr
    refine ⟨_, hr, fun W g hP j hj => ?_⟩
    rw [show o + (i + 1) * 64 + j * 64 = o + (i + 1 + j) * 64 by omega]
    exact hP (i + 1 + j) (by omega)
theorem PrsAt.front {W : World} {b o n i : Nat} {g : Nat → Nat → Int} (h : PrsAt W b o n g) (hi : i ≤ n) : PrsAt W b o i g := fun j hj => h j (by omega)

theorem yields_back {P : Program} {ops : Array Oper} {S : World → Prop} {op : Oper} {a : Act} {t e : TypeId} {x lo : Operand} {X L v : Value} (hgd : op.guard = none) (ho : op.op = .slice t x (some lo) none none) (ht : P.underlying t = some (.slice e)) (hx : a.eval x = X) (hl : a.eval lo = L)
    (hr : ∀ W : World, (Instr.slice t X (some L) none none).run P W = .ok v W) : YieldsIf P ops S op v a :=
  .inl ⟨by simp [Region.wanted, hgd], fun W _ => by
    unfold execOp
    simp only [ho]
    simp [hx, hl, Instr.sliceAt, run_underlying ht, hr W]⟩
theorem yields_front {P : Program} {ops : Array Oper} {S : World → Prop} {op : Oper} {a : Act} {t e : TypeId} {x hi : Operand} {X L v : Value} (hgd : op.guard = none) (ho : op.op = .slice t x none (some hi) none) (ht : P.underlying t = some (.slice e)) (hx : a.eval x = X) (hl : a.eval hi = L)
    (hr : ∀ W : World, (Instr.slice t X none (some L) none).run P W = .ok v W) : YieldsIf P ops S op v a :=
  .inl ⟨by simp [Region.wanted, hgd], fun W _ => by
    unfold execOp
    simp only [ho]
    simp [hx, hl, Instr.sliceAt, run_underlying ht, hr W]⟩

section
variable {ops : Array Oper} {rest : List Oper} {o : Oper} {a : Act} {Q : Exit → Act → World → Prop} {w : World} {L n m c b' o' : Nat} {v : Value} {f h : Nat → Nat → Int} {t : TypeId}
/-- 'append(s, x...)' of prints onto an own list that may be nil. -/
theorem wpList_append_prsN (hgd : o.guard = none) (s x : Operand) (ho : o.op = .call { callee := .builtin .append, args := #[s, x], argTypes := #[t, t] }) (ht : Tryd.prog.underlying t = some (.slice 58))
    (hs : a.eval s = v) (hown : w.ownsRow L 58 64 v n (prL f n)) (hxv : a.eval x = .slice (some ⟨b', o', none⟩) m c) (hx : PrsAt w b' o' m h) (hnm : n + m ≤ 2097152) (hL : L ≤ w.heap.size)
    (hK : ∀ v' w', w'.ownsRow L 58 64 v' (n + m) (prL (appF f h n) (n + m)) → Below L w w' → w.grownBy w' v.ownBlock → wpList Tryd.prog ops Q rest (a.put o.dst v') w') :
    wpList Tryd.prog ops Q (o :: rest) a w := by
  refine wpList_plain hgd fun K hK' => ?_
  obtain ⟨i0, hi, hz0, hz1, hz2⟩ := info_parts prInfo
  obtain ⟨v', w', hr, h2, h3, h4, h5⟩ := run_append_own_at (P := Tryd.prog) w L t o.type 58 i0 (.agg #[.int .i16 0, .int .i16 0, .int .i16 0, .int .i16 0, .int .i16 0, .int .i16 0, .int .i16 0, .int .i16 0, .int .i16 0, .int .i16 0, .int .i16 0, .int .i16 0, .int .i16 0, .int .i16 0, .int .i16 0, .int .i16 0, .int .i16 0, .int .i16 0, .int .i16 0, .int .i16 0, .int .i16 0, .int .i16 0, .int .i16 0, .int .i16 0, .int .i16 0, .int .i16 0, .int .i16 0, .int .i16 0, .int .i16 0, .int .i16 0, .int .i16 0, .int .i16 0, .int .i16 0, .int .i16 0, .int .i16 0, .int .i16 0, .int .i16 0, .int .i16 0, .int .i16 0, .int .i16 0, .int .i16 0, .int .i16 0, .int .i16 0, .int .i16 0, .int .i16 0, .int .i16 0, .int .i16 0, .int .i16 0, .int .i16 0, .int .i16 0, .int .i16 0, .int .i16 0, .int .i16 0, .int .i16 0, .int .i16 0, .int .i16 0, .int .i16 0, .int .i16 0, .int .i16 0, .int .i16 0, .int .i16 0, .int .i16 0, .int .i16 0, .int .i16 0]) 64 128 ht hi hz0 hz1 hz2 rfl (by decide) v n (prL f n) hown ⟨b', o', none⟩ m c (prL h m) (prL_len _ _) hx.news (prL_one _ _) (by unfold maxLen; omega) (by omega) hL
  rw [prL_append] at h2
  unfold Oper.wp execOp
  simp only [ho, resolve, invoke, builtin, Sem.run_bind, Sem.run_pure, Result.andThen_ok, List.map_toArray, List.map_cons, List.map_nil, hs, hxv, hr]
  exact hK' _ _ (hK v' w' h2 (Below.grown (Below.refl _ _) h3 hL (fun k hk => (hown.lt k hk).1)) h3)
end

theorem zeros_sizeP (z : Array Value) (n : Nat) : (Builtin.zeroCells z n).size = n * z.size := by simp [Builtin.zeroCells]
set_option maxRecDepth 100000 in
set_option maxHeartbeats 1000000 in
theorem GrowPr_any (N : Nat) (hN : N ≤ 2097152) (w : World) :
    Calls Tryd.prog 73 #[.slice none 0 0, .int .i64 N] w fun e w' => ∃ v, e = .returned v ∧ w'.ownsRow w.heap.size 58 64 v 0 [] ∧ Below w.heap.size w w' := by
  obtain ⟨i0, hi, hz0, hz1, hz2⟩ := info_parts prInfo
  obtain ⟨z, hz⟩ : ∃ z : Value, z = .agg #[.int .i16 0, .int .i16 0, .int .i16 0, .int .i16 0, .int .i16 0, .int .i16 0, .int .i16 0, .int .i16 0, .int .i16 0, .int .i16 0, .int .i16 0, .int .i16 0, .int .i16 0, .int .i16 0, .int .i16 0, .int .i16 0, .int .i16 0, .int .i16 0, .int .i16 0, .int .i16 0, .int .i16 0, .int .i16 0, .int .i16 0, .int .i16 0, .int .i16 0, .int .i16 0, .int .i16 0, .int .i16 0, .int .i16 0, .int .i16 0, .int .i16 0, .int .i16 0, .int .i16 0, .int .i16 0, .int .i16 0, .int .i16 0, .int .i16 0, .int .i16 0, .int .i16 0, .int .i16 0, .int .i16 0, .int .i16 0, .int .i16 0, .int .i16 0, .int .i16 0, .int .i16 0, .int .i16 0, .int .i16 0, .int .i16 0, .int .i16 0, .int .i16 0, .int .i16 0, .int .i16 0, .int .i16 0, .int .i16 0, .int .i16 0, .int .i16 0, .int .i16 0, .int .i16 0, .int .i16 0, .int .i16 0, .int .i16 0, .int .i16 0, .int .i16 0] := ⟨_, rfl⟩
  rw [← hz] at hz0
  have hzs : z.cells.size = 64 := by subst hz; rfl
  clear hz
  rcases Nat.eq_zero_or_pos N with rfl | hpos
  · clear hi hz0 hz1 hz2 hzs
    go_enter Tryd.func73, Tryd.ntmps73
    go_wp2
    go_ret
    exact ⟨_, rfl, ⟨rfl, .inl ⟨rfl, rfl⟩⟩, Below.refl _ _⟩
  · have hrz := fun ty => Lib.run_append_grow_zeros w 80 3 ty 58 i0 _ .i64 .i64 Tryd.underlying80 Tryd.underlying3 hi hz0 none 0 0 [] (run_firstCells_none w.drew i0.size 0 0 0) N hpos (by rw [hz1]; decide) (by omega) (by omega) (by rw [hz2]; omega) (by rw [Nat.zero_add]; exact growslice_fits hpos (by rw [hz2]; omega))
    rw [Nat.zero_add] at hrz
    have hG0 : N ≤ grownCap w N 0 58 := grownCap_ge w _ _ _
    have hGm := grownCap_le_maxLen w N 0 58 (by unfold maxLen; omega)
    generalize grownCap w N 0 58 = G at hrz hG0 hGm
    have h4 : (N : Int) > 0 := by omega
    have hown : (w.drew.alloc (.cells (([] : List Value).toArray ++ Builtin.zeroCells z.cells N ++ Builtin.zeroCells z.cells (G - N)) 58)).ownsRow w.heap.size 58 64 (.slice (some ⟨w.heap.size, 0, none⟩) 0 G) 0 [] := by
      refine ⟨rfl, .inr ⟨w.heap.size, G, _, rfl, Nat.le_refl _, heap_alloc_new w.drew _, Nat.zero_le _, hGm, ?_, by simp⟩⟩
      simp only [Array.size_append, zeros_sizeP, hzs]
      simp; omega
    have hB : Below w.heap.size w (w.drew.alloc (.cells (([] : List Value).toArray ++ Builtin.zeroCells z.cells N ++ Builtin.zeroCells z.cells (G - N)) 58)) := (below_drew1 w).alloc (Nat.le_refl _) _
    generalize w.drew.alloc (.cells (([] : List Value).toArray ++ Builtin.zeroCells z.cells N ++ Builtin.zeroCells z.cells (G - N)) 58) = W at hrz hown hB
    have hG63 : G ≤ 9223372036854775807 := by unfold maxLen at hGm; omega
    clear hi hz0 hz1 hz2 hzs
    go_enter Tryd.func73, Tryd.ntmps73
    go_wp2_with (at_builtin; refine Lib.wpList_append_run _ rfl _ _ _ _ rfl _ _ rfl rfl _ _ (hrz _) ?_)
    all_goals (go_ret; exact ⟨_, rfl, hown, hB⟩)

set_option maxRecDepth 100000 in
set_option maxHeartbeats 2000000 in
theorem ConcatPr_any (b o m c : Nat) (g : Nat → Nat → Int) (b' o' m' c' : Nat) (g' : Nat → Nat → Int) (q : Nat) (hm : m ≤ 1048576) (hm' : m' ≤ 1048576) (w : World) (hp : PrsAt w b o m g) (hb : b < w.heap.size) (hp' : PrsAt w b' o' m' g') (hb' : b' < w.heap.size)
    (h0 : w.cell? ⟨q, 0, none⟩ = some (.slice (some ⟨b, o, none⟩) m c)) (h1 : w.cell? ⟨q, 1, none⟩ = some (.slice (some ⟨b', o', none⟩) m' c')) :
    Calls Tryd.prog 66 #[.slice (some ⟨q, 0, none⟩) 2 2] w fun e w' => ∃ v, e = .returned v ∧ w'.ownsRow w.heap.size 58 64 v (m + m') (prL (appF g g' m) (m + m')) ∧ Below w.heap.size w w' := by
  have hg : q < w.heap.size := World.block_lt_of_cell? w _ h0
  have hgr := GrowPr_any (m + m') (by omega) w
  have e0 : (m : Int) + (m' : Int) = ((m + m' : Nat) : Int) := by omega
  have E0 := Lib.hid e0; clear e0
  have n0 : decide ((m : Int) < 0) = false := decide_eq_false (by omega)
  have n1 : decide ((m : Int) + (m' : Int) < 0) = false := decide_eq_false (by omega)
  have Hgr := Lib.hid hgr; clear hgr
  have HP := Lib.hid hp; have HP' := Lib.hid hp'; clear hp hp'
  go_enter Tryd.func66, Tryd.ntmps66
  go_wp2_with fail
  refine wp_loop_rounds 3 ?_
  rw [rounds_succ]
  go_wp2_with fail
  rw [rounds_succ]
  go_wp2_with fail
  rw [rounds_succ]
  go_wp2_with fail
  rw [E0.out]
  refine Hgr.out.mono ?_; rintro e w1 ⟨v, rfl, o1, hb1⟩
  have h0' := below_cellOf hb1 h0 (Nat.le_refl _)
  have h1' := below_cellOf hb1 h1 (Nat.le_refl _)
  have p1 := Lib.hid (HP.out.below hb1 hb)
  have p2 := Lib.hid (HP'.out.below hb1 hb')
  have z1 := hb1.size
  have O1 := Lib.hid (show w1.ownsRow w.heap.size 58 64 v 0 (prL g 0) by simpa [prL_nil] using o1)
  have H1 := Lib.hid hb1
  have N1 : Hid (0 + m ≤ 2097152) := Lib.hid (by omega)
  have N2 : Hid (m + m' ≤ 2097152) := Lib.hid (by omega)
  clear h0 h1 o1 hb1
  go_wp2_with fail
  refine wp_loop_rounds 3 ?_
  rw [rounds_succ]
  go_wp2_with (at_builtin; refine wpList_append_prsN (c := c) rfl _ _ rfl Tryd.underlying80 rfl O1.out rfl p1.out N1.out H1.out.size ?_; intro v2 w2 o2 k2 hg2)
  have e2 : appF g g 0 = g := by funext i; simp [appF]
  rw [e2] at o2
  simp only [Nat.zero_add] at o2
  have hb2 : Below w.heap.size w w2 := H1.out.trans k2
  have h1'' : w2.cell? ⟨q, 1, none⟩ = _ := (k2.cell (p := ⟨q, 1, none⟩) hg).trans h1'
  have p3 := Lib.hid (p2.out.below k2 hb')
  have O2 := Lib.hid o2
  have H2 := Lib.hid hb2
  clear h0' h1' p1 p2 hg2 o2 k2 hb2 O1 H1
  go_wp2_with fail
  rw [rounds_succ]
  go_wp2_with (at_builtin; refine wpList_append_prsN (c := c') rfl _ _ rfl Tryd.underlying80 rfl O2.out rfl p3.out N2.out H2.out.size ?_; intro v3 w3 o3 k3 hg3)
  have H3 := Lib.hid (H2.out.trans k3)
  have O3 := Lib.hid o3
  clear p3 hg3 O2 h1'' k3 o3
  go_wp2_with fail
  rw [rounds_succ]
  go_wp2_with fail
  go_ret
  exact ⟨_, rfl, O3.out, H3.out⟩

set_option maxRecDepth 100000 in
set_option maxHeartbeats 2000000 in
theorem without_any (b o n c : Nat) (g : Nat → Nat → Int) (i : Nat) (hi : i < n) (hn : n ≤ 1048576) (hc : n ≤ c) (w : World) (hx : PrsAt w b o n g) (hb : b < w.heap.size) :
    Calls Tryd.prog 56 #[.slice (some ⟨b, o, none⟩) n c, .int .i64 (i : Int)] w fun e w' => ∃ A cap, e = .returned (.slice A (n - 1) cap) ∧ Mine w' w.heap.size w'.heap.size 58 64 (.slice A (n - 1) cap) (n - 1) (prF (drpF g i)) ∧ Below w.heap.size w w' := by
  obtain ⟨i0, hi0, hz0, hz1, hz2⟩ := info_parts prInfo
  obtain ⟨o2, hbk, hpb⟩ := back_pr (P := Tryd.prog) 80 Tryd.underlying80 i0 hi0 hz1 b o n c i hi hc
  have hfr := fun W => run_front (P := Tryd.prog) 80 _ i0 Tryd.underlying80 hi0 b o n c i (by omega) W
  clear hi0 hz0 hz1 hz2
  have hp : Hid (∀ W, Below w.heap.size w W → PrsAt W b o i g ∧ PrsAt W b o2 (n - (i + 1)) (fun j => g (i + 1 + j)) ∧ b < W.heap.size) := Lib.hid fun W h => by
    have h1 := hx.below h hb
    exact ⟨h1.front (by omega), hpb W g h1, Nat.lt_of_lt_of_le hb h.size⟩
  clear hx hpb
  have hi' : (i : Int) < n := by omega
  have hwr : IntKind.i64.wrap ((i : Int) + 1) = (i : Int) + 1 := by rw [IntKind.wrap_i64]; omega
  have hm1 : Hid (i ≤ 1048576) := Lib.hid (by omega)
  have hm2 : Hid (n - (i + 1) ≤ 1048576) := Lib.hid (by omega)
  go_enter Tryd.func56, Tryd.ntmps56
  go_wp2_with fail
  refine wp_region_held (S := fun _ => True) (by kernel_rfl) ?_
  have hB0 := below_drew1 w
  have hS0 : True := trivial
  show wpAnyH _ _ _ _ _ _ _ _ w.drew
  generalize w.drew = Wd at *
  simp only [List.size_toArray, List.length_cons, List.length_nil]
  refine wpAnyH_take (i := 0) (v := .slice (some ⟨b, o, none⟩) n c) rfl (by kernel_rfl) (by kernel_rfl) (by kernel_rfl) (fun _ _ _ h => h) (.inl ⟨by rfl, fun W _ => by go_simp⟩) hS0 ?_
  go_frame
  refine wpAnyH_take (i := 1) (v := .int .i64 (i : Int)) rfl (by kernel_rfl) (by kernel_rfl) (by kernel_rfl) (fun _ _ _ h => h) (.inl ⟨by rfl, fun W _ => by go_simp⟩) hS0 ?_
  go_frame
  refine wpAnyH_take (i := 2) (v := .slice (some ⟨b, o, none⟩) i c) rfl (by kernel_rfl) (by kernel_rfl) (by kernel_rfl) (fun _ _ _ h => h) (yields_front rfl rfl Tryd.underlying80 (by go_simp) (by go_simp) hfr) hS0 ?_
  go_frame
  refine wpAnyH_take (i := 3) (v := .slice (some ⟨b, o, none⟩) n c) rfl (by kernel_rfl) (by kernel_rfl) (by kernel_rfl) (fun _ _ _ h => h) (.inl ⟨by rfl, fun W _ => by go_simp⟩) hS0 ?_
  go_frame
  refine wpAnyH_take (i := 4) (v := .int .i64 (i : Int)) rfl (by kernel_rfl) (by kernel_rfl) (by kernel_rfl) (fun _ _ _ h => h) (.inl ⟨by rfl, fun W _ => by go_simp⟩) hS0 ?_
  go_frame
  refine wpAnyH_take (i := 5) (v := .int .i64 ((i : Int) + 1)) rfl (by kernel_rfl) (by kernel_rfl) (by kernel_rfl) (fun _ _ _ h => h) (.inl ⟨by rfl, fun W _ => by go_simp⟩) hS0 ?_
  go_frame
  refine wpAnyH_take (i := 6) (v := .slice (some ⟨b, o2, none⟩) (n - (i + 1)) (c - (i + 1))) rfl (by kernel_rfl) (by kernel_rfl) (by kernel_rfl) (fun _ _ _ h => h) (yields_back rfl rfl Tryd.underlying80 (by go_simp) (by go_simp) hbk) hS0 ?_
  go_frame
  refine wpAnyH_ready (rs := [7]) (by kernel_rfl) (by decide) ?_
  refine AllReadyH.cons rfl ?_ AllReadyH.nil
  intro K5 hK5
  go_simp
  refine hK5.out _ _ trivial (fun _ => ?_)
  clear hK5 K5 hbk hfr
  have hB := hB0.alloc hB0.size (.cells #[.slice (some ⟨b, o, none⟩) i c, .slice (some ⟨b, o2, none⟩) (n - (i + 1)) (c - (i + 1))] 80)
  have h2 := hp.out _ hB
  have hco := Lib.hid (ConcatPr_any b o i c g b o2 (n - (i + 1)) (c - (i + 1)) _ Wd.heap.size hm1.out hm2.out _ h2.1 h2.2.2 h2.2.1 h2.2.2 (show (Wd.alloc (.cells #[.slice (some ⟨b, o, none⟩) i c, .slice (some ⟨b, o2, none⟩) (n - (i + 1)) (c - (i + 1))] 80)).cell? _ = _ by simp) (by simp))
  clear h2 hp
  refine wpAnyH_ready (rs := [8]) (by kernel_rfl) (by decide) ?_
  refine AllReadyH.cons rfl ?_ AllReadyH.nil
  intro K6 hK6
  go_simp
  refine hco.out.mono ?_; rintro e w5 ⟨v5, rfl, o5, hb5⟩
  have R5 := hB.trans (hb5.mono hB.size)
  have M5 := (mine_prs o5).mono (show w.heap.size ≤ _ from hB.size) (Nat.le_refl _)
  rw [show i + (n - (i + 1)) = n - 1 from by omega] at M5
  obtain ⟨A5, cap5, rfl, _⟩ := id M5
  have HM := Lib.hid M5
  have HR := Lib.hid R5
  clear M5 R5 o5 hb5 hB hco hB0
  go_wp2_with fail
  refine hK6.out _ _ trivial (fun _ => ?_)
  clear hK6 K6
  refine wpAnyH_ready (rs := [9]) (by kernel_rfl) (by decide) ?_
  refine AllReadyH.cons rfl ?_ AllReadyH.nil
  intro KZ hKZ
  go_simp
  refine hKZ.out _ _ trivial (fun _ => ?_)
  clear hKZ KZ
  refine wpAnyH_done (by kernel_rfl) ?_ _
  go_wp2_with fail
  go_ret
  exact ⟨_, _, rfl, HM.out, HR.out⟩
end Go.Proofs.YtkmpfbjenddhjaaDoor

/-
  slices.Concat of two lists of points, slices.Grow of no list, a part of a curve. Condition: at most 1048576 points each.
-/
import Derived.Test.YtpombpphicmhmaaDoorOwnCurve
import Derived.Test.YtpombpphicmhmaaDoorPts
import Derived.Lib.AppendZerosOnto
import Derived.Laws.Slices
import Derived.Maps.AppendAt
namespace Go.Proofs.YtpombpphicmhmaaDoor
open Go.RowKit

theorem grown_of_belowK {a w : World} (h : Below a.heap.size a w) (row : Option Nat) : a.grownBy w row := ⟨h.os, h.tape, h.output, h.size, fun i hi _ => h.block i hi⟩
/-- Points in a row of cells, from an offset on. -/
structure Part (w : World) (b o m : Nat) (us vs : Nat → Int) : Prop where
  lt : b < w.heap.size
  cells : ∀ j, j < m → w.cell? ⟨b, o + j * 2, none⟩ = some (.int .i16 (us j)) ∧ w.cell? ⟨b, o + j * 2 + 1, none⟩ = some (.int .i16 (vs j))
theorem Part.below {w w' : World} {b o m : Nat} {us vs : Nat → Int} (h : Part w b o m us vs) {B : Nat} (hb : Below B w w') (hB : b < B) : Part w' b o m us vs :=
  ⟨Nat.lt_of_lt_of_le h.lt hb.size, fun j hj => by
    obtain ⟨c0, c1⟩ := h.cells j hj
    exact ⟨(hb.cell (p := ⟨b, o + j * 2, none⟩) hB).trans c0, (hb.cell (p := ⟨b, o + j * 2 + 1, none⟩) hB).trans c1⟩⟩
theorem part_at (b o j : Nat) : (⟨b, o, none⟩ : Addr).add j = ⟨b, o + j, none⟩ := by simp [Addr.add]
theorem Part.news {w : World} {b o m : Nat} {us vs : Nat → Int} (h : Part w b o m us vs) : ∀ j u, (listCurve us vs m)[j]? = some u → w.cell? ((⟨b, o, none⟩ : Addr).add j) = some u := fun j u hj => by
  have hl : j < (listCurve us vs m).length := (List.getElem?_eq_some_iff.1 hj).1
  rw [listCurve_len] at hl
  have hg := listCurve_get us vs m j hl
  rw [hj] at hg
  have hu : u = cellCurve us vs j := hg
  subst hu
  obtain ⟨k, rfl | rfl⟩ : ∃ k, j = k * 2 ∨ j = k * 2 + 1 := ⟨j / 2, by omega⟩
  · rw [cellCurve_0, part_at]; exact (h.cells k (by omega)).1
  · rw [cellCurve_1, part_at, ← Nat.add_assoc]; exact (h.cells k (by omega)).2
theorem listCurve_one (us vs : Nat → Int) : ∀ m, ∀ u ∈ listCurve us vs m, u.oneCell' = true
  | 0, u, h => by simp [listCurve] at h
  | m + 1, u, h => by
    simp only [listCurve, List.mem_append, List.mem_cons, List.not_mem_nil, or_false] at h
    rcases h with h | rfl | rfl
    · exact listCurve_one us vs m u h
    · rfl
    · rfl
theorem Part.of_row {w : World} {b n k m : Nat} {xs ys : Nat → Int} (h : PtRow w b n xs ys) (hm : k + m ≤ n) : Part w b (k * 2) m (fun j => xs (k + j)) (fun j => ys (k + j)) :=
  ⟨h.lt, fun j hj => ⟨by rw [show k * 2 + j * 2 = (k + j) * 2 by omega]; exact h.cell0 (by omega), by rw [show k * 2 + j * 2 + 1 = (k + j) * 2 + 1 by omega]; exact h.cell1 (by omega)⟩⟩
theorem Part.none (w : World) {b : Nat} (h : b < w.heap.size) (o : Nat) (us vs : Nat → Int) : Part w b o 0 us vs := ⟨h, fun j hj => by omega⟩

theorem run_cut3 {P : Program} (t e : TypeId) (i : TypeInfo) (ht : P.underlying t = some (.slice e)) (hi : P.info? e = some i) (a : Option Addr) (len cap k m : Nat) (h1 : k ≤ m) (h2 : m ≤ cap) (w : World) :
    (Instr.slice t (.slice a len cap) (some (.int .i64 k)) (some (.int .i64 m)) (some (.int .i64 m))).run P w = .ok (.slice (if m = k then a else a.map (·.add (k * i.size))) (m - k) (m - k)) w := by
  simp [Instr.slice, run_underlying ht, Instr.sliceBounds, run_sliceBound, sizeOf, typeInfo, hi, h1, h2]

set_option maxRecDepth 100000 in
theorem cut_any (b n cap k m : Nat) (h1 : k ≤ m) (h2 : m ≤ n) (h3 : n ≤ cap) (w : World) :
    Calls Tryd.prog 77 #[.slice (some ⟨b, 0, none⟩) n cap, .int .i64 k, .int .i64 m] w fun e w' => (∃ o, e = .returned (.slice (some ⟨b, o, none⟩) (m - k) (m - k)) ∧ (k < m → o = k * 2)) ∧ w = w' := by
  obtain ⟨i0, hi, hz0, hz1, hz2⟩ := info_parts infoCurve
  have hsl := fun W => run_cut3 (P := Tryd.prog) 27 46 i0 Tryd.underlying27 hi (some ⟨b, 0, none⟩) n cap k m h1 (by omega) W
  rw [hz1] at hsl
  obtain ⟨o, ho, hk⟩ : ∃ o, (if m = k then some (⟨b, 0, none⟩ : Addr) else (some (⟨b, 0, none⟩ : Addr)).map (·.add (k * 2))) = some ⟨b, o, none⟩ ∧ (k < m → o = k * 2) := by
    by_cases h : m = k
    · exact ⟨0, if_pos h, fun h' => by omega⟩
    · refine ⟨k * 2, ?_, fun _ => rfl⟩
      rw [if_neg h, Option.map_some, part_at, Nat.zero_add]
  rw [ho] at hsl
  have Hk := Lib.hid hk; clear hk ho
  go_enter Tryd.func77, Tryd.ntmps77
  go_wp2
  go_ret
  exact ⟨⟨o, rfl, Hk.out⟩, rfl⟩

theorem below_drew1K (w : World) : Below w.heap.size w w.drew := (Below.refl _ _).drew
theorem zeros_size (z : Array Value) (n : Nat) : (Builtin.zeroCells z n).size = n * z.size := by simp [Builtin.zeroCells]
set_option maxRecDepth 100000 in
set_option maxHeartbeats 1000000 in
theorem Grow_any (N : Nat) (hN : N ≤ 2097152) (w : World) :
    Calls Tryd.prog 85 #[.slice none 0 0, .int .i64 N] w fun e w' => ∃ v, e = .returned v ∧ w'.ownsRow w.heap.size 46 2 v 0 [] ∧ Below w.heap.size w w' := by
  obtain ⟨i0, hi, hz0, hz1, hz2⟩ := info_parts infoCurve
  rcases Nat.eq_zero_or_pos N with rfl | hpos
  · go_enter Tryd.func85, Tryd.ntmps85
    go_wp2
    go_ret
    exact ⟨_, rfl, ⟨rfl, .inl ⟨rfl, rfl⟩⟩, Below.refl _ _⟩
  · have hrz := fun ty => Lib.run_append_grow_zeros w 27 3 ty 46 i0 _ .i64 .i64 Tryd.underlying27 Tryd.underlying3 hi hz0 none 0 0 [] (run_firstCells_none w.drew i0.size 0 0 0) N hpos (by rw [hz1]; decide) (by omega) (by omega) (by rw [hz2]; omega) (by rw [Nat.zero_add]; exact growslice_fits hpos (by rw [hz2]; omega))
    rw [Nat.zero_add] at hrz
    have hG0 : N ≤ grownCap w N 0 46 := grownCap_ge w _ _ _
    have hGm := grownCap_le_maxLen w N 0 46 (by unfold maxLen; omega)
    generalize grownCap w N 0 46 = G at hrz hG0 hGm
    have h4 : (N : Int) > 0 := by omega
    have hown : (w.drew.alloc (.cells (([] : List Value).toArray ++ Builtin.zeroCells (Value.agg #[.int .i16 0, .int .i16 0]).cells N ++ Builtin.zeroCells (Value.agg #[.int .i16 0, .int .i16 0]).cells (G - N)) 46)).ownsRow w.heap.size 46 2 (.slice (some ⟨w.heap.size, 0, none⟩) 0 G) 0 [] := by
      refine ⟨rfl, .inr ⟨w.heap.size, G, _, rfl, Nat.le_refl _, heap_alloc_new w.drew _, Nat.zero_le _, hGm, ?_, by simp⟩⟩
      simp only [Array.size_append, zeros_size, Value.cells]
      simp; omega
    have hB : Below w.heap.size w (w.drew.alloc (.cells (([] : List Value).toArray ++ Builtin.zeroCells (Value.agg #[.int .i16 0, .int .i16 0]).cells N ++ Builtin.zeroCells (Value.agg #[.int .i16 0, .int .i16 0]).cells (G - N)) 46)) := (below_drew1K w).alloc (Nat.le_refl _) _
    generalize w.drew.alloc (.cells (([] : List Value).toArray ++ Builtin.zeroCells (Value.agg #[.int .i16 0, .int .i16 0]).cells N ++ Builtin.zeroCells (Value.agg #[.int .i16 0, .int .i16 0]).cells (G - N)) 46) = W at hrz hown hB
    have hG63 : G ≤ 9223372036854775807 := by unfold maxLen at hGm; omega
    go_enter Tryd.func85, Tryd.ntmps85
    go_wp2_with (at_builtin; refine Lib.wpList_append_run _ rfl _ _ _ _ rfl _ _ rfl rfl _ _ (hrz _) ?_)
    all_goals (go_ret; exact ⟨_, rfl, hown, hB⟩)

set_option maxRecDepth 100000 in
set_option maxHeartbeats 2000000 in
theorem Concat_any (b o m c : Nat) (us vs : Nat → Int) (b' o' m' c' : Nat) (us' vs' : Nat → Int) (g : Nat) (hm : m ≤ 1048576) (hm' : m' ≤ 1048576) (w : World) (hp : Part w b o m us vs) (hp' : Part w b' o' m' us' vs')
    (h0 : w.cell? ⟨g, 0, none⟩ = some (.slice (some ⟨b, o, none⟩) m c)) (h1 : w.cell? ⟨g, 1, none⟩ = some (.slice (some ⟨b', o', none⟩) m' c')) :
    Calls Tryd.prog 76 #[.slice (some ⟨g, 0, none⟩) 2 2] w fun e w' => ∃ v, e = .returned v ∧ w'.ownsRow w.heap.size 46 2 v (m + m') (listCurve us vs m ++ listCurve us' vs' m') ∧ Below w.heap.size w w' := by
  obtain ⟨i0, hi, hz0, hz1, hz2⟩ := info_parts infoCurve
  have hg : g < w.heap.size := World.block_lt_of_cell? w _ h0
  have hgr := Grow_any (m + m') (by omega) w
  have e0 : (m : Int) + (m' : Int) = ((m + m' : Nat) : Int) := by omega
  have E0 := Lib.hid e0; clear e0
  have n0 : decide ((m : Int) < 0) = false := decide_eq_false (by omega)
  have n1 : decide ((m : Int) + (m' : Int) < 0) = false := decide_eq_false (by omega)
  have Hgr := Lib.hid hgr; clear hgr
  go_enter Tryd.func76, Tryd.ntmps76
  go_wp2_with fail
  refine wp_loop_rounds 3 ?_
  rw [rounds_succ]
  go_wp2_with fail
  rw [rounds_succ]
  go_wp2_with fail
  rw [rounds_succ]
  go_wp2_with fail
  rw [E0.out]
  refine Hgr.out.mono ?_; rintro e w1 ⟨v, rfl, o1, hb1⟩
  have h0' := below_cellOf hb1 h0 (Nat.le_refl _)
  have h1' := below_cellOf hb1 h1 (Nat.le_refl _)
  have p1 := (hp.below hb1 hp.lt).news
  have p2 := hp'.below hb1 hp'.lt
  have z1 := hb1.size
  clear h0 h1
  go_wp2_with fail
  refine wp_loop_rounds 3 ?_
  rw [rounds_succ]
  go_wp2_with (at_builtin; refine wpList_append_own _ rfl _ _ 27 rfl w.heap.size 46 i0 (.agg #[.int .i16 0, .int .i16 0]) 2 4 Tryd.underlying27 hi hz0 hz1 hz2 rfl (by decide) _ _ _ rfl o1 ⟨b, o, none⟩ m c (listCurve us vs m) rfl (listCurve_len us vs m) p1 (listCurve_one us vs m) ?c3 ?c4 ?c5 ?_)
  case c3 => unfold maxLen; omega
  case c4 => omega
  case c5 => exact hb1.size
  intro v2 w2 o2 hg2 _
  have hb2 : Below w.heap.size w w2 := hb1.grown hg2 (by omega) (fun x hx => (o1.lt x hx).1)
  have k2 : Below w.heap.size w1 w2 := (Below.refl _ _).grown hg2 (by omega) (fun x hx => (o1.lt x hx).1)
  have h1'' : w2.cell? ⟨g, 1, none⟩ = _ := (k2.cell (p := ⟨g, 1, none⟩) hg).trans h1'
  have p3 := (p2.below k2 hp'.lt).news
  clear h0' h1' p1 p2 hg2 o1
  go_wp2_with fail
  rw [rounds_succ]
  go_wp2_with (at_builtin; refine wpList_append_own _ rfl _ _ 27 rfl w.heap.size 46 i0 (.agg #[.int .i16 0, .int .i16 0]) 2 4 Tryd.underlying27 hi hz0 hz1 hz2 rfl (by decide) _ _ _ rfl o2 ⟨b', o', none⟩ m' c' (listCurve us' vs' m') rfl (listCurve_len us' vs' m') p3 (listCurve_one us' vs' m') ?d3 ?d4 ?d5 ?_)
  case d3 => unfold maxLen; omega
  case d4 => omega
  case d5 => exact hb2.size
  intro v3 w3 o3 hg3 _
  have hb3 : Below w.heap.size w w3 := hb2.grown hg3 hb2.size (fun x hx => (o2.lt x hx).1)
  clear p3 hg3 o2 h1''
  go_wp2_with fail
  rw [rounds_succ]
  go_wp2_with fail
  go_ret
  refine ⟨_, rfl, ?_, hb3⟩
  rw [show m + m' = 0 + m + m' by omega]
  simpa using o3
end Go.Proofs.YtpombpphicmhmaaDoor

/-
  A literal list of one print: 'append(frames, print)' builds one first. No condition of ours.
-/
import Derived.Test.YtmibinfaafhgdaaDoorPrL
import Derived.Deep.RegionHeld
import Derived.RegionTactic
import Derived.OrdersHeld
namespace Go.Proofs.YtmibinfaafhgdaaDoor
open Go.RowKit

theorem foldl_set_get : ∀ (l : List Value) (k : Nat) (B : Array Value) (j : Nat), j < B.size → ((l.zipIdx k).foldl (fun a x => a.setIfInBounds x.2 x.1) B)[j]? = if k ≤ j ∧ j < k + l.length then l[j - k]? else B[j]?
  | [], k, B, j, hj => by
    rw [if_neg (by first | (simp; done) | (simp; omega))]; rfl
  | v :: l, k, B, j, hj => by
    rw [List.zipIdx_cons, List.foldl_cons, foldl_set_get l (k + 1) _ j (by simpa using hj)]
    by_cases h : k = j
    · subst h
      have h1 : ¬ (k + 1 ≤ k ∧ k < k + 1 + l.length) := by omega
      have h2 : k ≤ k ∧ k < k + (v :: l).length := by simp
      rw [if_neg h1, if_pos h2]
      simp [hj]
    · by_cases h1 : k + 1 ≤ j ∧ j < k + 1 + l.length
      · have h2 : k ≤ j ∧ j < k + (v :: l).length := by simp; omega
        rw [if_pos h1, if_pos h2]
        obtain ⟨d, rfl⟩ : ∃ d, j = k + 1 + d := ⟨j - (k + 1), by omega⟩
        rw [show k + 1 + d - (k + 1) = d by omega, show k + 1 + d - k = d + 1 by omega, List.getElem?_cons_succ]
      · have h2 : ¬ (k ≤ j ∧ j < k + (v :: l).length) := by simp; omega
        rw [if_neg h1, if_neg h2, Array.getElem?_setIfInBounds_ne h]
theorem foldl_set_size : ∀ (l : List (Value × Nat)) (B : Array Value), (l.foldl (fun a x => a.setIfInBounds x.2 x.1) B).size = B.size
  | [], B => rfl
  | x :: l, B => by rw [List.foldl_cons, foldl_set_size l]; simp
theorem foldl_set_all (cs B : Array Value) (h : B.size = cs.size) : cs.zipIdx.foldl (fun a x => a.setIfInBounds x.2 x.1) B = cs := by
  have e : cs.zipIdx.foldl (fun a x => a.setIfInBounds x.2 x.1) B = (cs.toList.zipIdx 0).foldl (fun a x => a.setIfInBounds x.2 x.1) B := by
    rw [← Array.foldl_toList, Array.toList_zipIdx]
  rw [e]
  apply Array.ext_getElem?
  intro j
  by_cases hj : j < B.size
  · rw [foldl_set_get _ 0 B j hj, if_pos ⟨Nat.zero_le _, by simp; omega⟩]
    simp
  · rw [Array.getElem?_eq_none (by rw [foldl_set_size]; omega), Array.getElem?_eq_none (by omega)]
theorem foldl_set_upto (cs B : Array Value) (n : Nat) (hn : cs.size = n) (h : B.size = n) : cs.zipIdx.foldl (fun a x => a.setIfInBounds x.2 x.1) B 0 n = cs := by
  have h1 := foldl_set_all cs B (h.trans hn.symm)
  have e : cs.zipIdx.size = n := by simp [hn]
  rw [e] at h1
  exact h1
theorem run_buildSlice_arr {P : Program} {t e : TypeId} {n : Nat} {i : TypeInfo} {z : Value} (ht : P.underlying t = some (.slice e)) (hi : P.info? e = some i) (hs : i.size = n) (hz : i.zero = some z) (hn : 0 < n) (hn2 : n ≤ 16777216) (κ : IntKind) (f : Nat → Int) (w : World) :
    (Instr.buildSlice t 1 #[(0, .agg (arrV κ n f))]).run P w = .ok (.slice (some ⟨w.heap.size, 0, none⟩) 1 1) (w.alloc (.cells (arrV κ n f) e)) := by
  have h1 : ¬ 16777216 < n := by omega
  have h2 : ¬ n = 0 := by omega
  have h3 := foldl_set_upto (arrV κ n f) (Array.map (fun x => z.cells[x % z.cells.size]!) (Array.range n)) n (arrV_size _ _ _) (by simp)
  have h4 : Instr.fill (fun i => some (i * n, n)) (Array.map (fun x => z.cells[x % z.cells.size]!) (Array.range n)) [(0, Value.agg (arrV κ n f))] = some (arrV κ n f) := by
    simp [Instr.fill, Value.cells, arrV_size]
    exact h3
  simp [Instr.buildSlice, run_underlying ht, sizeOf, typeInfo, hi, hs, hz, zeroValue, h1, h2, newRow, h4]

theorem arrV_oneL (κ : IntKind) (n : Nat) (f : Nat → Int) (u : Value) (hu : u ∈ (arrV κ n f).toList) : u.oneCell' = true := by
  obtain ⟨k, hk, e⟩ := List.mem_iff_getElem.1 hu
  have hk' : k < n := by simpa [arrV_size] using hk
  have h2 := arrV_get (κ := κ) (f := f) hk'
  rw [Array.getElem?_eq_getElem (by rw [arrV_size]; exact hk')] at h2
  rw [← e, Array.getElem_toList, Option.some.inj h2]
  rfl
theorem wpList_buildSlice_arr {P : Program} {ops : Array Oper} {rest : List Oper} {o : Oper} {a : Act} {w : World} {Q : Exit → Act → World → Prop} {t e : TypeId} {n : Nat} {i : TypeInfo} {z : Value} {κ : IntKind} {f : Nat → Int} (x : Operand) (hgd : o.guard = none) (ho : o.op = .buildSlice t 1 #[(0, x)]) (hx : a.eval x = .agg (arrV κ n f))
    (ht : P.underlying t = some (.slice e)) (hi : P.info? e = some i) (hs : i.size = n) (hz : i.zero = some z) (hn : 0 < n) (hn2 : n ≤ 16777216)
    (hK : wpList P ops Q rest (a.put o.dst (.slice (some ⟨w.heap.size, 0, none⟩) 1 1)) (w.alloc (.cells (arrV κ n f) e))) : wpList P ops Q (o :: rest) a w :=
  wpList_plain hgd fun K hK' => by
    have h : (execOp a.eval o).run P w = .ok (.value (.slice (some ⟨w.heap.size, 0, none⟩) 1 1)) (w.alloc (.cells (arrV κ n f) e)) := by
      unfold execOp
      simp only [ho, List.map_toArray, List.map_cons, List.map_nil, hx, Sem.run_bind, run_buildSlice_arr ht hi hs hz hn hn2 κ f w, Result.andThen_ok, Sem.run_pure]
    unfold Oper.wp
    rw [h]
    exact hK' _ _ hK

/-- The block of the literal. -/
theorem lit_at (w : World) (f : Nat → Int) : PrsAt (w.alloc (.cells (arrV .i16 64 f) 37)) w.heap.size 0 1 (fun _ => f) := by
  have h := World.rowIs_alloc w (arrV .i16 64 f) 37 (fun j => .int .i16 (f j)) (fun i hi => by
    rw [arrV_size] at hi
    have h2 := arrV_get (κ := .i16) (f := f) hi
    simp [getElem!_def, h2])
  intro i hi k hk
  rw [arrV_size] at h
  rw [h.cell (by omega), show 0 + i * 64 + k = k by omega]
section
variable {ops : Array Oper} {rest : List Oper} {o : Oper} {a : Act} {Q : Exit → Act → World → Prop} {w : World} {V : Array Value} {f : Nat → Int} {t : TypeId}
theorem step_lit_pr {K : Act → World → Prop} {E : Prop} (x : Operand) (hgd : o.guard = none) (ho : o.op = .buildSlice t 1 #[(0, x)]) (ht : Tryd.prog.underlying t = some (.slice 37)) (hx : a.eval x = .agg V) (hV : arrV .i16 64 f = V)
    (hK : K (a.put o.dst (.slice (some ⟨w.heap.size, 0, none⟩) 1 1)) (w.alloc (.cells (arrV .i16 64 f) 37))) :
    if Region.wanted o (yielded ops a.tmps) = true then Oper.wp Tryd.prog o a w K Q else E := by
  have hw : Region.wanted o (yielded ops a.tmps) = true := by simp [Region.wanted, hgd]
  rw [if_pos hw]
  obtain ⟨i0, hi, hz0, hz1, hz2⟩ := info_parts prInfo
  subst hV
  have h : (execOp a.eval o).run Tryd.prog w = .ok (.value (.slice (some ⟨w.heap.size, 0, none⟩) 1 1)) (w.alloc (.cells (arrV .i16 64 f) 37)) := by
    unfold execOp
    simp only [ho, List.map_toArray, List.map_cons, List.map_nil, hx, Sem.run_bind, run_buildSlice_arr ht hi hz1 hz0 (by decide) (by decide) .i16 f w, Result.andThen_ok, Sem.run_pure]
  unfold Oper.wp
  rw [h]
  exact hK
theorem wpList_lit_pr (x : Operand) (hgd : o.guard = none) (ho : o.op = .buildSlice t 1 #[(0, x)]) (ht : Tryd.prog.underlying t = some (.slice 37)) (hx : a.eval x = .agg V) (hV : arrV .i16 64 f = V)
    (hK : wpList Tryd.prog ops Q rest (a.put o.dst (.slice (some ⟨w.heap.size, 0, none⟩) 1 1)) (w.alloc (.cells (arrV .i16 64 f) 37))) : wpList Tryd.prog ops Q (o :: rest) a w := by
  obtain ⟨i0, hi, hz0, hz1, hz2⟩ := info_parts prInfo
  subst hV
  exact wpList_buildSlice_arr x hgd ho hx ht hi hz1 hz0 (by decide) (by decide) hK
end
end Go.Proofs.YtmibinfaafhgdaaDoor

/-
  An argument that is a list of points, opened: nil or not; its numbers are small. No condition of ours.
-/
import Derived.Test.YtnlcjbobfhmnmaaDoorPts
namespace Go.Proofs.YtnlcjbobfhmnmaaDoor
open Go.RowKit Go.ChangeShapes Go.WideShapes Go.Deep

section
variable {H : Type} {enc : TypeId × Value → H} {P : Program} {w : World} {base : Nat} {spare : Nat → Bool} {held : Bool}
/-- A slice of structs of one-cell fields: each entry's cells, each with its own reading (after the guide's own block). -/
theorem open_slice_fields {t e : TypeId} {fs : Array Field} {fuel : Nat} {cs : List Value} {x : DataW H × List MemPlace} (ht : P.underlying t = some (.slice e)) (he : P.underlying e = some (.struct fs))
    (hone : oneCellFields P fs = true) (hC : P.cellsOf e = fs.size) (h : DataW.trod enc P w base spare held fuel t cs = some x) :
    (cs = [.slice none 0 0] ∧ x = (.nil, [])) ∨
    ∃ (a : Addr) (len cap m : Nat) (D : Nat → DataW H) (Pl : Nat → List MemPlace), cs = [.slice (some a) len cap] ∧ base ≤ a.block ∧ len ≤ cap ∧ cap ≤ maxLen ∧ m = (if spare a.block then cap else len) ∧
      x = (.slice ((List.range len).map D) ((List.range (m - len)).map fun j => D (len + j)), MemPlace.row a (m * fs.size) ++ (List.range m).flatMap Pl) ∧
      ∀ i, i < m → ∃ (ys : List (DataW H × List MemPlace)) (n : Nat), D i = .agg (ys.map (·.1)) ∧ Pl i = ys.flatMap (·.2) ∧ ys.length = fs.size ∧
        ∀ (j : Nat) (f : Field), fs[j]? = some f → ∃ (v : Value) (y : DataW H × List MemPlace), w.cell? (a.add (i * fs.size + j)) = some v ∧ ys[j]? = some y ∧ DataW.trod enc P w base spare held n f.type [v] = some y := by
  rcases open_slice ht h with h0 | ⟨a, len, cap, m, n, D, Pl, hcs, hb, hl, hm, hmm, hx, hi⟩
  · exact .inl h0
  · refine .inr ⟨a, len, cap, m, D, Pl, hcs, hb, hl, hm, hmm, by rw [hC] at hx; exact hx, fun i him => ?_⟩
    obtain ⟨cs', hc, ht'⟩ := hi i him
    rw [hC] at hc
    obtain ⟨ys, n', hn', hy, hlen, hyl, hf⟩ := DataW.trod_struct he ht'
    obtain ⟨_, hcl, hat⟩ := World.cells?_some hc
    simp only [Prod.mk.injEq] at hy
    refine ⟨ys, n', hy.1, hy.2, hyl, fun j f hj => ?_⟩
    obtain ⟨ho, hk⟩ := hone_of hone j f hj
    have hjl : j < fs.size := (Array.getElem?_eq_some_iff.1 hj).1
    have hcell := hat j hjl
    have hv : cs'[j]? = some (cs'[j]'(by omega)) := List.getElem?_eq_getElem (by omega)
    have h1 := hf j f hj
    rw [ho, hk] at h1
    have hone' : (cs'.drop j).take 1 = [cs'[j]'(by omega)] := by
      rw [List.drop_eq_getElem_cons (by omega)]
      rfl
    rw [hone'] at h1
    have hys : ys[j]? = some (ys[j]'(by omega)) := List.getElem?_eq_getElem (by omega)
    refine ⟨_, _, ?_, hys, h1.trans hys⟩
    rw [← Go.Deep.add_add, hcell, hv]
end

/-- The small number that a cell holds. -/
def numAt (w : World) (p : Addr) : Int := match w.cell? p with
  | some (.int _ x) => x
  | _ => 0
theorem pts_open {H : Type} {enc : TypeId × Value → H} {P : Program} {w : World} {t e q : TypeId} {f0 f1 : Field} {v : Value} {d : DataW H} {p : List MemPlace} {r : Reach} {b0 : Nat}
    (ht : P.underlying t = some (.slice e)) (he : P.underlying e = some (.struct #[f0, f1])) (hone : oneCellFields P #[f0, f1] = true) (hC : P.cellsOf e = 2) (h0 : f0.type = q) (h1 : f1.type = q) (hq : P.underlying q = some (.int .i16))
    (hv : Value.okWide P w r b0 t v) (h : DataW.Trod enc P w 0 (fun _ => true) true t v d p) :
    ∃ A n cap fs es, v = .slice A n cap ∧ PtsIn w A n fs es ∧ n ≤ maxLen ∧ SmallP n fs es := by
  obtain ⟨a0, len, cap, rfl⟩ := okWide_slice ht hv
  obtain ⟨fuel, hf⟩ := h
  rcases open_slice_fields ht he hone hC hf with ⟨hcs, _⟩ | ⟨a, len', cap', m, D, Pl, hcs, _, hl, hm, hmm, _, hi⟩
  · simp only [Value.cells] at hcs
    have e1 : (Value.slice a0 len cap) = .slice none 0 0 := by simpa using hcs
    injection e1 with e1 e2 e3
    subst e1; subst e2
    exact ⟨none, 0, cap, fun _ => 0, fun _ => 0, rfl, .inl rfl, Nat.zero_le _, fun j hj => by omega⟩
  · simp only [Value.cells] at hcs
    have e1 : (Value.slice a0 len cap) = .slice (some a) len' cap' := by simpa using hcs
    injection e1 with e1 e2 e3
    subst e1; subst e2; subst e3
    simp only [if_true] at hmm
    have key : ∀ j, j < len → (∃ x, w.cell? (a.add (j * 2)) = some (.int .i16 x) ∧ -32768 ≤ x ∧ x ≤ 32767) ∧ ∃ x, w.cell? (a.add (j * 2 + 1)) = some (.int .i16 x) ∧ -32768 ≤ x ∧ x ≤ 32767 := by
      intro j hj
      obtain ⟨ys, k, _, _, _, hF⟩ := hi j (by omega)
      obtain ⟨v0, y0, hc0, _, ht0⟩ := hF 0 f0 rfl
      obtain ⟨v1, y1, hc1, _, ht1⟩ := hF 1 f1 rfl
      rw [h0] at ht0
      rw [h1] at ht1
      obtain ⟨x0, e0, _, w0⟩ := DataW.trod_int hq ht0
      obtain ⟨x1, e1, _, w1⟩ := DataW.trod_int hq ht1
      simp only [List.cons.injEq, and_true] at e0 e1
      subst e0; subst e1
      exact ⟨⟨x0, hc0, bounds_i16 w0⟩, x1, hc1, bounds_i16 w1⟩
    have hmx : len ≤ maxLen := Nat.le_trans hl hm
    by_cases hz : len = 0
    · subst hz
      exact ⟨some a, 0, cap, fun _ => 0, fun _ => 0, rfl, .inl rfl, Nat.zero_le _, fun j hj => by omega⟩
    · obtain ⟨b, off, spot⟩ := a
      obtain ⟨⟨x, hx, _⟩, _⟩ := key 0 (by omega)
      have hspot : spot = none := by simpa [Addr.add] using World.cell?_spot hx
      subst hspot
      have hb : b < w.heap.size := by
        rcases Nat.lt_or_ge b w.heap.size with h2 | h2
        · exact h2
        · simp [Addr.add, World.cell?, Array.getElem?_eq_none h2] at hx
      refine ⟨some ⟨b, off, none⟩, len, cap, fun j => numAt w ⟨b, off + j * 2, none⟩, fun j => numAt w ⟨b, off + j * 2 + 1, none⟩, rfl, .inr ⟨b, off, rfl, hb, fun j hj => ?_⟩, hmx, fun j hj => ?_⟩
      · obtain ⟨⟨x0, c0, _⟩, x1, c1, _⟩ := key j hj
        have c0 : w.cell? ⟨b, off + j * 2, none⟩ = some (.int .i16 x0) := by rw [add_plain] at c0; exact c0
        have c1 : w.cell? ⟨b, off + j * 2 + 1, none⟩ = some (.int .i16 x1) := by rw [add_plain] at c1; exact c1
        simp [numAt, c0, c1]
      · obtain ⟨⟨x0, c0, b0⟩, x1, c1, b1⟩ := key j hj
        have c0 : w.cell? ⟨b, off + j * 2, none⟩ = some (.int .i16 x0) := by rw [add_plain] at c0; exact c0
        have c1 : w.cell? ⟨b, off + j * 2 + 1, none⟩ = some (.int .i16 x1) := by rw [add_plain] at c1; exact c1
        simp only [numAt, c0, c1]
        exact ⟨b0, b1⟩
end Go.Proofs.YtnlcjbobfhmnmaaDoor

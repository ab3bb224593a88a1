/-
  An argument that is a list of prints, or a sheet, opened: nil or not; its numbers are int16's. No condition of ours.
-/
import Derived.Test.YtmibinfaafhgdaaDoorSht
import Derived.Test.YtmibinfaafhgdaaDoorOpenA
namespace Go.Proofs.YtmibinfaafhgdaaDoor
open Go.RowKit Go.ChangeShapes Go.WideShapes Go.Deep

/-- The number that a cell holds. -/
def numAtPr (w : World) (p : Addr) : Int := match w.cell? p with
  | some (.int _ x) => x
  | _ => 0
theorem prs_open_cs {H : Type} {enc : TypeId × Value → H} {P : Program} {w : World} {base : Nat} {held : Bool} {t e q : TypeId} {fuel : Nat} {v : Value} {x : DataW H × List MemPlace}
    (ht : P.underlying t = some (.slice e)) (he : P.underlying e = some (.array 64 q)) (hq : P.underlying q = some (.int .i16)) (hcq : P.cellsOf q = 1) (hC : P.cellsOf e = 64)
    (h : DataW.trod enc P w base (fun _ => true) held fuel t [v] = some x) :
    ∃ A n cap g, v = .slice A n cap ∧ PrsIn w A n g ∧ n ≤ maxLen ∧ ∀ i, i < n → S16 (g i) := by
  rcases open_slice ht h with ⟨hcs, _⟩ | ⟨a, len, cap, m, n, D, Pl, hcs, _, hl, hm, hmm, _, hi⟩
  · simp only [List.cons.injEq, and_true] at hcs
    exact ⟨none, 0, 0, fun _ _ => 0, hcs, .inl rfl, Nat.zero_le _, fun j hj => by omega⟩
  · simp only [List.cons.injEq, and_true] at hcs
    simp only [if_true] at hmm
    have key : ∀ j, j < len → ∀ k, k < 64 → ∃ x, w.cell? (a.add (j * 64 + k)) = some (.int .i16 x) ∧ -32768 ≤ x ∧ x ≤ 32767 := by
      intro j hj k hk
      obtain ⟨cs', hc, ht'⟩ := hi j (by omega)
      rw [hC] at hc
      obtain ⟨_, hcl, hat⟩ := World.cells?_some hc
      obtain ⟨xs, m', _, hx, hl', hxl, hi'⟩ := DataW.trod_array he ht'
      have h1 := hi' k hk
      rw [hcq, Nat.mul_one, List.getElem?_eq_getElem (show k < xs.length by omega)] at h1
      obtain ⟨y, hc', _, hw⟩ := DataW.trod_int hq h1
      have h2 := congrArg (fun l : List Value => l[0]?) hc'
      simp [List.getElem?_take, List.getElem?_drop] at h2
      exact ⟨y, by rw [← Go.Deep.add_add, hat k hk, h2], bounds_i16 hw⟩
    have hmx : len ≤ maxLen := Nat.le_trans hl hm
    by_cases hz : len = 0
    · subst hz
      exact ⟨some a, 0, cap, fun _ _ => 0, hcs, .inl rfl, Nat.zero_le _, fun j hj => by omega⟩
    · obtain ⟨b, off, spot⟩ := a
      obtain ⟨x, hx, _⟩ := key 0 (by omega) 0 (by omega)
      have hspot : spot = none := by simpa [Addr.add] using World.cell?_spot hx
      subst hspot
      have hb : b < w.heap.size := by
        rcases Nat.lt_or_ge b w.heap.size with h2 | h2
        · exact h2
        · simp [Addr.add, World.cell?, Array.getElem?_eq_none h2] at hx
      refine ⟨some ⟨b, off, none⟩, len, cap, fun j k => numAtPr w ⟨b, off + (j * 64 + k), none⟩, hcs, .inr ⟨b, off, rfl, hb, fun j hj k hk => ?_⟩, hmx, fun j hj k hk => ?_⟩
      · obtain ⟨x, c0, _⟩ := key j hj k hk
        have c0 : w.cell? ⟨b, off + (j * 64 + k), none⟩ = some (.int .i16 x) := by rw [add_plain] at c0; exact c0
        rw [Nat.add_assoc]
        simp [numAtPr, c0]
      · obtain ⟨x, c0, b0⟩ := key j hj k hk
        have c0 : w.cell? ⟨b, off + (j * 64 + k), none⟩ = some (.int .i16 x) := by rw [add_plain] at c0; exact c0
        simp only [numAtPr, c0]
        exact b0
theorem prs_open {H : Type} {enc : TypeId × Value → H} {P : Program} {w : World} {t e q : TypeId} {v : Value} {d : DataW H} {p : List MemPlace} {r : Reach} {b0 : Nat}
    (ht : P.underlying t = some (.slice e)) (he : P.underlying e = some (.array 64 q)) (hq : P.underlying q = some (.int .i16)) (hcq : P.cellsOf q = 1) (hC : P.cellsOf e = 64)
    (hv : Value.okWide P w r b0 t v) (h : DataW.Trod enc P w 0 (fun _ => true) true t v d p) :
    ∃ A n cap g, v = .slice A n cap ∧ PrsIn w A n g ∧ n ≤ maxLen ∧ ∀ i, i < n → S16 (g i) := by
  obtain ⟨a0, len, cap, rfl⟩ := okWide_slice ht hv
  obtain ⟨fuel, hf⟩ := h
  exact prs_open_cs ht he hq hcq hC (v := .slice a0 len cap) hf
end Go.Proofs.YtmibinfaafhgdaaDoor

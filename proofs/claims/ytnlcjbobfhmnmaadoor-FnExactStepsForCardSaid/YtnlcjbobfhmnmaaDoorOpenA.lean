/-
  An argument that is an array of numbers, opened; the laws' own arguments of this kind are int16's. No condition of ours.
-/
import Derived.Test.YtnlcjbobfhmnmaaDoorArr
import Derived.OpenShut
import Derived.WideShapes
namespace Go.Proofs.YtnlcjbobfhmnmaaDoor
open Go.RowKit Go.ChangeShapes Go.WideShapes

theorem arr_open {H : Type} {enc : TypeId × Value → H} {P : Program} {w : World} {t e : TypeId} {κ : IntKind} {n : Nat} {v : Value} {d : DataW H} {p : List MemPlace} {r : Reach} {b0 : Nat}
    (ht : P.underlying t = some (.array n e)) (he : P.underlying e = some (.int κ)) (hce : P.cellsOf e = 1) (hct : P.cellsOf t = n)
    (hv : Value.okWide P w r b0 t v) (h : DataW.Trod enc P w 0 (fun _ => true) true t v d p) :
    ∃ f, v = .agg (arrV κ n f) ∧ ∀ k, k < n → (Lit.int κ (f k)).wf = true := by
  obtain ⟨cs, rfl, hsz⟩ : ∃ cs, v = .agg cs ∧ cs.size = P.cellsOf t := by
    simp only [Value.okWide, ht] at hv
    obtain ⟨cs, h1, h2, _⟩ := hv
    exact ⟨cs, h1, h2⟩
  obtain ⟨fuel, hf⟩ := h
  obtain ⟨xs, m, _, hx, hl, hxl, hi⟩ := DataW.trod_array ht hf
  rw [hct] at hsz
  have key : ∀ k, k < n → ∃ x, cs[k]? = some (.int κ x) ∧ (Lit.int κ x).wf = true := by
    intro k hk
    have h1 := hi k hk
    rw [hce, Nat.mul_one, List.getElem?_eq_getElem (show k < xs.length by omega)] at h1
    obtain ⟨x, hc, _, hw⟩ := DataW.trod_int he h1
    have h2 := congrArg (fun l : List Value => l[0]?) hc
    simp [Value.cells, List.getElem?_take, List.getElem?_drop] at h2
    exact ⟨x, h2, hw⟩
  refine ⟨fun k => match cs[k]? with | some (.int _ x) => x | _ => 0, congrArg Value.agg (arrV_ext hsz fun k hk => ?_), fun k hk => ?_⟩
  · obtain ⟨x, hx, _⟩ := key k hk
    simp only [hx]
  · obtain ⟨x, hx, hw⟩ := key k hk
    simp only [hx]
    exact hw
/-- Numbers of int16. -/
def Sm16 (f : Nat → Int) : Prop := ∀ k, k < 64 → -32768 ≤ f k ∧ f k ≤ 32767
end Go.Proofs.YtnlcjbobfhmnmaaDoor

/-
  MedianPrint: what both sides' functions return. Condition of the program's: its variables hold their own errors.
-/
import Derived.Test.YtmibinfaafhgdaaDoorMedS
import Derived.Test.YtmibinfaafhgdaaDoorCop
namespace Go.Proofs.YtmibinfaafhgdaaDoor
open Go.RowKit

/-- The cells that are handed back. -/
def mdF (g : Nat → Nat → Int) (n : Nat) (k : Nat) : Int := if copC n g 0 = 0 then medF g n k else 0
theorem mdF_ok {g : Nat → Nat → Int} {n : Nat} (h : copC n g 0 = 0) : mdF g n = medF g n := by funext k; simp [mdF, h]
theorem mdF_no {g : Nat → Nat → Int} {n : Nat} (h : copC n g 0 ≠ 0) : mdF g n = fun _ => 0 := by funext k; simp [mdF, h]
theorem resultsRowTmp1 {P : Program} {fn : Func} {p q : Tmp} {ty : TypeId} (h : fn.results = #[.cell p ty, .tmp q]) (tmps : Array Value) (w : World) (g : Nat) (t : TypeId) (cs : Array Value) (fr : Nat × Nat) (d : TypeDesc)
    (hp : tmps.getD p undef = .pointer (some ⟨g, 0, none⟩)) (hg : w.heap[g]? = some (.cells cs t fr))
    (hu : P.underlying ty = some d) (hd : (match d with | .struct _ | .array _ _ => true | _ => false) = true) (hi : (P.info? ty).map (·.size) = some cs.size) (v : Value) (hq : tmps.getD q undef = v) :
    (results fn tmps).run P w = .ok (.tuple #[.agg cs, v]) w := by
  have hp' : tmps[p]?.getD undef = .pointer (some ⟨g, 0, none⟩) := by simpa using hp
  have hq' : tmps[q]?.getD undef = v := by simpa using hq
  simp [results, h, hp', hq', asAddr, run_loadVar_row w g t ty cs fr d hg hu hd hi]
theorem copC_pos {n : Nat} {g : Nat → Nat → Int} {x : Int} (h : copC n g x = 0) : 1 ≤ n ∧ n ≤ 8 := by
  rcases copC_cases n g x with h1 | h1 | h1
  · exact h1.2.2.1
  · rw [h1] at h; cases h
  · rw [h1] at h; cases h
theorem copE_ne (s : Ers) {n : Nat} {g : Nat → Nat → Int} {x : Int} (hc : copC n g x ≠ 0) : ∃ a, copE s (copC n g x) = errV a := by
  rcases copC_cases n g x with h | h | h
  · exact absurd h.1 hc
  · exact ⟨s.einvalid, by rw [h]; rfl⟩
  · exact ⟨s.erange, by rw [h]; rfl⟩

end Go.Proofs.YtmibinfaafhgdaaDoor

/-
  Densities of cells: what both sides' tests of 64 numbers return. No condition.
-/
import Derived.Test.YtmphmpddlgcofaaDoorArr
import Derived.Lib.MinMax
namespace Go.Proofs.YtmphmpddlgcofaaDoor
open Go.RowKit

/-- Are 64 numbers densities? -/
def dnsB (f : Nat → Int) : Bool := (List.range 64).all fun k => inB (f k) 0 400
theorem dnsB_iff {f : Nat → Int} : dnsB f = true ↔ ∀ k, k < 64 → inB (f k) 0 400 = true := by simp [dnsB]
theorem dnsB_no {f : Nat → Int} {k : Nat} (hk : k < 64) (h : inB (f k) 0 400 = false) : dnsB f = false := by
  rcases h' : dnsB f with _ | _
  · rfl
  · rw [dnsB_iff.1 h' k hk] at h; cases h
theorem dnsB_bd {f : Nat → Int} (h : dnsB f = true) {k : Nat} (hk : k < 64) : 0 ≤ f k ∧ f k ≤ 400 := inB_true.1 (dnsB_iff.1 h k hk)
/-- What is put back onto the scale. -/
def clampF (f : Nat → Int) : Nat → Int := fun k => min (max (f k) 0) 400
theorem eqN_clamp (f : Nat → Int) : eqN (clampF f) f 64 = dnsB f := by
  rw [Bool.eq_iff_iff, eqN_iff, dnsB_iff]
  constructor
  · intro h k hk
    have := h k hk
    unfold clampF at this
    exact inB_true.2 ⟨by omega, by omega⟩
  · intro h k hk
    have := inB_true.1 (h k hk)
    show min (max (f k) 0) 400 = f k
    omega
/-- The first k numbers are g's, the others f's. -/
def mixFN (g f : Nat → Int) (k : Nat) : Nat → Int := fun j => if j < k then g j else f j
theorem mixFN_step (g f : Nat → Int) (k j : Nat) : upd (mixFN g f k) k (g k) j = mixFN g f (k + 1) j := by
  unfold upd mixFN
  split
  · rename_i h; subst h; simp
  · rename_i h
    have : j < k ↔ j < k + 1 := by omega
    simp [this]
theorem mixFN_0 (g f : Nat → Int) (j : Nat) : f j = mixFN g f 0 j := by simp [mixFN]
theorem mixFN_n (g f : Nat → Int) {n j : Nat} (h : j < n) : mixFN g f n j = g j := by simp [mixFN, h]

section
variable {P : Program}
theorem run_index_arr {t e : TypeId} {κ κ' : IntKind} {n k : Nat} (f : Nat → Int) (hu : P.underlying t = some (.array n e)) (he : P.underlying e = some (.int κ)) (hi : (P.info? e).map (·.size) = some 1) (hk : k < n) (w : World) :
    (Instr.index t (.agg (arrV κ n f)) (.int κ' (k : Int))).run P w = .ok (.int κ (f k)) w := by
  cases hq : P.info? e with
  | none => simp [hq] at hi
  | some i =>
    have hs : i.size = 1 := by simpa [hq] using hi
    have hp := run_part_arr (P := P) w (e := e) (κ := κ) (f := f) he hk
    have h1 : ¬ n ≤ k := by omega
    simp [Instr.index, run_underlying hu, asIntOf, hk, h1, sizeOf, typeInfo, hq, hs, hp]
theorem run_eql_arr {t e : TypeId} {κ : IntKind} {n : Nat} {i : TypeInfo} (f g : Nat → Int) (hu : P.underlying t = some (.array n e)) (he : P.underlying e = some (.int κ)) (hi : P.info? e = some i) (hc : P.cellsOf e = 1) (w : World) :
    (binOp .eql t (.agg (arrV κ n f)) (.agg (arrV κ n g))).run P w = .ok (.bool (eqN f g n)) w := by
  simp only [binOp]
  simp [Op.equal, Op.maxDepth, run_equal_arr w f g hu he hi hc]
theorem run_neq_arr {t e : TypeId} {κ : IntKind} {n : Nat} {i : TypeInfo} (f g : Nat → Int) (hu : P.underlying t = some (.array n e)) (he : P.underlying e = some (.int κ)) (hi : P.info? e = some i) (hc : P.cellsOf e = 1) (w : World) :
    (binOp .neq t (.agg (arrV κ n f)) (.agg (arrV κ n g))).run P w = .ok (.bool !(eqN f g n)) w := by
  simp only [binOp]
  simp [Op.equal, Op.maxDepth, run_equal_arr w f g hu he hi hc]
end

end Go.Proofs.YtmphmpddlgcofaaDoor

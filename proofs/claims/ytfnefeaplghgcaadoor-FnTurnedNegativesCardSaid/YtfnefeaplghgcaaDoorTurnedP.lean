/-
  Plain facts for changed negatives: what four turns give, how many cells a rectangle has, the greatest difference. No condition.
-/
import Derived.Test.YtfnefeaplghgcaaDoorDiffer
import Derived.Test.YtfnefeaplghgcaaDoorEnlarge
import Derived.Test.YtfnefeaplghgcaaDoorCount
import Derived.Test.YtfnefeaplghgcaaDoorCopies
import Derived.Test.YtfnefeaplghgcaaDoorGreatI
namespace Go.Proofs.YtfnefeaplghgcaaDoor
open Go.RowKit

/-- Turned so many times. -/
def iterT (f : Nat → Int) : Nat → Nat → Int
  | 0 => f
  | k + 1 => fun j => iterT f k (turP j)
theorem iterT_dn {f : Nat → Int} (h : Dn 64 f) : ∀ k, Dn 64 (iterT f k)
  | 0 => h
  | k + 1 => fun j hj => iterT_dn h k (turP j) (turP_lt hj)
theorem turP4 : ∀ j, j < 64 → turP (turP (turP (turP j))) = j := by decide +kernel
theorem mirP2 : ∀ j, j < 64 → mirP (mirP j) = j := by decide +kernel
theorem iterT4 (f : Nat → Int) : eqN (iterT f 4) f 64 = true := eqN_iff.2 fun j hj => by
  show f (turP (turP (turP (turP j)))) = f j
  rw [turP4 j hj]
theorem mir2 (f : Nat → Int) : eqN (fun k => f (mirP (mirP k))) f 64 = true := eqN_iff.2 fun j hj => by rw [mirP2 j hj]
theorem rect_cnt : ∀ W, W < 8 → ∀ N, N < 8 → cntF 64 (maskN (rctP (W : Nat) (N : Nat) 7 7) 64) = (8 - W) * (8 - N) := by decide +kernel
theorem szA_max (d : Int) : max d (-d) = szA d := by unfold szA; split <;> omega
theorem best_ge (d : Nat → Int) : ∀ k j, j ≤ k → szA (d j) ≤ szA (d (bestN d k))
  | 0, j, h => by obtain rfl : j = 0 := by omega
                  exact Int.le_refl _
  | k + 1, j, h => by
    by_cases h1 : szA (d (bestN d k)) < szA (d (k + 1))
    · rw [bestN_yes h1]
      rcases Nat.lt_or_ge j (k + 1) with h2 | h2
      · have := best_ge d k j (by omega); omega
      · obtain rfl : j = k + 1 := by omega
        exact Int.le_refl _
    · rw [bestN_no h1]
      rcases Nat.lt_or_ge j (k + 1) with h2 | h2
      · exact best_ge d k j (by omega)
      · obtain rfl : j = k + 1 := by omega
        omega
theorem Dn.S {f : Nat → Int} (h : Dn 64 f) : S16 f := fun k hk => by have := h k hk; omega

/-- Cells that are loaded as one array. -/
theorem run_load_cells {P : Program} {o : Oper} {ρ : Operand → Value} {w : World} {b : Nat} {κ : IntKind} {n : Nat} {f : Nat → Int} {m : Nat} {e : TypeId}
    (h : ∀ j, j < n → w.cell? ⟨b, j, none⟩ = some (.int κ (f j))) (ty : TypeId) (x : Operand) (ho : o.op = .load ty x) (hx : ρ x = .pointer (some ⟨b, 0, none⟩)) (hu : P.underlying ty = some (.array m e)) (hi : (P.info? ty).map (·.size) = some n) :
    (execOp ρ o).run P w = .ok (.value (.agg (arrV κ n f))) w := by
  have hl : (loadCells ⟨b, 0, none⟩ n).run P w = .ok (arrV κ n f) w := by
    have hl := run_loadCells_list (P := P) w ⟨b, 0, none⟩ (arrV κ n f).toList (fun j v hv => by
      have hj : j < n := by
        have := (List.getElem?_eq_some_iff.1 hv).1
        simpa [arrV_size] using this
      rw [show (⟨b, 0, none⟩ : Addr).add j = ⟨b, j, none⟩ by unfold Addr.add; split <;> simp_all]
      rw [h j hj]
      have h2 : (arrV κ n f)[j]? = some v := by simpa using hv
      rw [arrV_get hj] at h2
      exact h2)
    simpa [arrV_size] using hl
  cases hq : P.info? ty with
  | none => simp [hq] at hi
  | some i =>
    have hs : i.size = n := by simpa [hq] using hi
    have hagg : (isAgg ty).run P w = .ok true w := by
      unfold isAgg
      rw [Sem.run_bind, run_underlying hu w]
      simp
    unfold execOp
    simp [ho, hx, Instr.loadAt, Instr.sureAddr, loadVar, Sem.run_bind, hagg, sizeOf, typeInfo, hq, hs, hl]
theorem wpQuiet_load_cells {P : Program} {ops : Array Oper} {C : World → Prop} {Q : Act → Prop} {a : Act} {o : Oper} {rest : List Oper} {b : Nat} {κ : IntKind} {n : Nat} {f : Nat → Int} {m : Nat} {e : TypeId}
    (h : ∀ W, C W → ∀ j, j < n → W.cell? ⟨b, j, none⟩ = some (.int κ (f j))) (ty : TypeId) (x : Operand) (hgd : o.guard = none) (ho : o.op = .load ty x) (hx : a.eval x = .pointer (some ⟨b, 0, none⟩)) (hu : P.underlying ty = some (.array m e)) (hi : (P.info? ty).map (·.size) = some n)
    (hK : wpQuiet P ops C Q rest (a.put o.dst (.agg (arrV κ n f)))) : wpQuiet P ops C Q (o :: rest) a :=
  BigFrame.wpQuiet_want (by simp [Region.wanted, hgd]) fun _ hK' => ⟨_, fun W hW => by unfold Oper.quietAt; rw [run_load_cells (h W hW) ty x ho hx hu hi]; exact ⟨rfl, rfl⟩, hK' _ hK⟩
end Go.Proofs.YtfnefeaplghgcaaDoor

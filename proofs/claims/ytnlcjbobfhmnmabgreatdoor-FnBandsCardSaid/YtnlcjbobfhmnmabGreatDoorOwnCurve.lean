/-
  The laws' own comparing, marking and asking of lists of structs (Point) that a call handed back. Condition: at most 1048576 of them.
-/
import Derived.Test.YtnlcjbobfhmnmabGreatDoorOwn
import Derived.Deep.RegionWith
namespace Go.Proofs.YtnlcjbobfhmnmabGreatDoor
open Go.RowKit

/-- The cells of a list of these. -/
def cellCurve (F0 F1 : Nat → Int) (j : Nat) : Value := if j % 2 = 0 then .int .i16 (F0 (j / 2)) else .int .i16 (F1 (j / 2))
/-- The cells behind the marking. -/
def markCurveF (k0 : Int) (j : Nat) : Value := if j % 2 = 0 then .int .i16 (IntKind.i16.wrap (k0 + (j : Int))) else .int .i16 (IntKind.i16.wrap (k0 + (j : Int)))
theorem cellCurve_0 (F0 F1 : Nat → Int) (k : Nat) : cellCurve F0 F1 (k * 2) = .int .i16 (F0 k) := by
  unfold cellCurve
  rw [if_pos (by omega), show (k * 2) / 2 = k by omega]
theorem cellCurve_1 (F0 F1 : Nat → Int) (k : Nat) : cellCurve F0 F1 (k * 2 + 1) = .int .i16 (F1 k) := by
  unfold cellCurve
  rw [if_neg (by omega), show (k * 2 + 1) / 2 = k by omega]
theorem markCurveF_0 (k0 : Int) (k : Nat) : markCurveF k0 (k * 2) = .int .i16 (IntKind.i16.wrap (k0 + 2 * k)) := by
  unfold markCurveF
  rw [if_pos (by omega), show k0 + ((k * 2 : Nat) : Int) = k0 + 2 * k by omega]
theorem markCurveF_1 (k0 : Int) (k : Nat) : markCurveF k0 (k * 2 + 1) = .int .i16 (IntKind.i16.wrap (k0 + 2 * k + 1)) := by
  unfold markCurveF
  rw [if_neg (by omega), show k0 + ((k * 2 + 1 : Nat) : Int) = k0 + 2 * k + 1 by omega]
theorem row_stepCurve {w : World} {b : Nat} {t : TypeId} {n k : Nat} {f g : Nat → Value} (h : w.rowIs b t n (fun j => if j < k then f j else g j)) :
    (w.setCell ⟨b, k, none⟩ (f k)).rowIs b t n (fun j => if j < k + 1 then f j else g j) :=
  (h.set k (f k)).congr (fun j _ => by
    by_cases h1 : j = k
    · subst h1; simp
    · by_cases h2 : j < k
      · have h3 : j < k + 1 := by omega
        simp [h1, h2, h3]
      · have h3 : ¬ j < k + 1 := by omega
        simp [h1, h2, h3])

/-- The cells, one behind the other. -/
def listCurve (F0 F1 : Nat → Int) : Nat → List Value
  | 0 => []
  | k + 1 => listCurve F0 F1 k ++ [.int .i16 (F0 k), .int .i16 (F1 k)]
theorem listCurve_len (F0 F1 : Nat → Int) : ∀ k, (listCurve F0 F1 k).length = k * 2
  | 0 => rfl
  | k + 1 => by simp only [listCurve, List.length_append, listCurve_len F0 F1 k]; simp; omega
theorem listCurve_get (F0 F1 : Nat → Int) : ∀ (k j : Nat), j < k * 2 → (listCurve F0 F1 k)[j]?.getD undef = cellCurve F0 F1 j
  | 0, j, h => by omega
  | k + 1, j, h => by
    have hl := listCurve_len F0 F1 k
    by_cases hj : j < k * 2
    · rw [listCurve, List.getElem?_append_left (by omega)]
      exact listCurve_get F0 F1 k j hj
    · rw [listCurve, List.getElem?_append_right (by omega), hl]
      have : j = k * 2 ∨ j = k * 2 + 1 := by omega
      rcases this with rfl | rfl
      · rw [cellCurve_0, show k * 2 - k * 2 = 0 by omega]; rfl
      · rw [cellCurve_1, show k * 2 + 1 - k * 2 = 1 by omega]; rfl
theorem Mine.of_listCurve {F0 F1 : Nat → Int} {w : World} {L n : Nat} {v : Value} (h : w.ownsRow L 90 2 v n (listCurve F0 F1 n)) : Mine w L w.heap.size 90 2 v n (cellCurve F0 F1) :=
  (Mine.of_own h).congr fun j hj => listCurve_get F0 F1 n j hj
theorem infoCurve : (Tryz.prog.info? 90).map (fun i => (i.zero, i.size, i.bytes)) = some (some (.agg #[.int .i16 0, .int .i16 0]), 2, 4) := by kernel_rfl
end Go.Proofs.YtnlcjbobfhmnmabGreatDoor

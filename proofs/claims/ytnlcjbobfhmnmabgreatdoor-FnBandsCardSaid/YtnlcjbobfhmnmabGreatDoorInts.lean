/-
  The laws' own copying and comparing of lists of numbers. Condition: at most 1048576 numbers.
-/
import Derived.Test.YtnlcjbobfhmnmabGreatDoorBase
import Derived.Deep.OwnRows
import Derived.ProofKit
import Derived.OpenShut
namespace Go.Proofs.YtnlcjbobfhmnmabGreatDoor
open Go.RowKit Go.ChangeShapes Go.WideShapes

theorem run_make_rowN {P : Program} (t e : TypeId) (i : TypeInfo) (z : Value) (ht : P.underlying t = some (.slice e)) (hi : P.info? e = some i) (hz : i.zero = some z)
    (kl kc : IntKind) (n c : Nat) (hnc : n ≤ c) (hbytes : i.bytes * c ≤ 281474976710656) (h63 : c ≤ 9223372036854775807) (w : World) :
    (Instr.makeSlice t (.int kl (n : Int)) (.int kc (c : Int))).run P w = .ok (.slice (some ⟨w.heap.size, 0, none⟩) n c) (w.alloc (.cells (madeCells z.cells (c * i.size)) e)) := by
  have hb : (i.bytes : Int) * (c : Int) ≤ 281474976710656 := by
    have h : ((i.bytes * c : Nat) : Int) ≤ 281474976710656 := by omega
    rwa [Int.natCast_mul] at h
  have hr := run_make (P := P) w t e i z ht hi hz kl kc n c (by omega) (by omega) hb (by omega)
  simp only [Int.toNat_natCast] at hr
  exact hr

theorem rowIs_below {w w' : World} {b : Nat} {t : TypeId} {n : Nat} {f : Nat → Value} {B : Nat} (h : w.rowIs b t n f) (hb : Below B w w') (hB : b < B) : w'.rowIs b t n f := h.of_block (hb.block b hB)

theorem row_step {w : World} {b : Nat} {t : TypeId} {n k : Nat} {f g : Nat → Value} (h : w.rowIs b t n (fun j => if j < k then f j else g j)) :
    (w.setCell ⟨b, k, none⟩ (f k)).rowIs b t n (fun j => if j < k + 1 then f j else g j) :=
  (h.set k (f k)).congr (fun j _ => by
    by_cases h1 : j = k
    · subst h1; simp
    · by_cases h2 : j < k
      · have h3 : j < k + 1 := by omega
        simp [h1, h2, h3]
      · have h3 : ¬ j < k + 1 := by omega
        simp [h1, h2, h3])

/-- A list of numbers as it came: nil or not. -/
def IntsIn (w : World) (A : Option Addr) (n : Nat) (xs : Nat → Int) : Prop :=
  n = 0 ∨ ∃ b o, A = some ⟨b, o, none⟩ ∧ b < w.heap.size ∧ ∀ j, j < n → w.cell? ⟨b, o + j, none⟩ = some (.int .i64 (xs j))
theorem IntsIn.below {w w' : World} {A : Option Addr} {n : Nat} {xs : Nat → Int} {B : Nat} (h : IntsIn w A n xs) (hb : Below B w w') (hB : w.heap.size ≤ B) : IntsIn w' A n xs := by
  rcases h with h | ⟨b, o, e, hlt, hc⟩
  · exact .inl h
  · exact .inr ⟨b, o, e, by have := hb.size; omega, fun j hj => by rw [hb.cell (p := ⟨b, o + j, none⟩) (by show b < B; omega)]; exact hc j hj⟩

/-- A list of numbers, opened: nil or not. -/
theorem ints_open {H : Type} {enc : TypeId × Value → H} {P : Program} {w : World} {t e : TypeId} {v : Value} {d : DataW H} {p : List MemPlace} {r : Reach} {b0 : Nat} (ht : P.underlying t = some (.slice e)) (he : P.underlying e = some (.int .i64)) (hc : P.cellsOf e = 1)
    (hv : Value.okWide P w r b0 t v) (h : DataW.Trod enc P w 0 (fun _ => true) true t v d p) :
    ∃ A n cap xs, v = .slice A n cap ∧ IntsIn w A n xs ∧ n ≤ maxLen ∧ ∀ j, j < n → (Lit.int .i64 (xs j)).wf = true := by
  obtain ⟨a0, len, cap, rfl⟩ := okWide_slice ht hv
  obtain ⟨fuel, hf⟩ := h
  rcases open_ints ht he hc hf with ⟨hcs, _⟩ | ⟨a, len', cap', zs, hcs, _, hl, hm, hz, _, hcell, hw⟩
  · simp only [Value.cells] at hcs
    have e1 : (Value.slice a0 len cap) = .slice none 0 0 := by simpa using hcs
    injection e1 with e1 e2 e3
    subst e1; subst e2
    exact ⟨none, 0, cap, fun _ => 0, rfl, .inl rfl, Nat.zero_le _, fun j hj => by omega⟩
  · simp only [Value.cells] at hcs
    have e1 : (Value.slice a0 len cap) = .slice (some a) len' cap' := by simpa using hcs
    injection e1 with e1 e2 e3
    subst e1; subst e2; subst e3
    simp only [if_true] at hz
    have hmx : len ≤ maxLen := Nat.le_trans hl hm
    by_cases h0 : len = 0
    · subst h0
      exact ⟨some a, 0, cap, fun _ => 0, rfl, .inl rfl, Nat.zero_le _, fun j hj => by omega⟩
    · obtain ⟨b, off, rfl, hc'⟩ := ints_at hcell (by omega)
      have hb : b < w.heap.size := by
        rcases Nat.lt_or_ge b w.heap.size with h2 | h2
        · exact h2
        · have := hc' 0 (by omega)
          simp [World.cell?, Array.getElem?_eq_none h2] at this
      refine ⟨some ⟨b, off, none⟩, len, cap, fun j => zs.getD j 0, rfl, .inr ⟨b, off, rfl, hb, fun j hj => hc' j (by omega)⟩, hmx, fun j hj => ?_⟩
      have hj' : j < zs.length := by omega
      simp only [List.getD_eq_getElem?_getD, List.getElem?_eq_getElem hj', Option.getD_some]
      exact hw _ (List.getElem_mem hj')

theorem i64Info : (Tryz.prog.info? 2).map (fun i => (i.zero, i.size, i.bytes)) = some (some (.int .i64 0), 1, 8) := by kernel_rfl

theorem below_drewI {B : Nat} {a w : World} (h : Below B a w) (n : Nat) : Below B a (w.drewN n) := ⟨h.os, h.tape, h.output, h.size, h.block⟩
theorem rowIs_drewN {w : World} {b : Nat} {t : TypeId} {n : Nat} {f : Nat → Value} (h : w.rowIs b t n f) (k : Nat) : (w.drewN k).rowIs b t n f := h

end Go.Proofs.YtnlcjbobfhmnmabGreatDoor

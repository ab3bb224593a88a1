/-
  The names of codes, shutters and apertures: what the program's and the reference's functions return, for every number. Condition of the program's: its tables of names hold what its text lays.
-/
import Derived.Test.YtnlcjbobfhmnmabGreatDoorNum
import Derived.Test.YtnlcjbobfhmnmabGreatDoorFrame
namespace Go.Proofs.YtnlcjbobfhmnmabGreatDoor
open Go.RowKit

/-- A text as a value. -/
abbrev strV (l : List UInt8) : Value := .string ⟨l.toArray⟩
/-- Variable g holds these texts. -/
def StrTab (g : Nat) (zs : List (List UInt8)) (w : World) : Prop := ∀ i, i < zs.length → w.cell? ⟨g, i, none⟩ = some (strV (zs.getD i []))
theorem StrTab.below {g : Nat} {zs : List (List UInt8)} {w w' : World} {B : Nat} (h : StrTab g zs w) (hb : Below B w w') (hB : w.heap.size ≤ B) : StrTab g zs w' :=
  fun i hi => by
    have h' := h i hi
    have hlt : g < w.heap.size := by
      rcases Nat.lt_or_ge g w.heap.size with h2 | h2
      · exact h2
      · simp [World.cell?, Array.getElem?_eq_none h2] at h'
    rw [hb.cell (p := ⟨g, i, none⟩) (by show g < B; omega)]; exact h'

def marksL : List (List UInt8) := [[], [43, 49], [43, 50]]
def shuttersL : List (List UInt8) := [[49, 47, 49, 48, 48, 48], [49, 47, 53, 48, 48], [49, 47, 50, 53, 48], [49, 47, 49, 50, 53], [49, 47, 54, 48], [49, 47, 51, 48], [49, 47, 49, 53], [49, 47, 56], [49, 47, 52], [49, 47, 50], [49], [50], [52], [56], [49, 53], [51, 48]]
def aperturesL : List (List UInt8) := [[102, 47, 49], [102, 47, 49, 46, 52], [102, 47, 50], [102, 47, 50, 46, 56], [102, 47, 52], [102, 47, 53, 46, 54], [102, 47, 56], [102, 47, 49, 49], [102, 47, 49, 54], [102, 47, 50, 50], [102, 47, 51, 50]]
def codesL : List (List UInt8) := [[111, 107], [105, 110, 118, 97, 108, 105, 100], [114, 97, 110, 103, 101], [108, 105, 109, 105, 116], [115, 116, 97, 116, 101], [115, 121, 110, 116, 97, 120], [110, 111, 116, 102, 111, 117, 110, 100], [98, 117, 100, 103, 101, 116], [112, 114, 111, 111, 102]]

theorem below_drewN' {B : Nat} {a w : World} (h : Below B a w) (n : Nat) : Below B a (w.drewN n) := ⟨h.os, h.tape, h.output, h.size, h.block⟩
/-- The name of a number of thirds. -/
def nameOf (zs : List (List UInt8)) (n : Int) : List UInt8 := zs.getD (n / 3).toNat [] ++ marksL.getD (n % 3).toNat []
def shutN (n : Int) : List UInt8 := if inB n 0 45 = true then nameOf shuttersL n else []
def aperN (n : Int) : List UInt8 := if inB n 0 30 = true then nameOf aperturesL n else []
def codeN (n : Int) : List UInt8 := if inB n 0 8 = true then codesL.getD n.toNat [] else []
theorem getD_le (zs : List (List UInt8)) (m : Nat) (h : ∀ z ∈ zs, z.length ≤ m) (i : Nat) : (zs.getD i []).length ≤ m := by
  rw [List.getD_eq_getElem?_getD]
  cases hz : zs[i]? with
  | none => simp
  | some z => exact h z (List.mem_of_getElem? hz)
theorem shutters_le (i : Nat) : (shuttersL.getD i []).length ≤ 8 := getD_le _ _ (by decide) i
theorem apertures_le (i : Nat) : (aperturesL.getD i []).length ≤ 8 := getD_le _ _ (by decide) i
theorem marks_le (i : Nat) : (marksL.getD i []).length ≤ 8 := getD_le _ _ (by decide) i

/-! ### THE REFERENCE -/
theorem strTab_new (w : World) (zs : List (List UInt8)) (t : TypeId) : StrTab w.heap.size zs (w.alloc (.cells (zs.map strV).toArray t)) := by
  intro i hi
  have h : (w.alloc (.cells (zs.map strV).toArray t)).cell? ⟨w.heap.size, i, none⟩ = (zs.map strV).toArray[i]? := cell_of_row _ _ _ _ t (0, 0) (heap_alloc_new w _)
  rw [h]
  simp [hi]

/-- One byte as a text. -/
theorem conv_one (b : UInt8) (d : Int) (hd : d = b.toNat) (w : World) : (convert 22 9 (.slice (some ⟨w.heap.size, 0, none⟩) 1 1)).run Tryz.prog (w.alloc (.cells #[.int .u8 d] 5)) = .ok (strV [b]) (w.alloc (.cells #[.int .u8 d] 5)) := by
  subst hd
  refine run_convert_bytes_back (P := Tryz.prog) (w.alloc (.cells #[.int .u8 b.toNat] 5)) 22 9 5 ⟨w.heap.size, 0, none⟩ 1 [b] Tryz.underlying22 Tryz.underlying5 Tryz.underlying9 ?_
  intro j hj
  have hj0 : j = 0 := by simp at hj; omega
  subst hj0
  have h := cell_of_row (w.alloc (.cells #[.int .u8 b.toNat] 5)) w.heap.size 0 #[.int .u8 b.toNat] 5 (0, 0) (heap_alloc_new w _)
  simp [Addr.add, h]

end Go.Proofs.YtnlcjbobfhmnmabGreatDoor

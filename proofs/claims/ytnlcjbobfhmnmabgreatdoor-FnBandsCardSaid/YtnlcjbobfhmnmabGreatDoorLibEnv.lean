/-
  The library's own errors of numbers, and what strconv.ParseInt returns for eight bits. Condition: the library's two variables hold what the row lists.
-/
import Derived.Test.YtnlcjbobfhmnmabGreatDoorPlainRS
import Derived.Test.YtnlcjbobfhmnmabGreatDoorEnv
import Derived.Test.YtnlcjbobfhmnmabGreatDoorShelfB
import Derived.Lib.SmallJoins
namespace Go.Proofs.YtnlcjbobfhmnmabGreatDoor
open Go.RowKit

def libNames : List (String × List UInt8) := [("strconv.ErrRange", [118, 97, 108, 117, 101, 32, 111, 117, 116, 32, 111, 102, 32, 114, 97, 110, 103, 101]), ("strconv.ErrSyntax", [105, 110, 118, 97, 108, 105, 100, 32, 115, 121, 110, 116, 97, 120])]
structure LibEnv (r1 r2 : Addr) (w : World) : Prop where
  c1 : w.cell? ⟨9, 0, none⟩ = some (errV r1)
  c2 : w.cell? ⟨8, 0, none⟩ = some (errV r2)
theorem LibEnv.below {r1 r2 : Addr} {w w' : World} {B : Nat} (h : LibEnv r1 r2 w) (hb : Below B w w') (hB : w.heap.size ≤ B) : LibEnv r1 r2 w' := ⟨below_cellOf hb h.c1 hB, below_cellOf hb h.c2 hB⟩
theorem libEnv_of_row {l : List (String × DataW Unit)} {w : World} (h : laidMetH Tryz.prog l w) (hp : (l.all fun x => x.2.handleName?.isNone) = true)
    (he : fromOn "strconv.ErrRange" l = libNames.map (fun x => (x.1, DataW.iface "*errors.errorString" (.ptr (.agg [.lit (.string x.2)])))) ++ (fromOn "strconv.ErrRange" l).drop libNames.length) : ∃ r1 r2, LibEnv r1 r2 w := by
  have hm : laidMet Tryz.prog (fromOn "strconv.ErrRange" l) w := laidMet_dropWhile (plain_of h hp)
  rw [he] at hm
  obtain ⟨sa, hlen, hnd, hrows, _, hvar⟩ := laid_sentinels (P := Tryz.prog) Tryz.underlying55 errRow Tryz.underlying170 Tryz.underlying172 rfl rfl Tryz.underlying9 errCells strCells libNames
    (by
      intro x hx; simp only [libNames, List.mem_cons, List.not_mem_nil, or_false] at hx; rcases hx with rfl | rfl
      · exact ⟨9, by kernel_rfl, by kernel_rfl⟩
      · exact ⟨8, by kernel_rfl, by kernel_rfl⟩) hm
  obtain ⟨a, sa0, rfl, hlen0⟩ := len_cons hlen
  obtain ⟨b, sa1, rfl, hlen1⟩ := len_cons hlen0
  exact ⟨a, b, by simpa using World.var?_cell (show Tryz.prog.globalNamed "strconv.ErrRange" = some 9 by kernel_rfl) (hvar 0 _ a rfl rfl) 0,
    by simpa using World.var?_cell (show Tryz.prog.globalNamed "strconv.ErrSyntax" = some 8 by kernel_rfl) (hvar 1 _ b rfl rfl) 0⟩

/-- What comes back of a word: its number, or an error. -/
def P8Out (l : List UInt8) (w : World) (e : Ending) (w' : World) : Prop :=
  ((∃ v, p8 l = some v ∧ e = .returned (.tuple #[.int .i64 v, .nilIface])) ∨ (p8 l = none ∧ ∃ n t N, e = .returned (.tuple #[.int .i64 n, .iface t (.pointer (some ⟨N, 0, none⟩))]))) ∧ Below w.heap.size w w'
theorem parse8_any (l : List UInt8) (hl : l.length ≤ 1048576) (r1 r2 : Addr) (w : World) (hE : LibEnv r1 r2 w) :
    Calls Tryz.prog 62 #[strV l, .int .i64 10, .int .i64 8] w (P8Out l w) := by
  have hz : (⟨l.toArray⟩ : ByteArray).size = l.length := rfl
  have hd : (⟨l.toArray⟩ : ByteArray).data.toList = l := rfl
  rcases hp : Lib.parseIntB 8 l with v | _ | _
  · have h8 : p8 l = some v := by unfold p8; rw [hp]
    refine (shStrconv_ParseInt_10_at8_ok ⟨l.toArray⟩ (by rw [hz]; omega) v (by rw [hd]; exact hp) w).mono ?_
    rintro e w' ⟨he, hw⟩
    refine ⟨.inl ⟨v, h8, he⟩, ?_⟩
    rcases hw with rfl | ⟨t, rfl⟩
    · exact Below.refl _ _
    · exact Joins.below_bytesWorld _ _ _ _ (Nat.le_refl _)
  · have h8 : p8 l = none := by unfold p8; rw [hp]
    have hc := Any.strconv_ParseInt_10_at8_syntax shLaysC174 ⟨l.toArray⟩ (by rw [hz]; omega) (by rw [hd]; exact hp) (errV r2) w hE.c2 (.inr ⟨_, _, rfl⟩)
    refine (hc : Calls Tryz.prog 62 #[strV l, .int .i64 10, .int .i64 8] w _).mono ?_
    rintro e w' ⟨N, he, _, _, hb⟩
    exact ⟨.inr ⟨h8, _, _, N, he⟩, hb⟩
  · have h8 : p8 l = none := by unfold p8; rw [hp]
    refine (shStrconv_ParseInt_10_at8_range ⟨l.toArray⟩ (by rw [hz]; omega) (by rw [hd]; exact hp) (errV r1) w hE.c1 (.inr ⟨_, _, rfl⟩)).mono ?_
    rintro e w' ⟨N, he, _, _, hb⟩
    exact ⟨.inr ⟨h8, _, _, N, he⟩, hb⟩
end Go.Proofs.YtnlcjbobfhmnmabGreatDoor

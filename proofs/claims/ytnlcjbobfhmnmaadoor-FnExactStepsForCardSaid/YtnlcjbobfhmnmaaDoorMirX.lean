/-
  Masks turned around: what both sides' functions return. Condition: masks of 64 bits.
-/
import Derived.Test.YtnlcjbobfhmnmaaDoorMirBits
import Derived.Test.YtnlcjbobfhmnmaaDoorDodge
import Derived.Maps.AppendAt
import Derived.Deep.RegionHeld3
import Derived.Deep.AppendLies
import Derived.Laws.OwnMore
import Derived.Lib.SliceRun
namespace Go.Proofs.YtnlcjbobfhmnmaaDoor
open Go.RowKit

theorem run_and1c {P : Program} {ρ : Operand → Value} {o : Oper} {w : World} {T T2 : TypeId} {x y : Operand} {m c : Nat} (ho : o.op = .binOp .and T x y T2) (hx : ρ x = .int .u64 (m : Int)) (hy : ρ y = .int .u64 1) (hm : m < 18446744073709551616) (hc : m % 2 = c) :
    (execOp ρ o).run P w = .ok (.value (.int .u64 (c : Int))) w := by
  have h := run_bvand (P := P) (ρ := ρ) (w := w) (b := BitVec.ofNat 64 m) (M := 1#64) ho (by rw [hx]; simp [Nat.mod_eq_of_lt hm]) (by rw [hy]; rfl)
  rw [h]
  have e : (BitVec.ofNat 64 m &&& 1#64).toNat = c := by
    rw [BitVec.toNat_and]
    have e : (1#64).toNat = 1 := by decide
    rw [e, BitVec.toNat_ofNat, Nat.mod_eq_of_lt hm, Nat.and_one_is_mod, hc]
  show Result.ok (Next.value (Value.int .u64 (((BitVec.ofNat 64 m &&& 1#64).toNat : Nat) : Int))) w = _
  rw [e]
theorem run_shrM {P : Program} {ρ : Operand → Value} {o : Oper} {w : World} {T T2 : TypeId} {x y : Operand} {κ : IntKind} {m k : Nat} (ho : o.op = .binOp .shr T x y T2) (hx : ρ x = .int .u64 (m : Int)) (hy : ρ y = .int κ (k : Int)) (hk : k < 64) :
    (execOp ρ o).run P w = .ok (.value (.int .u64 ((m / 2 ^ k : Nat) : Int))) w := by
  have h1 : ¬ (k : Int) < 0 := by omega
  have h2 : min k 64 = k := by omega
  unfold execOp
  simp [ho, hx, hy, binOp, Op.shift, h1, h2, IntKind.bits, eqGuard]

end Go.Proofs.YtnlcjbobfhmnmaaDoor


namespace Go.Proofs.YtnlcjbobfhmnmaaDoor
open Go.RowKit

/-- The cells, one behind the other. -/
def listSt (F0 F1 : Nat → Int) : Nat → List Value
  | 0 => []
  | k + 1 => listSt F0 F1 k ++ [.int .u64 (F0 k), .int .i8 (F1 k)]
theorem listSt_len (F0 F1 : Nat → Int) : ∀ k, (listSt F0 F1 k).length = k * 2
  | 0 => rfl
  | k + 1 => by simp only [listSt, List.length_append, listSt_len F0 F1 k]; simp; omega
theorem listSt_get (F0 F1 : Nat → Int) : ∀ (k j : Nat), j < k * 2 → (listSt F0 F1 k)[j]?.getD undef = cellStepS F0 F1 j
  | 0, j, h => by omega
  | k + 1, j, h => by
    have hl := listSt_len F0 F1 k
    by_cases hj : j < k * 2
    · rw [listSt, List.getElem?_append_left (by omega)]
      exact listSt_get F0 F1 k j hj
    · rw [listSt, List.getElem?_append_right (by omega), hl]
      have : j = k * 2 ∨ j = k * 2 + 1 := by omega
      rcases this with rfl | rfl
      · rw [cellStepS_0, show k * 2 - k * 2 = 0 by omega]; rfl
      · rw [cellStepS_1, show k * 2 + 1 - k * 2 = 1 by omega]; rfl
theorem Mine.of_listSt {F0 F1 : Nat → Int} {w : World} {L n : Nat} {v : Value} (h : w.ownsRow L 60 2 v n (listSt F0 F1 n)) : Mine w L w.heap.size 60 2 v n (cellStepS F0 F1) :=
  (Mine.of_own h).congr fun j hj => listSt_get F0 F1 n j hj
theorem listSt_one (us vs : Nat → Int) : ∀ m, ∀ u ∈ listSt us vs m, u.oneCell' = true
  | 0, u, h => by simp [listSt] at h
  | m + 1, u, h => by
    simp only [listSt, List.mem_append, List.mem_cons, List.not_mem_nil, or_false] at h
    rcases h with h | rfl | rfl
    · exact listSt_one us vs m u h
    · rfl
    · rfl
theorem StRow.news {w : World} {b n : Nat} {us vs : Nat → Int} (h : StRow w b n us vs) : ∀ j u, (listSt us vs n)[j]? = some u → w.cell? ((⟨b, 0, none⟩ : Addr).add j) = some u := fun j u hj => by
  have hl : j < (listSt us vs n).length := (List.getElem?_eq_some_iff.1 hj).1
  rw [listSt_len] at hl
  have hg := listSt_get us vs n j hl
  rw [hj] at hg
  have hu : u = cellStepS us vs j := hg
  subst hu
  have ha : ∀ o : Nat, ((⟨b, o, none⟩ : Addr).add j) = ⟨b, o + j, none⟩ := fun o => by simp [Addr.add]
  rw [ha 0, Nat.zero_add]
  obtain ⟨k, rfl | rfl⟩ : ∃ k, j = k * 2 ∨ j = k * 2 + 1 := ⟨j / 2, by omega⟩
  · rw [cellStepS_0]; exact h.cell0 (by omega)
  · rw [cellStepS_1]; exact h.cell1 (by omega)
theorem own_neS {w : World} {base size n b : Nat} {e : TypeId} {v : Value} {xs : List Value} (h : w.ownsRow base e size v n xs) (hb : b < base) : v.ownBlock ≠ some b := fun e => by
  have := (h.lt b e).1
  omega

/-- The masks, turned around. -/
def mirF (fs : Nat → Int) (j : Nat) : Int := ((mirN (fs j).toNat : Nat) : Int)
/-- Its code. -/
def mirC (n : Nat) (es : Nat → Int) : Int := if stpB n es = true then 0 else 1
theorem mir_0 {n : Nat} {es : Nat → Int} (h : stpB n es = true) : mirC n es = 0 := by simp [mirC, h]
theorem mir_1 {n : Nat} {es : Nat → Int} (h : stpB n es = false) : mirC n es = 1 := by simp [mirC, h]

theorem run_slnil {P : Program} {ρ : Operand → Value} {o : Oper} {w : World} {T T2 e : TypeId} {x y : Operand} {a : Addr} {n c : Nat} (ho : o.op = .binOp .eql T x y T2) (hx : ρ x = .slice (some a) n c) (hy : ρ y = .slice none 0 0) (ht : P.underlying T = some (.slice e)) :
    (execOp ρ o).run P w = .ok (.value (.bool false)) w := by
  have h := Lib.run_eql_slice_nil (P := P) w T e (some a) n c 0 0 ht
  unfold execOp
  simp [ho, hx, hy, h, eqGuard]

end Go.Proofs.YtnlcjbobfhmnmaaDoor

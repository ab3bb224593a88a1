/-
  The number of rounds of a repair: what both sides' functions return. Condition of the program's: its variables hold their own errors.
-/
import Derived.Test.YtmibinfaafhgdaaGreatDoorRsX
import Derived.Test.YtmibinfaafhgdaaGreatDoorErrs
import Derived.Test.YtmibinfaafhgdaaGreatDoorGrow
import Derived.Test.YtmibinfaafhgdaaGreatDoorOwn
import Derived.Maps.AppendAt
namespace Go.Proofs.YtmibinfaafhgdaaGreatDoor
open Go.RowKit

/-! ### THE REFERENCE -/
/-- Cells after some rounds. -/
def clF (f : Nat → Int) (m : BitVec 64) : Nat → Nat → Int
  | 0 => f
  | i + 1 => nwF (clF f m i) (itR m i) 64
theorem clF_s {f : Nat → Int} (hf : S16 f) (m : BitVec 64) : ∀ i, S16 (clF f m i)
  | 0 => hf
  | i + 1 => nwF_s (clF_s hf m i) _ _
theorem notB (m : BitVec 64) : bvI (~~~m) = 18446744073709551615 - bvI m := by
  have := m.isLt
  unfold bvI
  rw [BitVec.toNat_not]; omega

theorem resultsRowTmp2 {P : Program} {fn : Func} {p q q2 : Tmp} {ty : TypeId} (h : fn.results = #[.cell p ty, .tmp q, .tmp q2]) (tmps : Array Value) (w : World) (g : Nat) (t : TypeId) (cs : Array Value) (fr : Nat × Nat) (d : TypeDesc)
    (hp : tmps.getD p undef = .pointer (some ⟨g, 0, none⟩)) (hg : w.heap[g]? = some (.cells cs t fr))
    (hu : P.underlying ty = some d) (hd : (match d with | .struct _ | .array _ _ => true | _ => false) = true) (hi : (P.info? ty).map (·.size) = some cs.size) (v v2 : Value) (hq : tmps.getD q undef = v) (hq2 : tmps.getD q2 undef = v2) :
    (results fn tmps).run P w = .ok (.tuple #[.agg cs, v, v2]) w := by
  have hp' : tmps[p]?.getD undef = .pointer (some ⟨g, 0, none⟩) := by simpa using hp
  have hq' : tmps[q]?.getD undef = v := by simpa using hq
  have hq2' : tmps[q2]?.getD undef = v2 := by simpa using hq2
  simp [results, h, hp', hq', hq2', asAddr, run_loadVar_row w g t ty cs fr d hg hu hd hi]
theorem notU_bv (a : BitVec 64) : bits .xor .u64 IntKind.u64.max (bvI a) = bvI (~~~a) := by
  have h1 : BitVec.ofInt 64 IntKind.u64.max = BitVec.allOnes 64 := by decide
  have h2 : BitVec.ofInt 64 (bvI a) = a := by unfold bvI; rw [BitVec.ofInt_natCast]; simp
  have h3 : BitVec.allOnes 64 ^^^ a = ~~~a := BitVec.eq_of_getLsbD_eq fun i hi => by rw [BitVec.getLsbD_xor, BitVec.getLsbD_not, BitVec.getLsbD_allOnes]; simp [hi]
  show IntKind.u64.wrap ((BitVec.ofInt 64 IntKind.u64.max ^^^ BitVec.ofInt 64 (bvI a)).toNat : Int) = _
  rw [h1, h2, h3]
  exact wrap_bv (~~~a)
theorem run_not_bv {P : Program} {ρ : Operand → Value} {o : Oper} {w : World} {T : TypeId} {x : Operand} {a : BitVec 64} (ho : o.op = .unOp .xor T x) (hx : ρ x = .int .u64 (bvI a)) :
    (execOp ρ o).run P w = .ok (.value (.int .u64 (bvI (~~~a)))) w := by
  have hw := notU_bv a
  unfold execOp
  simp [ho, hx, go_sem, eqGuard]
  exact hw

end Go.Proofs.YtmibinfaafhgdaaGreatDoor


namespace Go.Proofs.YtmibinfaafhgdaaGreatDoor
open Go.RowKit

end Go.Proofs.YtmibinfaafhgdaaGreatDoor

/-
  The best of all copies: plain, and by the reference. Condition: at most 1048576 copies of 16-bit numbers.
-/
import Derived.Test.YtmibinfaafhgdaaDoorDsX
import Derived.Test.YtmibinfaafhgdaaDoorRndS
namespace Go.Proofs.YtmibinfaafhgdaaDoor
open Go.RowKit

/-! ### PLAIN -/
/-- The cells that are left behind i copies. -/
def lfB (D : Nat → BitVec 64) : Nat → BitVec 64
  | 0 => 18446744073709551615#64
  | i + 1 => lfB D i &&& ~~~(lfB D i &&& ~~~D i)
/-- The cells that copy i gives. -/
def clB (D : Nat → BitVec 64) (i : Nat) : BitVec 64 := lfB D i &&& ~~~D i
/-- The best of the first i copies. -/
def bsF (m : Nat → Int) (g : Nat → Nat → Int) (D : Nat → BitVec 64) : Nat → Nat → Int
  | 0 => m
  | i + 1 => fun c => if (clB D i).getLsbD c = true then g i c else bsF m g D i c
/-- Cells of a mask laid over others, as far as k. -/
def pbF (f h : Nat → Int) (c : BitVec 64) (k j : Nat) : Int := if j < k ∧ c.getLsbD j = true then h j else f j
theorem pbF_0 (f h : Nat → Int) (c : BitVec 64) (j : Nat) : f j = pbF f h c 0 j := by simp [pbF]
theorem pbF_yes {f h : Nat → Int} {c : BitVec 64} {k : Nat} (hc : c.getLsbD k = true) (j : Nat) : upd (pbF f h c k) k (h k) j = pbF f h c (k + 1) j := by
  unfold upd pbF
  by_cases e : j = k
  · subst e; simp [hc]
  · have : (j < k + 1) = (j < k) := by simp; omega
    rw [if_neg e]; simp only [this]
theorem pbF_no {f h : Nat → Int} {c : BitVec 64} {k : Nat} (hc : c.getLsbD k = false) (j : Nat) : pbF f h c k j = pbF f h c (k + 1) j := by
  unfold pbF
  by_cases e : j = k
  · subst e; simp [hc]
  · have : (j < k + 1) = (j < k) := by simp; omega
    simp only [this]
theorem pbF_64 (m : Nat → Int) (g : Nat → Nat → Int) (D : Nat → BitVec 64) (i j : Nat) (hj : j < 64) : pbF (bsF m g D i) (g i) (clB D i) 64 j = bsF m g D (i + 1) j := by
  unfold pbF
  show _ = if (clB D i).getLsbD j = true then g i j else bsF m g D i j
  simp [hj]
/-- The dust of the copies. -/
def dBs (g : Nat → Nat → Int) (n : Nat) (x : Int) (i : Nat) : BitVec 64 := dusB (g i) (medF g n) x
/-- The cells, the mask that BestOfCopies returns. -/
def bcF (g : Nat → Nat → Int) (n : Nat) (x : Int) (k : Nat) : Int := if copC n g x = 0 then bsF (medF g n) g (dBs g n x) n k else 0
def bcL (g : Nat → Nat → Int) (n : Nat) (x : Int) : Int := if copC n g x = 0 then bvI (lfB (dBs g n x) n) else 0
theorem bcF_ok {g : Nat → Nat → Int} {n : Nat} {x : Int} (h : copC n g x = 0) : bcF g n x = bsF (medF g n) g (dBs g n x) n := by funext k; simp [bcF, h]
theorem bcF_no {g : Nat → Nat → Int} {n : Nat} {x : Int} (h : copC n g x ≠ 0) : bcF g n x = fun _ => 0 := by funext k; simp [bcF, h]
theorem bcL_ok {g : Nat → Nat → Int} {n : Nat} {x : Int} (h : copC n g x = 0) : bcL g n x = bvI (lfB (dBs g n x) n) := by simp [bcL, h]
theorem bcL_no {g : Nat → Nat → Int} {n : Nat} {x : Int} (h : copC n g x ≠ 0) : bcL g n x = 0 := by simp [bcL, h]
theorem resultsRowTmp2B {P : Program} {fn : Func} {p q q2 : Tmp} {ty : TypeId} (h : fn.results = #[.cell p ty, .tmp q, .tmp q2]) (tmps : Array Value) (w : World) (g : Nat) (t : TypeId) (cs : Array Value) (fr : Nat × Nat) (d : TypeDesc)
    (hp : tmps.getD p undef = .pointer (some ⟨g, 0, none⟩)) (hg : w.heap[g]? = some (.cells cs t fr))
    (hu : P.underlying ty = some d) (hd : (match d with | .struct _ | .array _ _ => true | _ => false) = true) (hi : (P.info? ty).map (·.size) = some cs.size) (v v2 : Value) (hq : tmps.getD q undef = v) (hq2 : tmps.getD q2 undef = v2) :
    (results fn tmps).run P w = .ok (.tuple #[.agg cs, v, v2]) w := by
  have hp' : tmps[p]?.getD undef = .pointer (some ⟨g, 0, none⟩) := by simpa using hp
  have hq' : tmps[q]?.getD undef = v := by simpa using hq
  have hq2' : tmps[q2]?.getD undef = v2 := by simpa using hq2
  simp [results, h, hp', hq', hq2', asAddr, run_loadVar_row w g t ty cs fr d hg hu hd hi]

end Go.Proofs.YtmibinfaafhgdaaDoor

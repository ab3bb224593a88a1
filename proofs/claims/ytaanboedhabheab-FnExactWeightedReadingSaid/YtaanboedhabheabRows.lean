/-
  No cell of these rows narrows 'for every input' (looked for: loops, veiled, ifaces, maps, wideKeys, modest, calm, conditions, laid).
  DERIVED. THE GIVEN ROWS OF THIS SEAT. 5 by the template 'for every input the law returns true; each argument reads behind the call as it read before'; 0 by the template 'total and deterministic' (their statements: YtaanboedhabheabTotals.lean).
  GIVEN WITH THE SEED: the statements are not yours to turn. If you find one false, say at which input.
  Laid BY PROGRAM, IN A SANDBOX (cutbox-rows.mjs): the forced cells as the released guide's own fill.sh prints them over the translation 908f03c95746e012… (all of the seat's roots in one cut). By AI agents, Wed Nov 11 2026. No macro, syntax, notation, axiom, sorry.
-/
import Derived.Test.YtaanboedhabheabChecked
import GoSem.Claim
import GoSem.ClaimJoined
import GoSem.ClaimMapViews
import Derived.JoinedTies
import Derived.KernelRfl
namespace Go.Proofs.Ytaanboedhabheab
/- THE CELL 'sum', in the pinned program and in every row, IS THE sha256 OF THE DUMP (.gsa) THAT YtaanboedhabheabProg.lean LOADS. Nothing in Lean hashes anything: it is a label: what it is worth is what the hold of that sum in a sandbox is worth. -/
noncomputable def Try.pinned : Pinned := { name := "ytaanboedhabheab", sum := "908f03c95746e012a1b538a0d70d4f2318d9e7ba0cf98ef9b50c412bd52c507f", checked := Try.checked }
namespace Rows
def none {H : Type} : Left H := { results := [], args := [] }

/-- 'laws.FnExactValidScene': WHATEVER THE INPUT: true; the input reads as it did. -/
def fnExactValidSceneSpec : ChangeSpec := { name := "fnExactValidScene", fn := fun _ => fun
  | [d] => { results := [.lit (.bool true)], args := [d] }
  | _ => none }
def fnExactValidSceneRow : OpenClaim := { program := "ytaanboedhabheab", sum := "908f03c95746e012a1b538a0d70d4f2318d9e7ba0cf98ef9b50c412bd52c507f", func := "loop.example/g01301/laws.FnExactValidScene", spec := "fnExactValidScene", apart := false }
def FnExactValidSceneSaid : Prop := fnExactValidSceneRow.holds Try.pinned (OpenSpec.ofChange fnExactValidSceneSpec)

/-- ITS FALSE NEIGHBOUR: 'it returns false'. Refute it at one input. -/
def fnExactValidSceneWrong : ChangeSpec := { name := "fnExactValidScene", fn := fun _ => fun
  | [d] => { results := [.lit (.bool false)], args := [d] }
  | _ => none }
def FnExactValidSceneWrongFalsely : Prop := fnExactValidSceneRow.holds Try.pinned (OpenSpec.ofChange fnExactValidSceneWrong)

/-- 'laws.FnExactWeightedReading': WHATEVER THE INPUT: true; the input reads as it did. -/
def fnExactWeightedReadingSpec : ChangeSpec := { name := "fnExactWeightedReading", fn := fun _ => fun
  | [d] => { results := [.lit (.bool true)], args := [d] }
  | _ => none }
def fnExactWeightedReadingRow : OpenClaim := { program := "ytaanboedhabheab", sum := "908f03c95746e012a1b538a0d70d4f2318d9e7ba0cf98ef9b50c412bd52c507f", func := "loop.example/g01301/laws.FnExactWeightedReading", spec := "fnExactWeightedReading", unfollowed := true, recurses := true, apart := false }
def FnExactWeightedReadingSaid : Prop := fnExactWeightedReadingRow.holds Try.pinned (OpenSpec.ofChange fnExactWeightedReadingSpec)

/-- ITS FALSE NEIGHBOUR: 'it returns false'. Refute it at one input. -/
def fnExactWeightedReadingWrong : ChangeSpec := { name := "fnExactWeightedReading", fn := fun _ => fun
  | [d] => { results := [.lit (.bool false)], args := [d] }
  | _ => none }
def FnExactWeightedReadingWrongFalsely : Prop := fnExactWeightedReadingRow.holds Try.pinned (OpenSpec.ofChange fnExactWeightedReadingWrong)

/-- 'laws.FnExactExposureThirds': WHATEVER THE INPUT: true; the input reads as it did. -/
def fnExactExposureThirdsSpec : ChangeSpec := { name := "fnExactExposureThirds", fn := fun _ => fun
  | [d] => { results := [.lit (.bool true)], args := [d] }
  | _ => none }
def fnExactExposureThirdsRow : OpenClaim := { program := "ytaanboedhabheab", sum := "908f03c95746e012a1b538a0d70d4f2318d9e7ba0cf98ef9b50c412bd52c507f", func := "loop.example/g01301/laws.FnExactExposureThirds", spec := "fnExactExposureThirds", apart := false }
def FnExactExposureThirdsSaid : Prop := fnExactExposureThirdsRow.holds Try.pinned (OpenSpec.ofChange fnExactExposureThirdsSpec)

/-- ITS FALSE NEIGHBOUR: 'it returns false'. Refute it at one input. -/
def fnExactExposureThirdsWrong : ChangeSpec := { name := "fnExactExposureThirds", fn := fun _ => fun
  | [d] => { results := [.lit (.bool false)], args := [d] }
  | _ => none }
def FnExactExposureThirdsWrongFalsely : Prop := fnExactExposureThirdsRow.holds Try.pinned (OpenSpec.ofChange fnExactExposureThirdsWrong)

/-- 'laws.FnExactSceneRange': WHATEVER THE INPUT: true; the input reads as it did. -/
def fnExactSceneRangeSpec : ChangeSpec := { name := "fnExactSceneRange", fn := fun _ => fun
  | [d] => { results := [.lit (.bool true)], args := [d] }
  | _ => none }
def fnExactSceneRangeRow : OpenClaim := { program := "ytaanboedhabheab", sum := "908f03c95746e012a1b538a0d70d4f2318d9e7ba0cf98ef9b50c412bd52c507f", func := "loop.example/g01301/laws.FnExactSceneRange", spec := "fnExactSceneRange", recurses := true, apart := false }
def FnExactSceneRangeSaid : Prop := fnExactSceneRangeRow.holds Try.pinned (OpenSpec.ofChange fnExactSceneRangeSpec)

/-- ITS FALSE NEIGHBOUR: 'it returns false'. Refute it at one input. -/
def fnExactSceneRangeWrong : ChangeSpec := { name := "fnExactSceneRange", fn := fun _ => fun
  | [d] => { results := [.lit (.bool false)], args := [d] }
  | _ => none }
def FnExactSceneRangeWrongFalsely : Prop := fnExactSceneRangeRow.holds Try.pinned (OpenSpec.ofChange fnExactSceneRangeWrong)

/-- 'laws.FnExactMedianReading': WHATEVER THE INPUT: true; the input reads as it did. -/
def fnExactMedianReadingSpec : ChangeSpec := { name := "fnExactMedianReading", fn := fun _ => fun
  | [d] => { results := [.lit (.bool true)], args := [d] }
  | _ => none }
def fnExactMedianReadingRow : OpenClaim := { program := "ytaanboedhabheab", sum := "908f03c95746e012a1b538a0d70d4f2318d9e7ba0cf98ef9b50c412bd52c507f", func := "loop.example/g01301/laws.FnExactMedianReading", spec := "fnExactMedianReading", recurses := true, apart := false }
def FnExactMedianReadingSaid : Prop := fnExactMedianReadingRow.holds Try.pinned (OpenSpec.ofChange fnExactMedianReadingSpec)

/-- ITS FALSE NEIGHBOUR: 'it returns false'. Refute it at one input. -/
def fnExactMedianReadingWrong : ChangeSpec := { name := "fnExactMedianReading", fn := fun _ => fun
  | [d] => { results := [.lit (.bool false)], args := [d] }
  | _ => none }
def FnExactMedianReadingWrongFalsely : Prop := fnExactMedianReadingRow.holds Try.pinned (OpenSpec.ofChange fnExactMedianReadingWrong)

/- THE SECOND FORM. 'bulk': how many values and letters a reading holds, each counted each time it is reached (what is shared counts as often as it is met; a slice's spare places count too). A statement '..UptoSaid' is the law's where the arguments, and the package variables that the reading takes, are together of bulk at most 1048576: NARROWER than '..Said'. Prove '..Said' where nothing that the law and all that it calls make is longer than what came in: it says more and counts as full. Else prove '..UptoSaid'. A law counts once. -/
mutual
def uptoBulk {H : Type} : DataW H → Nat
  | .lit (.string bytes) => bytes.length + 1
  | .lit _ => 1
  | .nil => 1
  | .ptr d => uptoBulk d + 1
  | .slice elems spare => uptoBulkAll elems + uptoBulkAll spare + 1
  | .agg parts => uptoBulkAll parts + 1
  | .iface _ d => uptoBulk d + 1
  | .map entries => uptoBulkEntries entries + 1
  | .held _ => 1
def uptoBulkAll {H : Type} : List (DataW H) → Nat
  | [] => 0
  | d :: r => uptoBulk d + uptoBulkAll r
def uptoBulkEntries {H : Type} : List (Lit × DataW H) → Nat
  | [] => 0
  | x :: r => uptoBulkEntry x + uptoBulkEntries r
def uptoBulkEntry {H : Type} : Lit × DataW H → Nat
  | (.string bytes, d) => bytes.length + uptoBulk d + 1
  | (_, d) => uptoBulk d + 1
 end
def uptoSmall : (H : Type) → List (DataW H) → Bool := fun _ ds => decide (uptoBulkAll ds ≤ 1048576)
def OpenSpec.upto (s : _root_.Go.ChangeSpec) : _root_.Go.OpenSpec := { _root_.Go.OpenSpec.ofChange s with cond := some uptoSmall }

/-- 'laws.FnExactValidScene', WHERE WHAT IT READS IS OF BULK AT MOST 1048576: true; the input reads as it did. -/
def fnExactValidSceneUptoRow : OpenClaim := { program := "ytaanboedhabheab", sum := "908f03c95746e012a1b538a0d70d4f2318d9e7ba0cf98ef9b50c412bd52c507f", func := "loop.example/g01301/laws.FnExactValidScene", spec := "fnExactValidScene", apart := false, narrowed := true }
def FnExactValidSceneUptoSaid : Prop := fnExactValidSceneUptoRow.holds Try.pinned (OpenSpec.upto fnExactValidSceneSpec)

/-- 'laws.FnExactWeightedReading', WHERE WHAT IT READS IS OF BULK AT MOST 1048576: true; the input reads as it did. -/
def fnExactWeightedReadingUptoRow : OpenClaim := { program := "ytaanboedhabheab", sum := "908f03c95746e012a1b538a0d70d4f2318d9e7ba0cf98ef9b50c412bd52c507f", func := "loop.example/g01301/laws.FnExactWeightedReading", spec := "fnExactWeightedReading", unfollowed := true, recurses := true, apart := false, narrowed := true }
def FnExactWeightedReadingUptoSaid : Prop := fnExactWeightedReadingUptoRow.holds Try.pinned (OpenSpec.upto fnExactWeightedReadingSpec)

/-- 'laws.FnExactExposureThirds', WHERE WHAT IT READS IS OF BULK AT MOST 1048576: true; the input reads as it did. -/
def fnExactExposureThirdsUptoRow : OpenClaim := { program := "ytaanboedhabheab", sum := "908f03c95746e012a1b538a0d70d4f2318d9e7ba0cf98ef9b50c412bd52c507f", func := "loop.example/g01301/laws.FnExactExposureThirds", spec := "fnExactExposureThirds", apart := false, narrowed := true }
def FnExactExposureThirdsUptoSaid : Prop := fnExactExposureThirdsUptoRow.holds Try.pinned (OpenSpec.upto fnExactExposureThirdsSpec)

/-- 'laws.FnExactSceneRange', WHERE WHAT IT READS IS OF BULK AT MOST 1048576: true; the input reads as it did. -/
def fnExactSceneRangeUptoRow : OpenClaim := { program := "ytaanboedhabheab", sum := "908f03c95746e012a1b538a0d70d4f2318d9e7ba0cf98ef9b50c412bd52c507f", func := "loop.example/g01301/laws.FnExactSceneRange", spec := "fnExactSceneRange", recurses := true, apart := false, narrowed := true }
def FnExactSceneRangeUptoSaid : Prop := fnExactSceneRangeUptoRow.holds Try.pinned (OpenSpec.upto fnExactSceneRangeSpec)

/-- 'laws.FnExactMedianReading', WHERE WHAT IT READS IS OF BULK AT MOST 1048576: true; the input reads as it did. -/
def fnExactMedianReadingUptoRow : OpenClaim := { program := "ytaanboedhabheab", sum := "908f03c95746e012a1b538a0d70d4f2318d9e7ba0cf98ef9b50c412bd52c507f", func := "loop.example/g01301/laws.FnExactMedianReading", spec := "fnExactMedianReading", recurses := true, apart := false, narrowed := true }
def FnExactMedianReadingUptoSaid : Prop := fnExactMedianReadingUptoRow.holds Try.pinned (OpenSpec.upto fnExactMedianReadingSpec)

end Rows
end Go.Proofs.Ytaanboedhabheab

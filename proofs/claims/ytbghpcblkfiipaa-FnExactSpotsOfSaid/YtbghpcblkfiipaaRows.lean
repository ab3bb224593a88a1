/-
  No cell of these rows narrows 'for every input' (looked for: loops, veiled, ifaces, maps, wideKeys, modest, calm, conditions, laid).
  DERIVED. THE GIVEN ROWS OF THIS SEAT. 6 by the template 'for every input the law returns true; each argument reads behind the call as it read before'; 0 by the template 'total and deterministic' (their statements: YtbghpcblkfiipaaTotals.lean).
  GIVEN WITH THE SEED: the statements are not yours to turn. If you find one false, say at which input.
  Laid BY PROGRAM, IN A SANDBOX (cutbox-rows.mjs): the forced cells as the released guide's own fill.sh prints them over the translation 78ef2ba550a0252b… (all of the seat's roots in one cut). By AI agents, Wed Nov 11 2026. No macro, syntax, notation, axiom, sorry.
-/
import Derived.Test.YtbghpcblkfiipaaChecked
import GoSem.Claim
import GoSem.ClaimJoined
import GoSem.ClaimMapViews
import Derived.JoinedTies
import Derived.KernelRfl
namespace Go.Proofs.Ytbghpcblkfiipaa
/- THE CELL 'sum', in the pinned program and in every row, IS THE sha256 OF THE DUMP (.gsa) THAT YtbghpcblkfiipaaProg.lean LOADS. Nothing in Lean hashes anything: it is a label: what it is worth is what the hold of that sum in a sandbox is worth. -/
noncomputable def Try.pinned : Pinned := { name := "ytbghpcblkfiipaa", sum := "78ef2ba550a0252bee1fb1b3fa9b1862b8fafbe99fc059bcce20db0bfad0e765", checked := Try.checked }
namespace Rows
def none {H : Type} : Left H := { results := [], args := [] }

/-- 'laws.FnExactValidSheet': WHATEVER THE INPUT: true; the input reads as it did. -/
def fnExactValidSheetSpec : ChangeSpec := { name := "fnExactValidSheet", fn := fun _ => fun
  | [d] => { results := [.lit (.bool true)], args := [d] }
  | _ => none }
def fnExactValidSheetRow : OpenClaim := { program := "ytbghpcblkfiipaa", sum := "78ef2ba550a0252bee1fb1b3fa9b1862b8fafbe99fc059bcce20db0bfad0e765", func := "loop.example/g01301/laws.FnExactValidSheet", spec := "fnExactValidSheet", apart := false }
def FnExactValidSheetSaid : Prop := fnExactValidSheetRow.holds Try.pinned (OpenSpec.ofChange fnExactValidSheetSpec)

/-- ITS FALSE NEIGHBOUR: 'it returns false'. Refute it at one input. -/
def fnExactValidSheetWrong : ChangeSpec := { name := "fnExactValidSheet", fn := fun _ => fun
  | [d] => { results := [.lit (.bool false)], args := [d] }
  | _ => none }
def FnExactValidSheetWrongFalsely : Prop := fnExactValidSheetRow.holds Try.pinned (OpenSpec.ofChange fnExactValidSheetWrong)

/-- 'laws.FnExactSameSheet': WHATEVER THE INPUT: true; the input reads as it did. -/
def fnExactSameSheetSpec : ChangeSpec := { name := "fnExactSameSheet", fn := fun _ => fun
  | [d1, d2] => { results := [.lit (.bool true)], args := [d1, d2] }
  | _ => none }
def fnExactSameSheetRow : OpenClaim := { program := "ytbghpcblkfiipaa", sum := "78ef2ba550a0252bee1fb1b3fa9b1862b8fafbe99fc059bcce20db0bfad0e765", func := "loop.example/g01301/laws.FnExactSameSheet", spec := "fnExactSameSheet", apart := false }
def FnExactSameSheetSaid : Prop := fnExactSameSheetRow.holds Try.pinned (OpenSpec.ofChange fnExactSameSheetSpec)

/-- ITS FALSE NEIGHBOUR: 'it returns false'. Refute it at one input. -/
def fnExactSameSheetWrong : ChangeSpec := { name := "fnExactSameSheet", fn := fun _ => fun
  | [d1, d2] => { results := [.lit (.bool false)], args := [d1, d2] }
  | _ => none }
def FnExactSameSheetWrongFalsely : Prop := fnExactSameSheetRow.holds Try.pinned (OpenSpec.ofChange fnExactSameSheetWrong)

/-- 'laws.FnExactRowsOf': WHATEVER THE INPUT: true; the input reads as it did. -/
def fnExactRowsOfSpec : ChangeSpec := { name := "fnExactRowsOf", fn := fun _ => fun
  | [d] => { results := [.lit (.bool true)], args := [d] }
  | _ => none }
def fnExactRowsOfRow : OpenClaim := { program := "ytbghpcblkfiipaa", sum := "78ef2ba550a0252bee1fb1b3fa9b1862b8fafbe99fc059bcce20db0bfad0e765", func := "loop.example/g01301/laws.FnExactRowsOf", spec := "fnExactRowsOf", apart := false }
def FnExactRowsOfSaid : Prop := fnExactRowsOfRow.holds Try.pinned (OpenSpec.ofChange fnExactRowsOfSpec)

/-- ITS FALSE NEIGHBOUR: 'it returns false'. Refute it at one input. -/
def fnExactRowsOfWrong : ChangeSpec := { name := "fnExactRowsOf", fn := fun _ => fun
  | [d] => { results := [.lit (.bool false)], args := [d] }
  | _ => none }
def FnExactRowsOfWrongFalsely : Prop := fnExactRowsOfRow.holds Try.pinned (OpenSpec.ofChange fnExactRowsOfWrong)

/-- 'laws.FnExactGrowMask': WHATEVER THE INPUT: true; the input reads as it did. -/
def fnExactGrowMaskSpec : ChangeSpec := { name := "fnExactGrowMask", fn := fun _ => fun
  | [d] => { results := [.lit (.bool true)], args := [d] }
  | _ => none }
def fnExactGrowMaskRow : OpenClaim := { program := "ytbghpcblkfiipaa", sum := "78ef2ba550a0252bee1fb1b3fa9b1862b8fafbe99fc059bcce20db0bfad0e765", func := "loop.example/g01301/laws.FnExactGrowMask", spec := "fnExactGrowMask", unfollowed := true, recurses := true, apart := false }
def FnExactGrowMaskSaid : Prop := fnExactGrowMaskRow.holds Try.pinned (OpenSpec.ofChange fnExactGrowMaskSpec)

/-- ITS FALSE NEIGHBOUR: 'it returns false'. Refute it at one input. -/
def fnExactGrowMaskWrong : ChangeSpec := { name := "fnExactGrowMask", fn := fun _ => fun
  | [d] => { results := [.lit (.bool false)], args := [d] }
  | _ => none }
def FnExactGrowMaskWrongFalsely : Prop := fnExactGrowMaskRow.holds Try.pinned (OpenSpec.ofChange fnExactGrowMaskWrong)

/-- 'laws.FnExactSpotsOf': WHATEVER THE INPUT: true; the input reads as it did. -/
def fnExactSpotsOfSpec : ChangeSpec := { name := "fnExactSpotsOf", fn := fun _ => fun
  | [d] => { results := [.lit (.bool true)], args := [d] }
  | _ => none }
def fnExactSpotsOfRow : OpenClaim := { program := "ytbghpcblkfiipaa", sum := "78ef2ba550a0252bee1fb1b3fa9b1862b8fafbe99fc059bcce20db0bfad0e765", func := "loop.example/g01301/laws.FnExactSpotsOf", spec := "fnExactSpotsOf", unfollowed := true, recurses := true, apart := false }
def FnExactSpotsOfSaid : Prop := fnExactSpotsOfRow.holds Try.pinned (OpenSpec.ofChange fnExactSpotsOfSpec)

/-- ITS FALSE NEIGHBOUR: 'it returns false'. Refute it at one input. -/
def fnExactSpotsOfWrong : ChangeSpec := { name := "fnExactSpotsOf", fn := fun _ => fun
  | [d] => { results := [.lit (.bool false)], args := [d] }
  | _ => none }
def FnExactSpotsOfWrongFalsely : Prop := fnExactSpotsOfRow.holds Try.pinned (OpenSpec.ofChange fnExactSpotsOfWrong)

/-- 'laws.FnExactMaskText': WHATEVER THE INPUT: true; the input reads as it did. -/
def fnExactMaskTextSpec : ChangeSpec := { name := "fnExactMaskText", fn := fun _ => fun
  | [d] => { results := [.lit (.bool true)], args := [d] }
  | _ => none }
def fnExactMaskTextRow : OpenClaim := { program := "ytbghpcblkfiipaa", sum := "78ef2ba550a0252bee1fb1b3fa9b1862b8fafbe99fc059bcce20db0bfad0e765", func := "loop.example/g01301/laws.FnExactMaskText", spec := "fnExactMaskText", apart := false }
def FnExactMaskTextSaid : Prop := fnExactMaskTextRow.holds Try.pinned (OpenSpec.ofChange fnExactMaskTextSpec)

/-- ITS FALSE NEIGHBOUR: 'it returns false'. Refute it at one input. -/
def fnExactMaskTextWrong : ChangeSpec := { name := "fnExactMaskText", fn := fun _ => fun
  | [d] => { results := [.lit (.bool false)], args := [d] }
  | _ => none }
def FnExactMaskTextWrongFalsely : Prop := fnExactMaskTextRow.holds Try.pinned (OpenSpec.ofChange fnExactMaskTextWrong)

/- THE SECOND FORM. 'bulk': how many values and letters a reading holds, each counted each time it is reached (what is shared counts as often as it is met; a slice's spare places count too). A statement '..UptoSaid' is the law's where the arguments, and the package variables that the reading takes, are together of bulk at most 1048576: NARROWER than '..Said'. Prove '..Said' where nothing that the law and all that it calls make is longer than what came in: it says more and counts as full. Else prove '..UptoSaid'. A law counts once. -/
mutual
def uptoBulk {H : Type} : DataW H → Nat
  | .lit (.string bytes) => bytes.length + 1
  | .lit _ => 1
  | .nil => 1
  | .ptr d => uptoBulk d + 1
  | .slice elems spare => uptoBulkAll elems + uptoBulkAll spare + 1
  | .agg parts => uptoBulkAll parts + 1
  | .iface _ d => uptoBulk d + 1
  | .map entries => uptoBulkEntries entries + 1
  | .held _ => 1
def uptoBulkAll {H : Type} : List (DataW H) → Nat
  | [] => 0
  | d :: r => uptoBulk d + uptoBulkAll r
def uptoBulkEntries {H : Type} : List (Lit × DataW H) → Nat
  | [] => 0
  | x :: r => uptoBulkEntry x + uptoBulkEntries r
def uptoBulkEntry {H : Type} : Lit × DataW H → Nat
  | (.string bytes, d) => bytes.length + uptoBulk d + 1
  | (_, d) => uptoBulk d + 1
 end
def uptoSmall : (H : Type) → List (DataW H) → Bool := fun _ ds => decide (uptoBulkAll ds ≤ 1048576)
def OpenSpec.upto (s : _root_.Go.ChangeSpec) : _root_.Go.OpenSpec := { _root_.Go.OpenSpec.ofChange s with cond := some uptoSmall }

/-- 'laws.FnExactValidSheet', WHERE WHAT IT READS IS OF BULK AT MOST 1048576: true; the input reads as it did. -/
def fnExactValidSheetUptoRow : OpenClaim := { program := "ytbghpcblkfiipaa", sum := "78ef2ba550a0252bee1fb1b3fa9b1862b8fafbe99fc059bcce20db0bfad0e765", func := "loop.example/g01301/laws.FnExactValidSheet", spec := "fnExactValidSheet", apart := false, narrowed := true }
def FnExactValidSheetUptoSaid : Prop := fnExactValidSheetUptoRow.holds Try.pinned (OpenSpec.upto fnExactValidSheetSpec)

/-- 'laws.FnExactSameSheet', WHERE WHAT IT READS IS OF BULK AT MOST 1048576: true; the input reads as it did. -/
def fnExactSameSheetUptoRow : OpenClaim := { program := "ytbghpcblkfiipaa", sum := "78ef2ba550a0252bee1fb1b3fa9b1862b8fafbe99fc059bcce20db0bfad0e765", func := "loop.example/g01301/laws.FnExactSameSheet", spec := "fnExactSameSheet", apart := false, narrowed := true }
def FnExactSameSheetUptoSaid : Prop := fnExactSameSheetUptoRow.holds Try.pinned (OpenSpec.upto fnExactSameSheetSpec)

/-- 'laws.FnExactRowsOf', WHERE WHAT IT READS IS OF BULK AT MOST 1048576: true; the input reads as it did. -/
def fnExactRowsOfUptoRow : OpenClaim := { program := "ytbghpcblkfiipaa", sum := "78ef2ba550a0252bee1fb1b3fa9b1862b8fafbe99fc059bcce20db0bfad0e765", func := "loop.example/g01301/laws.FnExactRowsOf", spec := "fnExactRowsOf", apart := false, narrowed := true }
def FnExactRowsOfUptoSaid : Prop := fnExactRowsOfUptoRow.holds Try.pinned (OpenSpec.upto fnExactRowsOfSpec)

/-- 'laws.FnExactGrowMask', WHERE WHAT IT READS IS OF BULK AT MOST 1048576: true; the input reads as it did. -/
def fnExactGrowMaskUptoRow : OpenClaim := { program := "ytbghpcblkfiipaa", sum := "78ef2ba550a0252bee1fb1b3fa9b1862b8fafbe99fc059bcce20db0bfad0e765", func := "loop.example/g01301/laws.FnExactGrowMask", spec := "fnExactGrowMask", unfollowed := true, recurses := true, apart := false, narrowed := true }
def FnExactGrowMaskUptoSaid : Prop := fnExactGrowMaskUptoRow.holds Try.pinned (OpenSpec.upto fnExactGrowMaskSpec)

/-- 'laws.FnExactSpotsOf', WHERE WHAT IT READS IS OF BULK AT MOST 1048576: true; the input reads as it did. -/
def fnExactSpotsOfUptoRow : OpenClaim := { program := "ytbghpcblkfiipaa", sum := "78ef2ba550a0252bee1fb1b3fa9b1862b8fafbe99fc059bcce20db0bfad0e765", func := "loop.example/g01301/laws.FnExactSpotsOf", spec := "fnExactSpotsOf", unfollowed := true, recurses := true, apart := false, narrowed := true }
def FnExactSpotsOfUptoSaid : Prop := fnExactSpotsOfUptoRow.holds Try.pinned (OpenSpec.upto fnExactSpotsOfSpec)

/-- 'laws.FnExactMaskText', WHERE WHAT IT READS IS OF BULK AT MOST 1048576: true; the input reads as it did. -/
def fnExactMaskTextUptoRow : OpenClaim := { program := "ytbghpcblkfiipaa", sum := "78ef2ba550a0252bee1fb1b3fa9b1862b8fafbe99fc059bcce20db0bfad0e765", func := "loop.example/g01301/laws.FnExactMaskText", spec := "fnExactMaskText", apart := false, narrowed := true }
def FnExactMaskTextUptoSaid : Prop := fnExactMaskTextUptoRow.holds Try.pinned (OpenSpec.upto fnExactMaskTextSpec)

end Rows
end Go.Proofs.Ytbghpcblkfiipaa

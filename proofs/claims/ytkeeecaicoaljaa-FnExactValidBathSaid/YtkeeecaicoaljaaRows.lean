/-
  No cell of these rows narrows 'for every input' (looked for: loops, veiled, ifaces, maps, wideKeys, modest, calm, conditions, laid).
  DERIVED. THE GIVEN ROWS OF THIS SEAT. 2 by the template 'for every input the law returns true; each argument reads behind the call as it read before'; 0 by the template 'total and deterministic' (their statements: YtkeeecaicoaljaaTotals.lean).
  GIVEN WITH THE SEED: the statements are not yours to turn. If you find one false, say at which input.
  Laid BY PROGRAM, IN A SANDBOX (cutbox-rows.mjs): the forced cells as the released guide's own fill.sh prints them over the translation 7cf89f5c57ba7680… (all of the seat's roots in one cut). By AI agents, Wed Nov 11 2026. No macro, syntax, notation, axiom, sorry.
-/
import Derived.Test.YtkeeecaicoaljaaChecked
import GoSem.Claim
import GoSem.ClaimJoined
import GoSem.ClaimMapViews
import Derived.JoinedTies
import Derived.KernelRfl
namespace Go.Proofs.Ytkeeecaicoaljaa
/- THE CELL 'sum', in the pinned program and in every row, IS THE sha256 OF THE DUMP (.gsa) THAT YtkeeecaicoaljaaProg.lean LOADS. Nothing in Lean hashes anything: it is a label: what it is worth is what the hold of that sum in a sandbox is worth. -/
noncomputable def Try.pinned : Pinned := { name := "ytkeeecaicoaljaa", sum := "7cf89f5c57ba7680262d1a93ee122708408ef7a6507e46f1be675977228d58b3", checked := Try.checked }
namespace Rows
def none {H : Type} : Left H := { results := [], args := [] }

/-- 'laws.FnExactValidDeveloper': WHATEVER THE INPUT: true; the input reads as it did. -/
def fnExactValidDeveloperSpec : ChangeSpec := { name := "fnExactValidDeveloper", fn := fun _ => fun
  | [d] => { results := [.lit (.bool true)], args := [d] }
  | _ => none }
def fnExactValidDeveloperRow : OpenClaim := { program := "ytkeeecaicoaljaa", sum := "7cf89f5c57ba7680262d1a93ee122708408ef7a6507e46f1be675977228d58b3", func := "loop.example/g01301/laws.FnExactValidDeveloper", spec := "fnExactValidDeveloper", apart := false }
def FnExactValidDeveloperSaid : Prop := fnExactValidDeveloperRow.holds Try.pinned (OpenSpec.ofChange fnExactValidDeveloperSpec)

/-- ITS FALSE NEIGHBOUR: 'it returns false'. Refute it at one input. -/
def fnExactValidDeveloperWrong : ChangeSpec := { name := "fnExactValidDeveloper", fn := fun _ => fun
  | [d] => { results := [.lit (.bool false)], args := [d] }
  | _ => none }
def FnExactValidDeveloperWrongFalsely : Prop := fnExactValidDeveloperRow.holds Try.pinned (OpenSpec.ofChange fnExactValidDeveloperWrong)

/-- 'laws.FnExactValidBath': WHATEVER THE INPUT: true; the input reads as it did. -/
def fnExactValidBathSpec : ChangeSpec := { name := "fnExactValidBath", fn := fun _ => fun
  | [d1, d2] => { results := [.lit (.bool true)], args := [d1, d2] }
  | _ => none }
def fnExactValidBathRow : OpenClaim := { program := "ytkeeecaicoaljaa", sum := "7cf89f5c57ba7680262d1a93ee122708408ef7a6507e46f1be675977228d58b3", func := "loop.example/g01301/laws.FnExactValidBath", spec := "fnExactValidBath", apart := false }
def FnExactValidBathSaid : Prop := fnExactValidBathRow.holds Try.pinned (OpenSpec.ofChange fnExactValidBathSpec)

/-- ITS FALSE NEIGHBOUR: 'it returns false'. Refute it at one input. -/
def fnExactValidBathWrong : ChangeSpec := { name := "fnExactValidBath", fn := fun _ => fun
  | [d1, d2] => { results := [.lit (.bool false)], args := [d1, d2] }
  | _ => none }
def FnExactValidBathWrongFalsely : Prop := fnExactValidBathRow.holds Try.pinned (OpenSpec.ofChange fnExactValidBathWrong)

/- THE SECOND FORM. 'bulk': how many values and letters a reading holds, each counted each time it is reached (what is shared counts as often as it is met; a slice's spare places count too). A statement '..UptoSaid' is the law's where the arguments, and the package variables that the reading takes, are together of bulk at most 1048576: NARROWER than '..Said'. Prove '..Said' where nothing that the law and all that it calls make is longer than what came in: it says more and counts as full. Else prove '..UptoSaid'. A law counts once. -/
mutual
def uptoBulk {H : Type} : DataW H → Nat
  | .lit (.string bytes) => bytes.length + 1
  | .lit _ => 1
  | .nil => 1
  | .ptr d => uptoBulk d + 1
  | .slice elems spare => uptoBulkAll elems + uptoBulkAll spare + 1
  | .agg parts => uptoBulkAll parts + 1
  | .iface _ d => uptoBulk d + 1
  | .map entries => uptoBulkEntries entries + 1
  | .held _ => 1
def uptoBulkAll {H : Type} : List (DataW H) → Nat
  | [] => 0
  | d :: r => uptoBulk d + uptoBulkAll r
def uptoBulkEntries {H : Type} : List (Lit × DataW H) → Nat
  | [] => 0
  | x :: r => uptoBulkEntry x + uptoBulkEntries r
def uptoBulkEntry {H : Type} : Lit × DataW H → Nat
  | (.string bytes, d) => bytes.length + uptoBulk d + 1
  | (_, d) => uptoBulk d + 1
 end
def uptoSmall : (H : Type) → List (DataW H) → Bool := fun _ ds => decide (uptoBulkAll ds ≤ 1048576)
def OpenSpec.upto (s : _root_.Go.ChangeSpec) : _root_.Go.OpenSpec := { _root_.Go.OpenSpec.ofChange s with cond := some uptoSmall }

/-- 'laws.FnExactValidDeveloper', WHERE WHAT IT READS IS OF BULK AT MOST 1048576: true; the input reads as it did. -/
def fnExactValidDeveloperUptoRow : OpenClaim := { program := "ytkeeecaicoaljaa", sum := "7cf89f5c57ba7680262d1a93ee122708408ef7a6507e46f1be675977228d58b3", func := "loop.example/g01301/laws.FnExactValidDeveloper", spec := "fnExactValidDeveloper", apart := false, narrowed := true }
def FnExactValidDeveloperUptoSaid : Prop := fnExactValidDeveloperUptoRow.holds Try.pinned (OpenSpec.upto fnExactValidDeveloperSpec)

/-- 'laws.FnExactValidBath', WHERE WHAT IT READS IS OF BULK AT MOST 1048576: true; the input reads as it did. -/
def fnExactValidBathUptoRow : OpenClaim := { program := "ytkeeecaicoaljaa", sum := "7cf89f5c57ba7680262d1a93ee122708408ef7a6507e46f1be675977228d58b3", func := "loop.example/g01301/laws.FnExactValidBath", spec := "fnExactValidBath", apart := false, narrowed := true }
def FnExactValidBathUptoSaid : Prop := fnExactValidBathUptoRow.holds Try.pinned (OpenSpec.upto fnExactValidBathSpec)

end Rows
end Go.Proofs.Ytkeeecaicoaljaa

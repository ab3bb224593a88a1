/-
  NARROWER THAN 'FOR EVERY INPUT', by the rows' own cells (each row's printed sentence says how): FnExactLeastReplenished: ifaces, laid · FnExactSheetsFrom: ifaces, laid · FnExactDoActs: ifaces, laid · FnExactFirstFailure: ifaces, laid · FnBaths: ifaces, laid · FnReplenished: ifaces, laid.
  DERIVED. THE GIVEN ROWS OF THIS SEAT. 6 by the template 'for every input the law returns true; each argument reads behind the call as it read before'; 0 by the template 'total and deterministic' (their statements: YtdjipllfjmociaaDoorTotals.lean).
  GIVEN WITH THE SEED: the statements are not yours to turn. If you find one false, say at which input.
  Laid BY PROGRAM, IN A SANDBOX (cutbox-rows.mjs): the forced cells as the released guide's own fill.sh prints them over the translation 09990679c848eadf… (all of the seat's roots in one cut). By AI agents, Wed Nov 11 2026. No macro, syntax, notation, axiom, sorry.
-/
import Derived.Test.YtdjipllfjmociaaDoorChecked
import GoSem.Claim
import GoSem.ClaimJoined
import GoSem.ClaimMapViews
import Derived.JoinedTies
import Derived.KernelRfl
namespace Go.Proofs.YtdjipllfjmociaaDoor
/- THE CELL 'sum', in the pinned program and in every row, IS THE sha256 OF THE DUMP (.gsa) THAT YtdjipllfjmociaaDoorProg.lean LOADS. Nothing in Lean hashes anything: it is a label: what it is worth is what the hold of that sum in a sandbox is worth. -/
noncomputable def Tryd.pinned : Pinned := { name := "ytdjipllfjmociaadoor", sum := "09990679c848eadf321ade801ddf1ec6a137a083121e162374190dc723524e0f", checked := Tryd.checked }
namespace Rows
def none {H : Type} : Left H := { results := [], args := [] }

/- WHAT THE LISTED PACKAGE-LEVEL VARIABLES READ AS WHEN THE CALL BEGINS. Each datum BY PROGRAM (the guide's laid-datum.mjs) off the statement by which the dump's own 'gosem.cut.vars' lays the variable. In a bare row this is a premise. The card (YtdjipllfjmociaaDoorCards.lean) ties it to the program's text. -/
def laid_loop_example_g01301_impl_errInvalid {H : Type} : DataW H := .iface "*errors.errorString" (.ptr (.agg [.lit (.string [105, 110, 118, 97, 108, 105, 100])]))
def laid_loop_example_g01301_impl_errRange {H : Type} : DataW H := .iface "*errors.errorString" (.ptr (.agg [.lit (.string [114, 97, 110, 103, 101])]))
def laid_loop_example_g01301_impl_errLimit {H : Type} : DataW H := .iface "*errors.errorString" (.ptr (.agg [.lit (.string [108, 105, 109, 105, 116])]))
def laid_loop_example_g01301_impl_errState {H : Type} : DataW H := .iface "*errors.errorString" (.ptr (.agg [.lit (.string [115, 116, 97, 116, 101])]))
def laid_loop_example_g01301_impl_errSyntax {H : Type} : DataW H := .iface "*errors.errorString" (.ptr (.agg [.lit (.string [115, 121, 110, 116, 97, 120])]))
def laid_loop_example_g01301_impl_errNotFound {H : Type} : DataW H := .iface "*errors.errorString" (.ptr (.agg [.lit (.string [110, 111, 116, 102, 111, 117, 110, 100])]))
def laid_loop_example_g01301_impl_stopTimes {H : Type} : DataW H := .agg [.lit (.int .i64 1000), .lit (.int .i64 1260), .lit (.int .i64 1587)]
def laid_errors_errorType {H : Type} : DataW H := .iface "internal/reflectlite.rtype" (.agg [.ptr (.lit (.string [101, 114, 114, 111, 114]))])

/-- 'laws.FnExactLeastReplenished': WHATEVER THE INPUT: true; the input reads as it did. -/
def fnExactLeastReplenishedSpec : ChangeSpec := { name := "fnExactLeastReplenished", vars := ["loop.example/g01301/impl.errLimit", "loop.example/g01301/impl.errRange", "loop.example/g01301/impl.errInvalid", "loop.example/g01301/impl.errState", "loop.example/g01301/impl.errNotFound", "loop.example/g01301/impl.stopTimes", "loop.example/g01301/impl.errSyntax"], fn := fun _ => fun
  | [d1, d2, d3, d4, g1, g2, g3, g4, g5, g6, g7] => { results := [.lit (.bool true)], args := [d1, d2, d3, d4], vars := [g1, g2, g3, g4, g5, g6, g7] }
  | _ => none }
def fnExactLeastReplenishedRow : OpenClaim := { program := "ytdjipllfjmociaadoor", sum := "09990679c848eadf321ade801ddf1ec6a137a083121e162374190dc723524e0f", func := "loop.example/g01301/laws.FnExactLeastReplenished", spec := "fnExactLeastReplenished", inPlace := ["internal/reflectlite.TypeOf"], unfollowed := true, recurses := true, named := ["loop.example/g01301/impl.errLimit", "loop.example/g01301/impl.errRange", "loop.example/g01301/impl.errInvalid", "loop.example/g01301/impl.errState", "loop.example/g01301/impl.errNotFound", "loop.example/g01301/impl.stopTimes", "loop.example/g01301/impl.errSyntax"], ifaces := true, apart := false, laid := [("loop.example/g01301/impl.errInvalid", laid_loop_example_g01301_impl_errInvalid), ("loop.example/g01301/impl.errRange", laid_loop_example_g01301_impl_errRange), ("loop.example/g01301/impl.errLimit", laid_loop_example_g01301_impl_errLimit), ("loop.example/g01301/impl.errState", laid_loop_example_g01301_impl_errState), ("loop.example/g01301/impl.errSyntax", laid_loop_example_g01301_impl_errSyntax), ("loop.example/g01301/impl.errNotFound", laid_loop_example_g01301_impl_errNotFound), ("loop.example/g01301/impl.stopTimes", laid_loop_example_g01301_impl_stopTimes)] }
def FnExactLeastReplenishedSaid : Prop := fnExactLeastReplenishedRow.holds Tryd.pinned (OpenSpec.ofChange fnExactLeastReplenishedSpec)

/-- ITS FALSE NEIGHBOUR: 'it returns false'. Refute it at one input. -/
def fnExactLeastReplenishedWrong : ChangeSpec := { name := "fnExactLeastReplenished", vars := ["loop.example/g01301/impl.errLimit", "loop.example/g01301/impl.errRange", "loop.example/g01301/impl.errInvalid", "loop.example/g01301/impl.errState", "loop.example/g01301/impl.errNotFound", "loop.example/g01301/impl.stopTimes", "loop.example/g01301/impl.errSyntax"], fn := fun _ => fun
  | [d1, d2, d3, d4, g1, g2, g3, g4, g5, g6, g7] => { results := [.lit (.bool false)], args := [d1, d2, d3, d4], vars := [g1, g2, g3, g4, g5, g6, g7] }
  | _ => none }
def FnExactLeastReplenishedWrongFalsely : Prop := fnExactLeastReplenishedRow.holds Tryd.pinned (OpenSpec.ofChange fnExactLeastReplenishedWrong)

/-- 'laws.FnExactSheetsFrom': WHATEVER THE INPUT: true; the input reads as it did. -/
def fnExactSheetsFromSpec : ChangeSpec := { name := "fnExactSheetsFrom", vars := ["loop.example/g01301/impl.errLimit", "loop.example/g01301/impl.errRange", "loop.example/g01301/impl.errInvalid", "loop.example/g01301/impl.errState", "loop.example/g01301/impl.errNotFound", "loop.example/g01301/impl.stopTimes", "loop.example/g01301/impl.errSyntax"], fn := fun _ => fun
  | [d1, d2, d3, d4, g1, g2, g3, g4, g5, g6, g7] => { results := [.lit (.bool true)], args := [d1, d2, d3, d4], vars := [g1, g2, g3, g4, g5, g6, g7] }
  | _ => none }
def fnExactSheetsFromRow : OpenClaim := { program := "ytdjipllfjmociaadoor", sum := "09990679c848eadf321ade801ddf1ec6a137a083121e162374190dc723524e0f", func := "loop.example/g01301/laws.FnExactSheetsFrom", spec := "fnExactSheetsFrom", inPlace := ["internal/reflectlite.TypeOf"], unfollowed := true, recurses := true, named := ["loop.example/g01301/impl.errLimit", "loop.example/g01301/impl.errRange", "loop.example/g01301/impl.errInvalid", "loop.example/g01301/impl.errState", "loop.example/g01301/impl.errNotFound", "loop.example/g01301/impl.stopTimes", "loop.example/g01301/impl.errSyntax"], ifaces := true, apart := false, laid := [("loop.example/g01301/impl.errInvalid", laid_loop_example_g01301_impl_errInvalid), ("loop.example/g01301/impl.errRange", laid_loop_example_g01301_impl_errRange), ("loop.example/g01301/impl.errLimit", laid_loop_example_g01301_impl_errLimit), ("loop.example/g01301/impl.errState", laid_loop_example_g01301_impl_errState), ("loop.example/g01301/impl.errSyntax", laid_loop_example_g01301_impl_errSyntax), ("loop.example/g01301/impl.errNotFound", laid_loop_example_g01301_impl_errNotFound), ("loop.example/g01301/impl.stopTimes", laid_loop_example_g01301_impl_stopTimes)] }
def FnExactSheetsFromSaid : Prop := fnExactSheetsFromRow.holds Tryd.pinned (OpenSpec.ofChange fnExactSheetsFromSpec)

/-- ITS FALSE NEIGHBOUR: 'it returns false'. Refute it at one input. -/
def fnExactSheetsFromWrong : ChangeSpec := { name := "fnExactSheetsFrom", vars := ["loop.example/g01301/impl.errLimit", "loop.example/g01301/impl.errRange", "loop.example/g01301/impl.errInvalid", "loop.example/g01301/impl.errState", "loop.example/g01301/impl.errNotFound", "loop.example/g01301/impl.stopTimes", "loop.example/g01301/impl.errSyntax"], fn := fun _ => fun
  | [d1, d2, d3, d4, g1, g2, g3, g4, g5, g6, g7] => { results := [.lit (.bool false)], args := [d1, d2, d3, d4], vars := [g1, g2, g3, g4, g5, g6, g7] }
  | _ => none }
def FnExactSheetsFromWrongFalsely : Prop := fnExactSheetsFromRow.holds Tryd.pinned (OpenSpec.ofChange fnExactSheetsFromWrong)

/-- 'laws.FnExactDoActs': WHATEVER THE INPUT: true; the input reads as it did. -/
def fnExactDoActsSpec : ChangeSpec := { name := "fnExactDoActs", vars := ["loop.example/g01301/impl.errInvalid", "loop.example/g01301/impl.errLimit", "loop.example/g01301/impl.errRange", "loop.example/g01301/impl.errState", "loop.example/g01301/impl.errNotFound", "loop.example/g01301/impl.stopTimes", "loop.example/g01301/impl.errSyntax"], fn := fun _ => fun
  | [d1, d2, d3, g1, g2, g3, g4, g5, g6, g7] => { results := [.lit (.bool true)], args := [d1, d2, d3], vars := [g1, g2, g3, g4, g5, g6, g7] }
  | _ => none }
def fnExactDoActsRow : OpenClaim := { program := "ytdjipllfjmociaadoor", sum := "09990679c848eadf321ade801ddf1ec6a137a083121e162374190dc723524e0f", func := "loop.example/g01301/laws.FnExactDoActs", spec := "fnExactDoActs", inPlace := ["internal/reflectlite.TypeOf"], unfollowed := true, recurses := true, named := ["loop.example/g01301/impl.errInvalid", "loop.example/g01301/impl.errLimit", "loop.example/g01301/impl.errRange", "loop.example/g01301/impl.errState", "loop.example/g01301/impl.errNotFound", "loop.example/g01301/impl.stopTimes", "loop.example/g01301/impl.errSyntax"], ifaces := true, apart := false, laid := [("loop.example/g01301/impl.errInvalid", laid_loop_example_g01301_impl_errInvalid), ("loop.example/g01301/impl.errRange", laid_loop_example_g01301_impl_errRange), ("loop.example/g01301/impl.errLimit", laid_loop_example_g01301_impl_errLimit), ("loop.example/g01301/impl.errState", laid_loop_example_g01301_impl_errState), ("loop.example/g01301/impl.errSyntax", laid_loop_example_g01301_impl_errSyntax), ("loop.example/g01301/impl.errNotFound", laid_loop_example_g01301_impl_errNotFound), ("loop.example/g01301/impl.stopTimes", laid_loop_example_g01301_impl_stopTimes)] }
def FnExactDoActsSaid : Prop := fnExactDoActsRow.holds Tryd.pinned (OpenSpec.ofChange fnExactDoActsSpec)

/-- ITS FALSE NEIGHBOUR: 'it returns false'. Refute it at one input. -/
def fnExactDoActsWrong : ChangeSpec := { name := "fnExactDoActs", vars := ["loop.example/g01301/impl.errInvalid", "loop.example/g01301/impl.errLimit", "loop.example/g01301/impl.errRange", "loop.example/g01301/impl.errState", "loop.example/g01301/impl.errNotFound", "loop.example/g01301/impl.stopTimes", "loop.example/g01301/impl.errSyntax"], fn := fun _ => fun
  | [d1, d2, d3, g1, g2, g3, g4, g5, g6, g7] => { results := [.lit (.bool false)], args := [d1, d2, d3], vars := [g1, g2, g3, g4, g5, g6, g7] }
  | _ => none }
def FnExactDoActsWrongFalsely : Prop := fnExactDoActsRow.holds Tryd.pinned (OpenSpec.ofChange fnExactDoActsWrong)

/-- 'laws.FnExactFirstFailure': WHATEVER THE INPUT: true; the input reads as it did. -/
def fnExactFirstFailureSpec : ChangeSpec := { name := "fnExactFirstFailure", vars := ["loop.example/g01301/impl.errNotFound", "loop.example/g01301/impl.errInvalid", "loop.example/g01301/impl.errLimit", "loop.example/g01301/impl.errRange", "loop.example/g01301/impl.errState", "loop.example/g01301/impl.stopTimes", "loop.example/g01301/impl.errSyntax"], fn := fun _ => fun
  | [d1, d2, d3, g1, g2, g3, g4, g5, g6, g7] => { results := [.lit (.bool true)], args := [d1, d2, d3], vars := [g1, g2, g3, g4, g5, g6, g7] }
  | _ => none }
def fnExactFirstFailureRow : OpenClaim := { program := "ytdjipllfjmociaadoor", sum := "09990679c848eadf321ade801ddf1ec6a137a083121e162374190dc723524e0f", func := "loop.example/g01301/laws.FnExactFirstFailure", spec := "fnExactFirstFailure", inPlace := ["internal/reflectlite.ValueOf", "(internal/reflectlite.Value).Type", "(internal/reflectlite.Value).IsNil", "internal/reflectlite.TypeOf", "(internal/reflectlite.Value).Elem", "(internal/reflectlite.Value).Set"], unfollowed := true, recurses := true, named := ["loop.example/g01301/impl.errNotFound", "loop.example/g01301/impl.errInvalid", "loop.example/g01301/impl.errLimit", "loop.example/g01301/impl.errRange", "loop.example/g01301/impl.errState", "loop.example/g01301/impl.stopTimes", "errors.errorType", "loop.example/g01301/impl.errSyntax"], ifaces := true, apart := false, laid := [("errors.errorType", laid_errors_errorType), ("loop.example/g01301/impl.errInvalid", laid_loop_example_g01301_impl_errInvalid), ("loop.example/g01301/impl.errRange", laid_loop_example_g01301_impl_errRange), ("loop.example/g01301/impl.errLimit", laid_loop_example_g01301_impl_errLimit), ("loop.example/g01301/impl.errState", laid_loop_example_g01301_impl_errState), ("loop.example/g01301/impl.errSyntax", laid_loop_example_g01301_impl_errSyntax), ("loop.example/g01301/impl.errNotFound", laid_loop_example_g01301_impl_errNotFound), ("loop.example/g01301/impl.stopTimes", laid_loop_example_g01301_impl_stopTimes)] }
def FnExactFirstFailureSaid : Prop := fnExactFirstFailureRow.holds Tryd.pinned (OpenSpec.ofChange fnExactFirstFailureSpec)

/-- ITS FALSE NEIGHBOUR: 'it returns false'. Refute it at one input. -/
def fnExactFirstFailureWrong : ChangeSpec := { name := "fnExactFirstFailure", vars := ["loop.example/g01301/impl.errNotFound", "loop.example/g01301/impl.errInvalid", "loop.example/g01301/impl.errLimit", "loop.example/g01301/impl.errRange", "loop.example/g01301/impl.errState", "loop.example/g01301/impl.stopTimes", "loop.example/g01301/impl.errSyntax"], fn := fun _ => fun
  | [d1, d2, d3, g1, g2, g3, g4, g5, g6, g7] => { results := [.lit (.bool false)], args := [d1, d2, d3], vars := [g1, g2, g3, g4, g5, g6, g7] }
  | _ => none }
def FnExactFirstFailureWrongFalsely : Prop := fnExactFirstFailureRow.holds Tryd.pinned (OpenSpec.ofChange fnExactFirstFailureWrong)

/-- 'laws.FnBaths': WHATEVER THE INPUT: true; the input reads as it did. -/
def fnBathsSpec : ChangeSpec := { name := "fnBaths", vars := ["loop.example/g01301/impl.errInvalid", "loop.example/g01301/impl.errRange", "loop.example/g01301/impl.errLimit", "loop.example/g01301/impl.errState", "loop.example/g01301/impl.errSyntax", "loop.example/g01301/impl.errNotFound", "loop.example/g01301/impl.stopTimes"], fn := fun _ => fun
  | [d1, d2, g1, g2, g3, g4, g5, g6, g7] => { results := [.lit (.bool true)], args := [d1, d2], vars := [g1, g2, g3, g4, g5, g6, g7] }
  | _ => none }
def fnBathsRow : OpenClaim := { program := "ytdjipllfjmociaadoor", sum := "09990679c848eadf321ade801ddf1ec6a137a083121e162374190dc723524e0f", func := "loop.example/g01301/laws.FnBaths", spec := "fnBaths", inPlace := ["internal/reflectlite.TypeOf"], unfollowed := true, recurses := true, named := ["loop.example/g01301/impl.errInvalid", "loop.example/g01301/impl.errRange", "loop.example/g01301/impl.errLimit", "loop.example/g01301/impl.errState", "loop.example/g01301/impl.errSyntax", "loop.example/g01301/impl.errNotFound", "loop.example/g01301/impl.stopTimes"], ifaces := true, apart := false, laid := [("loop.example/g01301/impl.errInvalid", laid_loop_example_g01301_impl_errInvalid), ("loop.example/g01301/impl.errRange", laid_loop_example_g01301_impl_errRange), ("loop.example/g01301/impl.errLimit", laid_loop_example_g01301_impl_errLimit), ("loop.example/g01301/impl.errState", laid_loop_example_g01301_impl_errState), ("loop.example/g01301/impl.errSyntax", laid_loop_example_g01301_impl_errSyntax), ("loop.example/g01301/impl.errNotFound", laid_loop_example_g01301_impl_errNotFound), ("loop.example/g01301/impl.stopTimes", laid_loop_example_g01301_impl_stopTimes)] }
def FnBathsSaid : Prop := fnBathsRow.holds Tryd.pinned (OpenSpec.ofChange fnBathsSpec)

/-- ITS FALSE NEIGHBOUR: 'it returns false'. Refute it at one input. -/
def fnBathsWrong : ChangeSpec := { name := "fnBaths", vars := ["loop.example/g01301/impl.errInvalid", "loop.example/g01301/impl.errRange", "loop.example/g01301/impl.errLimit", "loop.example/g01301/impl.errState", "loop.example/g01301/impl.errSyntax", "loop.example/g01301/impl.errNotFound", "loop.example/g01301/impl.stopTimes"], fn := fun _ => fun
  | [d1, d2, g1, g2, g3, g4, g5, g6, g7] => { results := [.lit (.bool false)], args := [d1, d2], vars := [g1, g2, g3, g4, g5, g6, g7] }
  | _ => none }
def FnBathsWrongFalsely : Prop := fnBathsRow.holds Tryd.pinned (OpenSpec.ofChange fnBathsWrong)

/-- 'laws.FnReplenished': WHATEVER THE INPUT: true; the input reads as it did. -/
def fnReplenishedSpec : ChangeSpec := { name := "fnReplenished", vars := ["loop.example/g01301/impl.errRange", "loop.example/g01301/impl.errInvalid", "loop.example/g01301/impl.errNotFound", "loop.example/g01301/impl.errLimit", "loop.example/g01301/impl.errState", "loop.example/g01301/impl.errSyntax", "loop.example/g01301/impl.stopTimes"], fn := fun _ => fun
  | [d1, d2, g1, g2, g3, g4, g5, g6, g7] => { results := [.lit (.bool true)], args := [d1, d2], vars := [g1, g2, g3, g4, g5, g6, g7] }
  | _ => none }
def fnReplenishedRow : OpenClaim := { program := "ytdjipllfjmociaadoor", sum := "09990679c848eadf321ade801ddf1ec6a137a083121e162374190dc723524e0f", func := "loop.example/g01301/laws.FnReplenished", spec := "fnReplenished", inPlace := ["internal/reflectlite.TypeOf"], unfollowed := true, recurses := true, named := ["loop.example/g01301/impl.errRange", "loop.example/g01301/impl.errInvalid", "loop.example/g01301/impl.errNotFound", "loop.example/g01301/impl.errLimit", "loop.example/g01301/impl.errState", "loop.example/g01301/impl.errSyntax", "loop.example/g01301/impl.stopTimes"], ifaces := true, apart := false, laid := [("loop.example/g01301/impl.errInvalid", laid_loop_example_g01301_impl_errInvalid), ("loop.example/g01301/impl.errRange", laid_loop_example_g01301_impl_errRange), ("loop.example/g01301/impl.errLimit", laid_loop_example_g01301_impl_errLimit), ("loop.example/g01301/impl.errState", laid_loop_example_g01301_impl_errState), ("loop.example/g01301/impl.errSyntax", laid_loop_example_g01301_impl_errSyntax), ("loop.example/g01301/impl.errNotFound", laid_loop_example_g01301_impl_errNotFound), ("loop.example/g01301/impl.stopTimes", laid_loop_example_g01301_impl_stopTimes)] }
def FnReplenishedSaid : Prop := fnReplenishedRow.holds Tryd.pinned (OpenSpec.ofChange fnReplenishedSpec)

/-- ITS FALSE NEIGHBOUR: 'it returns false'. Refute it at one input. -/
def fnReplenishedWrong : ChangeSpec := { name := "fnReplenished", vars := ["loop.example/g01301/impl.errRange", "loop.example/g01301/impl.errInvalid", "loop.example/g01301/impl.errNotFound", "loop.example/g01301/impl.errLimit", "loop.example/g01301/impl.errState", "loop.example/g01301/impl.errSyntax", "loop.example/g01301/impl.stopTimes"], fn := fun _ => fun
  | [d1, d2, g1, g2, g3, g4, g5, g6, g7] => { results := [.lit (.bool false)], args := [d1, d2], vars := [g1, g2, g3, g4, g5, g6, g7] }
  | _ => none }
def FnReplenishedWrongFalsely : Prop := fnReplenishedRow.holds Tryd.pinned (OpenSpec.ofChange fnReplenishedWrong)

/- THE SECOND FORM. 'bulk': how many values and letters a reading holds, each counted each time it is reached (what is shared counts as often as it is met; a slice's spare places count too). A statement '..UptoSaid' is the law's where the arguments, and the package variables that the reading takes, are together of bulk at most 1048576: NARROWER than '..Said'. Prove '..Said' where nothing that the law and all that it calls make is longer than what came in: it says more and counts as full. Else prove '..UptoSaid'. A law counts once. -/
mutual
def uptoBulk {H : Type} : DataW H → Nat
  | .lit (.string bytes) => bytes.length + 1
  | .lit _ => 1
  | .nil => 1
  | .ptr d => uptoBulk d + 1
  | .slice elems spare => uptoBulkAll elems + uptoBulkAll spare + 1
  | .agg parts => uptoBulkAll parts + 1
  | .iface _ d => uptoBulk d + 1
  | .map entries => uptoBulkEntries entries + 1
  | .held _ => 1
def uptoBulkAll {H : Type} : List (DataW H) → Nat
  | [] => 0
  | d :: r => uptoBulk d + uptoBulkAll r
def uptoBulkEntries {H : Type} : List (Lit × DataW H) → Nat
  | [] => 0
  | x :: r => uptoBulkEntry x + uptoBulkEntries r
def uptoBulkEntry {H : Type} : Lit × DataW H → Nat
  | (.string bytes, d) => bytes.length + uptoBulk d + 1
  | (_, d) => uptoBulk d + 1
 end
def uptoSmall : (H : Type) → List (DataW H) → Bool := fun _ ds => decide (uptoBulkAll ds ≤ 1048576)
def OpenSpec.upto (s : _root_.Go.ChangeSpec) : _root_.Go.OpenSpec := { _root_.Go.OpenSpec.ofChange s with cond := some uptoSmall }

/-- 'laws.FnExactLeastReplenished', WHERE WHAT IT READS IS OF BULK AT MOST 1048576: true; the input reads as it did. -/
def fnExactLeastReplenishedUptoRow : OpenClaim := { program := "ytdjipllfjmociaadoor", sum := "09990679c848eadf321ade801ddf1ec6a137a083121e162374190dc723524e0f", func := "loop.example/g01301/laws.FnExactLeastReplenished", spec := "fnExactLeastReplenished", inPlace := ["internal/reflectlite.TypeOf"], unfollowed := true, recurses := true, named := ["loop.example/g01301/impl.errLimit", "loop.example/g01301/impl.errRange", "loop.example/g01301/impl.errInvalid", "loop.example/g01301/impl.errState", "loop.example/g01301/impl.errNotFound", "loop.example/g01301/impl.stopTimes", "loop.example/g01301/impl.errSyntax"], ifaces := true, apart := false, laid := [("loop.example/g01301/impl.errInvalid", laid_loop_example_g01301_impl_errInvalid), ("loop.example/g01301/impl.errRange", laid_loop_example_g01301_impl_errRange), ("loop.example/g01301/impl.errLimit", laid_loop_example_g01301_impl_errLimit), ("loop.example/g01301/impl.errState", laid_loop_example_g01301_impl_errState), ("loop.example/g01301/impl.errSyntax", laid_loop_example_g01301_impl_errSyntax), ("loop.example/g01301/impl.errNotFound", laid_loop_example_g01301_impl_errNotFound), ("loop.example/g01301/impl.stopTimes", laid_loop_example_g01301_impl_stopTimes)], narrowed := true }
def FnExactLeastReplenishedUptoSaid : Prop := fnExactLeastReplenishedUptoRow.holds Tryd.pinned (OpenSpec.upto fnExactLeastReplenishedSpec)

/-- 'laws.FnExactSheetsFrom', WHERE WHAT IT READS IS OF BULK AT MOST 1048576: true; the input reads as it did. -/
def fnExactSheetsFromUptoRow : OpenClaim := { program := "ytdjipllfjmociaadoor", sum := "09990679c848eadf321ade801ddf1ec6a137a083121e162374190dc723524e0f", func := "loop.example/g01301/laws.FnExactSheetsFrom", spec := "fnExactSheetsFrom", inPlace := ["internal/reflectlite.TypeOf"], unfollowed := true, recurses := true, named := ["loop.example/g01301/impl.errLimit", "loop.example/g01301/impl.errRange", "loop.example/g01301/impl.errInvalid", "loop.example/g01301/impl.errState", "loop.example/g01301/impl.errNotFound", "loop.example/g01301/impl.stopTimes", "loop.example/g01301/impl.errSyntax"], ifaces := true, apart := false, laid := [("loop.example/g01301/impl.errInvalid", laid_loop_example_g01301_impl_errInvalid), ("loop.example/g01301/impl.errRange", laid_loop_example_g01301_impl_errRange), ("loop.example/g01301/impl.errLimit", laid_loop_example_g01301_impl_errLimit), ("loop.example/g01301/impl.errState", laid_loop_example_g01301_impl_errState), ("loop.example/g01301/impl.errSyntax", laid_loop_example_g01301_impl_errSyntax), ("loop.example/g01301/impl.errNotFound", laid_loop_example_g01301_impl_errNotFound), ("loop.example/g01301/impl.stopTimes", laid_loop_example_g01301_impl_stopTimes)], narrowed := true }
def FnExactSheetsFromUptoSaid : Prop := fnExactSheetsFromUptoRow.holds Tryd.pinned (OpenSpec.upto fnExactSheetsFromSpec)

/-- 'laws.FnExactDoActs', WHERE WHAT IT READS IS OF BULK AT MOST 1048576: true; the input reads as it did. -/
def fnExactDoActsUptoRow : OpenClaim := { program := "ytdjipllfjmociaadoor", sum := "09990679c848eadf321ade801ddf1ec6a137a083121e162374190dc723524e0f", func := "loop.example/g01301/laws.FnExactDoActs", spec := "fnExactDoActs", inPlace := ["internal/reflectlite.TypeOf"], unfollowed := true, recurses := true, named := ["loop.example/g01301/impl.errInvalid", "loop.example/g01301/impl.errLimit", "loop.example/g01301/impl.errRange", "loop.example/g01301/impl.errState", "loop.example/g01301/impl.errNotFound", "loop.example/g01301/impl.stopTimes", "loop.example/g01301/impl.errSyntax"], ifaces := true, apart := false, laid := [("loop.example/g01301/impl.errInvalid", laid_loop_example_g01301_impl_errInvalid), ("loop.example/g01301/impl.errRange", laid_loop_example_g01301_impl_errRange), ("loop.example/g01301/impl.errLimit", laid_loop_example_g01301_impl_errLimit), ("loop.example/g01301/impl.errState", laid_loop_example_g01301_impl_errState), ("loop.example/g01301/impl.errSyntax", laid_loop_example_g01301_impl_errSyntax), ("loop.example/g01301/impl.errNotFound", laid_loop_example_g01301_impl_errNotFound), ("loop.example/g01301/impl.stopTimes", laid_loop_example_g01301_impl_stopTimes)], narrowed := true }
def FnExactDoActsUptoSaid : Prop := fnExactDoActsUptoRow.holds Tryd.pinned (OpenSpec.upto fnExactDoActsSpec)

/-- 'laws.FnExactFirstFailure', WHERE WHAT IT READS IS OF BULK AT MOST 1048576: true; the input reads as it did. -/
def fnExactFirstFailureUptoRow : OpenClaim := { program := "ytdjipllfjmociaadoor", sum := "09990679c848eadf321ade801ddf1ec6a137a083121e162374190dc723524e0f", func := "loop.example/g01301/laws.FnExactFirstFailure", spec := "fnExactFirstFailure", inPlace := ["internal/reflectlite.ValueOf", "(internal/reflectlite.Value).Type", "(internal/reflectlite.Value).IsNil", "internal/reflectlite.TypeOf", "(internal/reflectlite.Value).Elem", "(internal/reflectlite.Value).Set"], unfollowed := true, recurses := true, named := ["loop.example/g01301/impl.errNotFound", "loop.example/g01301/impl.errInvalid", "loop.example/g01301/impl.errLimit", "loop.example/g01301/impl.errRange", "loop.example/g01301/impl.errState", "loop.example/g01301/impl.stopTimes", "errors.errorType", "loop.example/g01301/impl.errSyntax"], ifaces := true, apart := false, laid := [("errors.errorType", laid_errors_errorType), ("loop.example/g01301/impl.errInvalid", laid_loop_example_g01301_impl_errInvalid), ("loop.example/g01301/impl.errRange", laid_loop_example_g01301_impl_errRange), ("loop.example/g01301/impl.errLimit", laid_loop_example_g01301_impl_errLimit), ("loop.example/g01301/impl.errState", laid_loop_example_g01301_impl_errState), ("loop.example/g01301/impl.errSyntax", laid_loop_example_g01301_impl_errSyntax), ("loop.example/g01301/impl.errNotFound", laid_loop_example_g01301_impl_errNotFound), ("loop.example/g01301/impl.stopTimes", laid_loop_example_g01301_impl_stopTimes)], narrowed := true }
def FnExactFirstFailureUptoSaid : Prop := fnExactFirstFailureUptoRow.holds Tryd.pinned (OpenSpec.upto fnExactFirstFailureSpec)

/-- 'laws.FnBaths', WHERE WHAT IT READS IS OF BULK AT MOST 1048576: true; the input reads as it did. -/
def fnBathsUptoRow : OpenClaim := { program := "ytdjipllfjmociaadoor", sum := "09990679c848eadf321ade801ddf1ec6a137a083121e162374190dc723524e0f", func := "loop.example/g01301/laws.FnBaths", spec := "fnBaths", inPlace := ["internal/reflectlite.TypeOf"], unfollowed := true, recurses := true, named := ["loop.example/g01301/impl.errInvalid", "loop.example/g01301/impl.errRange", "loop.example/g01301/impl.errLimit", "loop.example/g01301/impl.errState", "loop.example/g01301/impl.errSyntax", "loop.example/g01301/impl.errNotFound", "loop.example/g01301/impl.stopTimes"], ifaces := true, apart := false, laid := [("loop.example/g01301/impl.errInvalid", laid_loop_example_g01301_impl_errInvalid), ("loop.example/g01301/impl.errRange", laid_loop_example_g01301_impl_errRange), ("loop.example/g01301/impl.errLimit", laid_loop_example_g01301_impl_errLimit), ("loop.example/g01301/impl.errState", laid_loop_example_g01301_impl_errState), ("loop.example/g01301/impl.errSyntax", laid_loop_example_g01301_impl_errSyntax), ("loop.example/g01301/impl.errNotFound", laid_loop_example_g01301_impl_errNotFound), ("loop.example/g01301/impl.stopTimes", laid_loop_example_g01301_impl_stopTimes)], narrowed := true }
def FnBathsUptoSaid : Prop := fnBathsUptoRow.holds Tryd.pinned (OpenSpec.upto fnBathsSpec)

/-- 'laws.FnReplenished', WHERE WHAT IT READS IS OF BULK AT MOST 1048576: true; the input reads as it did. -/
def fnReplenishedUptoRow : OpenClaim := { program := "ytdjipllfjmociaadoor", sum := "09990679c848eadf321ade801ddf1ec6a137a083121e162374190dc723524e0f", func := "loop.example/g01301/laws.FnReplenished", spec := "fnReplenished", inPlace := ["internal/reflectlite.TypeOf"], unfollowed := true, recurses := true, named := ["loop.example/g01301/impl.errRange", "loop.example/g01301/impl.errInvalid", "loop.example/g01301/impl.errNotFound", "loop.example/g01301/impl.errLimit", "loop.example/g01301/impl.errState", "loop.example/g01301/impl.errSyntax", "loop.example/g01301/impl.stopTimes"], ifaces := true, apart := false, laid := [("loop.example/g01301/impl.errInvalid", laid_loop_example_g01301_impl_errInvalid), ("loop.example/g01301/impl.errRange", laid_loop_example_g01301_impl_errRange), ("loop.example/g01301/impl.errLimit", laid_loop_example_g01301_impl_errLimit), ("loop.example/g01301/impl.errState", laid_loop_example_g01301_impl_errState), ("loop.example/g01301/impl.errSyntax", laid_loop_example_g01301_impl_errSyntax), ("loop.example/g01301/impl.errNotFound", laid_loop_example_g01301_impl_errNotFound), ("loop.example/g01301/impl.stopTimes", laid_loop_example_g01301_impl_stopTimes)], narrowed := true }
def FnReplenishedUptoSaid : Prop := fnReplenishedUptoRow.holds Tryd.pinned (OpenSpec.upto fnReplenishedSpec)

end Rows
end Go.Proofs.YtdjipllfjmociaaDoor

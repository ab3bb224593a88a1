/-
  NARROWER THAN 'FOR EVERY INPUT', by the rows' own cells (each row's printed sentence says how): FnExactSwapFrames: ifaces, laid · FnExactDropFrame: ifaces, laid · FnExactPickFrames: ifaces, laid.
  DERIVED. THE GIVEN ROWS OF THIS SEAT. 3 by the template 'for every input the law returns true; each argument reads behind the call as it read before'; 0 by the template 'total and deterministic' (their statements: YtfjjbmiocomelaaDoorTotals.lean).
  GIVEN WITH THE SEED: the statements are not yours to turn. If you find one false, say at which input.
  Laid BY PROGRAM, IN A SANDBOX (cutbox-rows.mjs): the forced cells as the released guide's own fill.sh prints them over the translation cf90f61d933823ba… (all of the seat's roots in one cut). By AI agents, Wed Nov 11 2026. No macro, syntax, notation, axiom, sorry.
-/
import Derived.Test.YtfjjbmiocomelaaDoorChecked
import GoSem.Claim
import GoSem.ClaimJoined
import GoSem.ClaimMapViews
import Derived.JoinedTies
import Derived.KernelRfl
namespace Go.Proofs.YtfjjbmiocomelaaDoor
/- THE CELL 'sum', in the pinned program and in every row, IS THE sha256 OF THE DUMP (.gsa) THAT YtfjjbmiocomelaaDoorProg.lean LOADS. Nothing in Lean hashes anything: it is a label: what it is worth is what the hold of that sum in a sandbox is worth. -/
noncomputable def Tryd.pinned : Pinned := { name := "ytfjjbmiocomelaadoor", sum := "cf90f61d933823ba371fd4bcc120cddd5c9b902b9644f25dc87b00ae1082e3eb", checked := Tryd.checked }
namespace Rows
def none {H : Type} : Left H := { results := [], args := [] }

/- WHAT THE LISTED PACKAGE-LEVEL VARIABLES READ AS WHEN THE CALL BEGINS. Each datum BY PROGRAM (the guide's laid-datum.mjs) off the statement by which the dump's own 'gosem.cut.vars' lays the variable. In a bare row this is a premise. The card (YtfjjbmiocomelaaDoorCards.lean) ties it to the program's text. -/
def laid_loop_example_g01301_impl_errInvalid {H : Type} : DataW H := .iface "*errors.errorString" (.ptr (.agg [.lit (.string [105, 110, 118, 97, 108, 105, 100])]))
def laid_loop_example_g01301_impl_errRange {H : Type} : DataW H := .iface "*errors.errorString" (.ptr (.agg [.lit (.string [114, 97, 110, 103, 101])]))
def laid_loop_example_g01301_impl_errLimit {H : Type} : DataW H := .iface "*errors.errorString" (.ptr (.agg [.lit (.string [108, 105, 109, 105, 116])]))
def laid_loop_example_g01301_impl_errState {H : Type} : DataW H := .iface "*errors.errorString" (.ptr (.agg [.lit (.string [115, 116, 97, 116, 101])]))
def laid_loop_example_g01301_impl_errSyntax {H : Type} : DataW H := .iface "*errors.errorString" (.ptr (.agg [.lit (.string [115, 121, 110, 116, 97, 120])]))
def laid_loop_example_g01301_impl_errNotFound {H : Type} : DataW H := .iface "*errors.errorString" (.ptr (.agg [.lit (.string [110, 111, 116, 102, 111, 117, 110, 100])]))

/-- 'laws.FnExactSwapFrames': WHATEVER THE INPUT: true; the input reads as it did. -/
def fnExactSwapFramesSpec : ChangeSpec := { name := "fnExactSwapFrames", vars := ["loop.example/g01301/impl.errInvalid", "loop.example/g01301/impl.errRange", "loop.example/g01301/impl.errLimit", "loop.example/g01301/impl.errState", "loop.example/g01301/impl.errSyntax", "loop.example/g01301/impl.errNotFound"], fn := fun _ => fun
  | [d1, d2, d3, g1, g2, g3, g4, g5, g6] => { results := [.lit (.bool true)], args := [d1, d2, d3], vars := [g1, g2, g3, g4, g5, g6] }
  | _ => none }
def fnExactSwapFramesRow : OpenClaim := { program := "ytfjjbmiocomelaadoor", sum := "cf90f61d933823ba371fd4bcc120cddd5c9b902b9644f25dc87b00ae1082e3eb", func := "loop.example/g01301/laws.FnExactSwapFrames", spec := "fnExactSwapFrames", inPlace := ["internal/reflectlite.TypeOf"], unfollowed := true, recurses := true, named := ["loop.example/g01301/impl.errInvalid", "loop.example/g01301/impl.errRange", "loop.example/g01301/impl.errLimit", "loop.example/g01301/impl.errState", "loop.example/g01301/impl.errSyntax", "loop.example/g01301/impl.errNotFound"], ifaces := true, apart := false, laid := [("loop.example/g01301/impl.errInvalid", laid_loop_example_g01301_impl_errInvalid), ("loop.example/g01301/impl.errRange", laid_loop_example_g01301_impl_errRange), ("loop.example/g01301/impl.errLimit", laid_loop_example_g01301_impl_errLimit), ("loop.example/g01301/impl.errState", laid_loop_example_g01301_impl_errState), ("loop.example/g01301/impl.errSyntax", laid_loop_example_g01301_impl_errSyntax), ("loop.example/g01301/impl.errNotFound", laid_loop_example_g01301_impl_errNotFound)] }
def FnExactSwapFramesSaid : Prop := fnExactSwapFramesRow.holds Tryd.pinned (OpenSpec.ofChange fnExactSwapFramesSpec)

/-- ITS FALSE NEIGHBOUR: 'it returns false'. Refute it at one input. -/
def fnExactSwapFramesWrong : ChangeSpec := { name := "fnExactSwapFrames", vars := ["loop.example/g01301/impl.errInvalid", "loop.example/g01301/impl.errRange", "loop.example/g01301/impl.errLimit", "loop.example/g01301/impl.errState", "loop.example/g01301/impl.errSyntax", "loop.example/g01301/impl.errNotFound"], fn := fun _ => fun
  | [d1, d2, d3, g1, g2, g3, g4, g5, g6] => { results := [.lit (.bool false)], args := [d1, d2, d3], vars := [g1, g2, g3, g4, g5, g6] }
  | _ => none }
def FnExactSwapFramesWrongFalsely : Prop := fnExactSwapFramesRow.holds Tryd.pinned (OpenSpec.ofChange fnExactSwapFramesWrong)

/-- 'laws.FnExactDropFrame': WHATEVER THE INPUT: true; the input reads as it did. -/
def fnExactDropFrameSpec : ChangeSpec := { name := "fnExactDropFrame", vars := ["loop.example/g01301/impl.errInvalid", "loop.example/g01301/impl.errRange", "loop.example/g01301/impl.errLimit", "loop.example/g01301/impl.errState", "loop.example/g01301/impl.errSyntax", "loop.example/g01301/impl.errNotFound"], fn := fun _ => fun
  | [d1, d2, g1, g2, g3, g4, g5, g6] => { results := [.lit (.bool true)], args := [d1, d2], vars := [g1, g2, g3, g4, g5, g6] }
  | _ => none }
def fnExactDropFrameRow : OpenClaim := { program := "ytfjjbmiocomelaadoor", sum := "cf90f61d933823ba371fd4bcc120cddd5c9b902b9644f25dc87b00ae1082e3eb", func := "loop.example/g01301/laws.FnExactDropFrame", spec := "fnExactDropFrame", inPlace := ["internal/reflectlite.TypeOf"], unfollowed := true, recurses := true, named := ["loop.example/g01301/impl.errInvalid", "loop.example/g01301/impl.errRange", "loop.example/g01301/impl.errLimit", "loop.example/g01301/impl.errState", "loop.example/g01301/impl.errSyntax", "loop.example/g01301/impl.errNotFound"], ifaces := true, apart := false, laid := [("loop.example/g01301/impl.errInvalid", laid_loop_example_g01301_impl_errInvalid), ("loop.example/g01301/impl.errRange", laid_loop_example_g01301_impl_errRange), ("loop.example/g01301/impl.errLimit", laid_loop_example_g01301_impl_errLimit), ("loop.example/g01301/impl.errState", laid_loop_example_g01301_impl_errState), ("loop.example/g01301/impl.errSyntax", laid_loop_example_g01301_impl_errSyntax), ("loop.example/g01301/impl.errNotFound", laid_loop_example_g01301_impl_errNotFound)] }
def FnExactDropFrameSaid : Prop := fnExactDropFrameRow.holds Tryd.pinned (OpenSpec.ofChange fnExactDropFrameSpec)

/-- ITS FALSE NEIGHBOUR: 'it returns false'. Refute it at one input. -/
def fnExactDropFrameWrong : ChangeSpec := { name := "fnExactDropFrame", vars := ["loop.example/g01301/impl.errInvalid", "loop.example/g01301/impl.errRange", "loop.example/g01301/impl.errLimit", "loop.example/g01301/impl.errState", "loop.example/g01301/impl.errSyntax", "loop.example/g01301/impl.errNotFound"], fn := fun _ => fun
  | [d1, d2, g1, g2, g3, g4, g5, g6] => { results := [.lit (.bool false)], args := [d1, d2], vars := [g1, g2, g3, g4, g5, g6] }
  | _ => none }
def FnExactDropFrameWrongFalsely : Prop := fnExactDropFrameRow.holds Tryd.pinned (OpenSpec.ofChange fnExactDropFrameWrong)

/-- 'laws.FnExactPickFrames': WHATEVER THE INPUT: true; the input reads as it did. -/
def fnExactPickFramesSpec : ChangeSpec := { name := "fnExactPickFrames", vars := ["loop.example/g01301/impl.errLimit", "loop.example/g01301/impl.errInvalid", "loop.example/g01301/impl.errRange", "loop.example/g01301/impl.errState", "loop.example/g01301/impl.errSyntax", "loop.example/g01301/impl.errNotFound"], fn := fun _ => fun
  | [d1, d2, g1, g2, g3, g4, g5, g6] => { results := [.lit (.bool true)], args := [d1, d2], vars := [g1, g2, g3, g4, g5, g6] }
  | _ => none }
def fnExactPickFramesRow : OpenClaim := { program := "ytfjjbmiocomelaadoor", sum := "cf90f61d933823ba371fd4bcc120cddd5c9b902b9644f25dc87b00ae1082e3eb", func := "loop.example/g01301/laws.FnExactPickFrames", spec := "fnExactPickFrames", inPlace := ["internal/reflectlite.TypeOf"], unfollowed := true, recurses := true, named := ["loop.example/g01301/impl.errLimit", "loop.example/g01301/impl.errInvalid", "loop.example/g01301/impl.errRange", "loop.example/g01301/impl.errState", "loop.example/g01301/impl.errSyntax", "loop.example/g01301/impl.errNotFound"], ifaces := true, apart := false, laid := [("loop.example/g01301/impl.errInvalid", laid_loop_example_g01301_impl_errInvalid), ("loop.example/g01301/impl.errRange", laid_loop_example_g01301_impl_errRange), ("loop.example/g01301/impl.errLimit", laid_loop_example_g01301_impl_errLimit), ("loop.example/g01301/impl.errState", laid_loop_example_g01301_impl_errState), ("loop.example/g01301/impl.errSyntax", laid_loop_example_g01301_impl_errSyntax), ("loop.example/g01301/impl.errNotFound", laid_loop_example_g01301_impl_errNotFound)] }
def FnExactPickFramesSaid : Prop := fnExactPickFramesRow.holds Tryd.pinned (OpenSpec.ofChange fnExactPickFramesSpec)

/-- ITS FALSE NEIGHBOUR: 'it returns false'. Refute it at one input. -/
def fnExactPickFramesWrong : ChangeSpec := { name := "fnExactPickFrames", vars := ["loop.example/g01301/impl.errLimit", "loop.example/g01301/impl.errInvalid", "loop.example/g01301/impl.errRange", "loop.example/g01301/impl.errState", "loop.example/g01301/impl.errSyntax", "loop.example/g01301/impl.errNotFound"], fn := fun _ => fun
  | [d1, d2, g1, g2, g3, g4, g5, g6] => { results := [.lit (.bool false)], args := [d1, d2], vars := [g1, g2, g3, g4, g5, g6] }
  | _ => none }
def FnExactPickFramesWrongFalsely : Prop := fnExactPickFramesRow.holds Tryd.pinned (OpenSpec.ofChange fnExactPickFramesWrong)

/- THE SECOND FORM. 'bulk': how many values and letters a reading holds, each counted each time it is reached (what is shared counts as often as it is met; a slice's spare places count too). A statement '..UptoSaid' is the law's where the arguments, and the package variables that the reading takes, are together of bulk at most 1048576: NARROWER than '..Said'. Prove '..Said' where nothing that the law and all that it calls make is longer than what came in: it says more and counts as full. Else prove '..UptoSaid'. A law counts once. -/
mutual
def uptoBulk {H : Type} : DataW H → Nat
  | .lit (.string bytes) => bytes.length + 1
  | .lit _ => 1
  | .nil => 1
  | .ptr d => uptoBulk d + 1
  | .slice elems spare => uptoBulkAll elems + uptoBulkAll spare + 1
  | .agg parts => uptoBulkAll parts + 1
  | .iface _ d => uptoBulk d + 1
  | .map entries => uptoBulkEntries entries + 1
  | .held _ => 1
def uptoBulkAll {H : Type} : List (DataW H) → Nat
  | [] => 0
  | d :: r => uptoBulk d + uptoBulkAll r
def uptoBulkEntries {H : Type} : List (Lit × DataW H) → Nat
  | [] => 0
  | x :: r => uptoBulkEntry x + uptoBulkEntries r
def uptoBulkEntry {H : Type} : Lit × DataW H → Nat
  | (.string bytes, d) => bytes.length + uptoBulk d + 1
  | (_, d) => uptoBulk d + 1
 end
def uptoSmall : (H : Type) → List (DataW H) → Bool := fun _ ds => decide (uptoBulkAll ds ≤ 1048576)
def OpenSpec.upto (s : _root_.Go.ChangeSpec) : _root_.Go.OpenSpec := { _root_.Go.OpenSpec.ofChange s with cond := some uptoSmall }

/-- 'laws.FnExactSwapFrames', WHERE WHAT IT READS IS OF BULK AT MOST 1048576: true; the input reads as it did. -/
def fnExactSwapFramesUptoRow : OpenClaim := { program := "ytfjjbmiocomelaadoor", sum := "cf90f61d933823ba371fd4bcc120cddd5c9b902b9644f25dc87b00ae1082e3eb", func := "loop.example/g01301/laws.FnExactSwapFrames", spec := "fnExactSwapFrames", inPlace := ["internal/reflectlite.TypeOf"], unfollowed := true, recurses := true, named := ["loop.example/g01301/impl.errInvalid", "loop.example/g01301/impl.errRange", "loop.example/g01301/impl.errLimit", "loop.example/g01301/impl.errState", "loop.example/g01301/impl.errSyntax", "loop.example/g01301/impl.errNotFound"], ifaces := true, apart := false, laid := [("loop.example/g01301/impl.errInvalid", laid_loop_example_g01301_impl_errInvalid), ("loop.example/g01301/impl.errRange", laid_loop_example_g01301_impl_errRange), ("loop.example/g01301/impl.errLimit", laid_loop_example_g01301_impl_errLimit), ("loop.example/g01301/impl.errState", laid_loop_example_g01301_impl_errState), ("loop.example/g01301/impl.errSyntax", laid_loop_example_g01301_impl_errSyntax), ("loop.example/g01301/impl.errNotFound", laid_loop_example_g01301_impl_errNotFound)], narrowed := true }
def FnExactSwapFramesUptoSaid : Prop := fnExactSwapFramesUptoRow.holds Tryd.pinned (OpenSpec.upto fnExactSwapFramesSpec)

/-- 'laws.FnExactDropFrame', WHERE WHAT IT READS IS OF BULK AT MOST 1048576: true; the input reads as it did. -/
def fnExactDropFrameUptoRow : OpenClaim := { program := "ytfjjbmiocomelaadoor", sum := "cf90f61d933823ba371fd4bcc120cddd5c9b902b9644f25dc87b00ae1082e3eb", func := "loop.example/g01301/laws.FnExactDropFrame", spec := "fnExactDropFrame", inPlace := ["internal/reflectlite.TypeOf"], unfollowed := true, recurses := true, named := ["loop.example/g01301/impl.errInvalid", "loop.example/g01301/impl.errRange", "loop.example/g01301/impl.errLimit", "loop.example/g01301/impl.errState", "loop.example/g01301/impl.errSyntax", "loop.example/g01301/impl.errNotFound"], ifaces := true, apart := false, laid := [("loop.example/g01301/impl.errInvalid", laid_loop_example_g01301_impl_errInvalid), ("loop.example/g01301/impl.errRange", laid_loop_example_g01301_impl_errRange), ("loop.example/g01301/impl.errLimit", laid_loop_example_g01301_impl_errLimit), ("loop.example/g01301/impl.errState", laid_loop_example_g01301_impl_errState), ("loop.example/g01301/impl.errSyntax", laid_loop_example_g01301_impl_errSyntax), ("loop.example/g01301/impl.errNotFound", laid_loop_example_g01301_impl_errNotFound)], narrowed := true }
def FnExactDropFrameUptoSaid : Prop := fnExactDropFrameUptoRow.holds Tryd.pinned (OpenSpec.upto fnExactDropFrameSpec)

/-- 'laws.FnExactPickFrames', WHERE WHAT IT READS IS OF BULK AT MOST 1048576: true; the input reads as it did. -/
def fnExactPickFramesUptoRow : OpenClaim := { program := "ytfjjbmiocomelaadoor", sum := "cf90f61d933823ba371fd4bcc120cddd5c9b902b9644f25dc87b00ae1082e3eb", func := "loop.example/g01301/laws.FnExactPickFrames", spec := "fnExactPickFrames", inPlace := ["internal/reflectlite.TypeOf"], unfollowed := true, recurses := true, named := ["loop.example/g01301/impl.errLimit", "loop.example/g01301/impl.errInvalid", "loop.example/g01301/impl.errRange", "loop.example/g01301/impl.errState", "loop.example/g01301/impl.errSyntax", "loop.example/g01301/impl.errNotFound"], ifaces := true, apart := false, laid := [("loop.example/g01301/impl.errInvalid", laid_loop_example_g01301_impl_errInvalid), ("loop.example/g01301/impl.errRange", laid_loop_example_g01301_impl_errRange), ("loop.example/g01301/impl.errLimit", laid_loop_example_g01301_impl_errLimit), ("loop.example/g01301/impl.errState", laid_loop_example_g01301_impl_errState), ("loop.example/g01301/impl.errSyntax", laid_loop_example_g01301_impl_errSyntax), ("loop.example/g01301/impl.errNotFound", laid_loop_example_g01301_impl_errNotFound)], narrowed := true }
def FnExactPickFramesUptoSaid : Prop := fnExactPickFramesUptoRow.holds Tryd.pinned (OpenSpec.upto fnExactPickFramesSpec)

end Rows
end Go.Proofs.YtfjjbmiocomelaaDoor

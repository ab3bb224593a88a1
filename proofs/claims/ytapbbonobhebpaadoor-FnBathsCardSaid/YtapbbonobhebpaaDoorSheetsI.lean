/-
  Sheets without replenishing: what the program returns. Condition: its errors, and its table of times.
-/
import Derived.Test.YtapbbonobhebpaaDoorSheetsF
namespace Go.Proofs.YtapbbonobhebpaaDoor
open Go.RowKit

theorem errEqB (x : Addr) (w : World) : (binOp .eql 45 (errV x) .nilIface).run Tryd.prog w = .ok (.bool false) w := by kernel_rfl
theorem nilEqB (w : World) : (binOp .eql 45 .nilIface .nilIface).run Tryd.prog w = .ok (.bool true) w := by kernel_rfl

section
variable {p k b t v u a : Int}

end
end Go.Proofs.YtapbbonobhebpaaDoor

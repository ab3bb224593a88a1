/-
  The laws' own comparing, marking and asking of lists of numbers that a call handed back. Condition: at most 1048576 numbers.
-/
import Derived.Test.YtkmpfbjenddhjaaDoorOwn
import Derived.Test.YtkmpfbjenddhjaaDoorInts
namespace Go.Proofs.YtkmpfbjenddhjaaDoor
open Go.RowKit

end Go.Proofs.YtkmpfbjenddhjaaDoor

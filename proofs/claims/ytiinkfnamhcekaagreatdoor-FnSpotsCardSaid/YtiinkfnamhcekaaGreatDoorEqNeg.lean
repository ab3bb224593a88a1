/-
  The laws' own comparison of negatives and of prints, at the same numbers. No condition.
-/
import Derived.Test.YtiinkfnamhcekaaGreatDoorArrTools
namespace Go.Proofs.YtiinkfnamhcekaaGreatDoor
open Go.RowKit

end Go.Proofs.YtiinkfnamhcekaaGreatDoor

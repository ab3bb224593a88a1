/-
  The density at an exposure, by the reference. Condition: the points are a curve's.
-/
import Derived.Test.YtnlcjbobfhmnmabDoorShapeS
import Derived.Test.YtnlcjbobfhmnmabDoorPlainAt
namespace Go.Proofs.YtnlcjbobfhmnmabDoor
open Go.RowKit

end Go.Proofs.YtnlcjbobfhmnmabDoor

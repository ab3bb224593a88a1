/-
  The number of rounds of a repair: what both sides' functions return. Condition of the program's: its variables hold their own errors.
-/
import Derived.Test.YtnohpkhaimmdmaaDoorRndT
namespace Go.Proofs.YtnohpkhaimmdmaaDoor
open Go.RowKit

end Go.Proofs.YtnohpkhaimmdmaaDoor

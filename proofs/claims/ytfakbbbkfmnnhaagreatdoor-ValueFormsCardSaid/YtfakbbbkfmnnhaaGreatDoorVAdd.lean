/-
  SUMS: the program's and the document's.
  No conditions.
-/
import Derived.Test.YtfakbbbkfmnnhaaGreatDoorVNums
namespace Go.Proofs.YtfakbbbkfmnnhaaGreatDoor
open Go.RowKit

end Go.Proofs.YtfakbbbkfmnnhaaGreatDoor

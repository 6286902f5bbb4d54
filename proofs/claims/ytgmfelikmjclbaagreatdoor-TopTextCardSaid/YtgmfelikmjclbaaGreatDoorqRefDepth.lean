/-
  Contracts of the reference of layer 4: Depth, Size.
-/
import Derived.Test.YtgmfelikmjclbaaGreatDoorqRefCheck
import Derived.Outline
namespace Go.Proofs.YtgmfelikmjclbaaGreatDoor.Nodes
open Go.ChangeShapes Go.WideShapes Go.ChangeAt Go.RowKit

end Go.Proofs.YtgmfelikmjclbaaGreatDoor.Nodes

/-
  Contracts of the reference of layer 4: Depth, Size.
-/
import Derived.Test.YtgmfelikmjclbaaDoorRefCheck
import Derived.Outline
namespace Go.Proofs.YtgmfelikmjclbaaDoor.Nodes
open Go.ChangeShapes Go.WideShapes Go.ChangeAt Go.RowKit

end Go.Proofs.YtgmfelikmjclbaaDoor.Nodes

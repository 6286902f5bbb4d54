/-
  Contracts of the reference of layer 4: Depth, Size.
-/
import Derived.Test.YtflmpjejlkhpcaaDoorRefCheck
import Derived.Outline
namespace Go.Proofs.YtflmpjejlkhpcaaDoor.Nodes
open Go.ChangeShapes Go.WideShapes Go.ChangeAt Go.RowKit

end Go.Proofs.YtflmpjejlkhpcaaDoor.Nodes

/-
  Contracts of the reference of layer 4: Cut, Part.
-/
import Derived.Test.YtflmpjejlkhpcaaDoorRefDepth
import Derived.Test.YtflmpjejlkhpcaaDoorNodeRows
import Derived.Outline
namespace Go.Proofs.YtflmpjejlkhpcaaDoor.Nodes
open Go.ChangeShapes Go.WideShapes Go.ChangeAt Go.RowKit

def PartEnds (l : List Nd) (at_ : Int) (w : World) (e : Ending) (w' : World) : Prop :=
  ∃ v, e = .returned (.tuple #[v, .int .i64 (partV l at_).2]) ∧ w'.ownsRow w.heap.size 31 5 v (partV l at_).1.length (rowN (partV l at_).1) ∧ Below w.heap.size w w'
end Go.Proofs.YtflmpjejlkhpcaaDoor.Nodes

/-
  Contract of the reference of layer 3: Valid.
-/
import Derived.Test.YtdinaedknlkicaaGreatDoorRefWords
import Derived.Test.YtdinaedknlkicaaGreatDoorRefRead
import Derived.Test.YtdinaedknlkicaaGreatDoorTokRows
import Derived.Deep.RegionHeld3
import Derived.Outline
namespace Go.Proofs.YtdinaedknlkicaaGreatDoor
open Go.ChangeShapes Go.WideShapes Go.ChangeAt Go.RowKit

theorem below_one_drew {w w2 : World} {c : Array Value} {T : TypeId} (hb : Below (w.alloc (Obj.cells c T)).drew.heap.size (w.alloc (Obj.cells c T)).drew w2) : Below w.heap.size w w2 :=
  (((Below.refl w.heap.size w).alloc (Nat.le_refl _) _).drew).trans (hb.mono (by simp))
end Go.Proofs.YtdinaedknlkicaaGreatDoor

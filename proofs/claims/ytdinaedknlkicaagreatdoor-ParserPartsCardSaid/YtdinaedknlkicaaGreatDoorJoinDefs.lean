/-
  What Join returns (layer 3).
-/
import Derived.Test.YtdinaedknlkicaaGreatDoorTokRows
namespace Go.Proofs.YtdinaedknlkicaaGreatDoor
open Go.ChangeShapes Go.WideShapes Go.ChangeAt Go.RowKit
def JoinEnds (ts : List Tok) (w : World) (e : Ending) (w' : World) : Prop := e = .returned (.tuple #[.string ⟨(joinV ts).1.toArray⟩, .int .i64 (joinV ts).2]) ∧ Below w.heap.size w w'
theorem empty_text : (⟨([] : List UInt8).toArray⟩ : ByteArray) = { data := #[] } := rfl
end Go.Proofs.YtdinaedknlkicaaGreatDoor

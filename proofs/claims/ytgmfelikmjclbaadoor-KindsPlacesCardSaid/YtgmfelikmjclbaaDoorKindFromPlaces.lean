/-
  The walk of layer 6's statement KindsPlaces from its arguments' readings.
-/
import Derived.Test.YtgmfelikmjclbaaDoorNodeOpen
import Derived.Test.YtgmfelikmjclbaaDoorKindPlacesWalk
namespace Go.Proofs.YtgmfelikmjclbaaDoor.Nodes
open Go.ChangeShapes Go.WideShapes Go.ChangeAt Go.RowKit Go.Deep

set_option maxRecDepth 100000 in
theorem places_from {H : Type} {enc : TypeId × Value → H} {w : World} {r : Reach} {base base2 : Nat} {sp : Nat → Bool} {held : Bool} {v0 : Value} {d0 : DataW H} {p0 : List MemPlace} (hf : KindFix w) (at_ leaf : Int) (hk0 : 0 ≤ leaf) (hk1 : leaf ≤ 255) (hw0 : Value.okWide Tryd.prog w r base 22 v0) (h0 : DataW.Trod enc Tryd.prog w base2 sp held 22 v0 d0 p0) :
    Calls Tryd.prog 8 #[v0, .int .i64 at_, .int .u8 leaf] w fun e w' => e = .returned (.bool true) ∧ Below w.heap.size w w' := by
  obtain ⟨l0, hR0, hn0⟩ := open_nds hw0 h0
  exact places_walk v0 l0 at_ leaf w hf hR0 hn0 hk0 hk1
end Go.Proofs.YtgmfelikmjclbaaDoor.Nodes

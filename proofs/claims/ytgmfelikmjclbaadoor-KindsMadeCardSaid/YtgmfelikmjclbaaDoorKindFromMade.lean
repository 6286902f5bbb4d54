/-
  The walk of layer 6's statement KindsMade from its arguments' readings.
-/
import Derived.Test.YtgmfelikmjclbaaDoorNodeOpen
import Derived.Test.YtgmfelikmjclbaaDoorKindMadeWalk
namespace Go.Proofs.YtgmfelikmjclbaaDoor.Nodes
open Go.ChangeShapes Go.WideShapes Go.ChangeAt Go.RowKit Go.Deep

set_option maxRecDepth 100000 in
theorem madek_from {H : Type} {enc : TypeId × Value → H} {w : World} {r : Reach} {base base2 : Nat} {sp : Nat → Bool} {held : Bool} {v0 v1 : Value} {d0 d1 : DataW H} {p0 p1 : List MemPlace} (hf : KindFix w) (kind : Int) (hk0 : 0 ≤ kind) (hk1 : kind ≤ 255) (hw0 : Value.okWide Tryd.prog w r base 22 v0) (h0 : DataW.Trod enc Tryd.prog w base2 sp held 22 v0 d0 p0) (hw1 : Value.okWide Tryd.prog w r base 22 v1) (h1 : DataW.Trod enc Tryd.prog w base2 sp held 22 v1 d1 p1) :
    Calls Tryd.prog 7 #[v0, v1, .int .u8 kind] w fun e w' => e = .returned (.bool true) ∧ Below w.heap.size w w' := by
  obtain ⟨l0, hR0, hn0⟩ := open_nds hw0 h0
  obtain ⟨l1, hR1, hn1⟩ := open_nds hw1 h1
  exact madek_walk v0 v1 l0 l1 kind w hf hR0 hR1 hk0 hk1
end Go.Proofs.YtgmfelikmjclbaaDoor.Nodes

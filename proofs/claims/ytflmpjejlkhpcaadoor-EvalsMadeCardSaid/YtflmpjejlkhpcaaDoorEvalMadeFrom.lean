/-
  The walk of layer 7's statement EvalsMade from its arguments' readings.
-/
import Derived.Test.YtflmpjejlkhpcaaDoorEvalOpen
import Derived.Test.YtflmpjejlkhpcaaDoorEvalMadeWalk
namespace Go.Proofs.YtflmpjejlkhpcaaDoor.Nodes
open Go.ChangeShapes Go.WideShapes Go.ChangeAt Go.RowKit Go.Deep

set_option maxRecDepth 100000 in
theorem emade_from {H : Type} {enc : TypeId × Value → H} {w : World} {r : Reach} {base base2 : Nat} {sp : Nat → Bool} {held : Bool} {v0 v1 v3 : Value} {d0 d1 d3 : DataW H} {p0 p1 p3 : List MemPlace} (hf : KindFix w) (kind : Int) (hk0 : 0 ≤ kind) (hk1 : kind ≤ 255) (hw0 : Value.okWide Tryd.prog w r base 32 v0) (h0 : DataW.Trod enc Tryd.prog w base2 sp held 32 v0 d0 p0) (hw1 : Value.okWide Tryd.prog w r base 32 v1) (h1 : DataW.Trod enc Tryd.prog w base2 sp held 32 v1 d1 p1) (hw3 : Value.okWide Tryd.prog w r base 26 v3) (h3 : DataW.Trod enc Tryd.prog w base2 sp held 26 v3 d3 p3) :
    Calls Tryd.prog 8 #[v0, v1, .int .u8 kind, v3] w fun e w' => e = .returned (.bool true) ∧ Below w.heap.size w w' := by
  obtain ⟨l0, hR0, _, _⟩ := open_wide hw0 h0
  obtain ⟨l1, hR1, _, _⟩ := open_wide hw1 h1
  obtain ⟨a, rfl, _⟩ := open_record hw3 h3
  exact emade_walk a v0 v1 l0 l1 kind w hf hR0 hR1 hk0 hk1
end Go.Proofs.YtflmpjejlkhpcaaDoor.Nodes

/-
  The walk of layer 8's statement ClausesReplace from its arguments' readings.
-/
import Derived.Test.YtfmobnlnedljeaaDoorClauseOpen
import Derived.Test.YtfmobnlnedljeaaDoorClauseReplaceWalk
namespace Go.Proofs.YtfmobnlnedljeaaDoor.Nodes
open Go.ChangeShapes Go.WideShapes Go.ChangeAt Go.RowKit Go.Deep

set_option maxRecDepth 100000 in
theorem replace_from8 {H : Type} {enc : TypeId × Value → H} {w : World} {r : Reach} {base base2 : Nat} {sp : Nat → Bool} {held : Bool} {v0 : Value} {d0 : DataW H} {p0 : List MemPlace} {v1 : Value} {d1 : DataW H} {p1 : List MemPlace} {v2 : Value} {d2 : DataW H} {p2 : List MemPlace} {v3 : Value} {d3 : DataW H} {p3 : List MemPlace} (hf : NameFix w) (hw0 : Value.okWide Tryd.prog w r base 32 v0) (h0 : DataW.Trod enc Tryd.prog w base2 sp held 32 v0 d0 p0) (hw1 : Value.okWide Tryd.prog w r base 23 v1) (h1 : DataW.Trod enc Tryd.prog w base2 sp held 23 v1 d1 p1) (hw2 : Value.okWide Tryd.prog w r base 29 v2) (h2 : DataW.Trod enc Tryd.prog w base2 sp held 29 v2 d2 p2) (hw3 : Value.okWide Tryd.prog w r base 30 v3) (h3 : DataW.Trod enc Tryd.prog w base2 sp held 30 v3 d3 p3)  :
    Calls Tryd.prog 6 #[v0, v1, v2, v3] w fun e w' => e = .returned (.bool true) ∧ Below w.heap.size w w' := by
  obtain ⟨s0, q0, rfl, r0⟩ := open_query8 h0 hw0
  obtain ⟨x1, rfl⟩ := open_window8 h1 hw1
  obtain ⟨l2, r2, n2⟩ := open_ints8 h2 hw2
  obtain ⟨l3, r3, n3⟩ := open_nodes8 h3 hw3
  exact replace_walk s0 q0 x1 v2 l2 v3 l3 w hf r0 r2 r3 n2 n3
end Go.Proofs.YtfmobnlnedljeaaDoor.Nodes

/-
  The walk of layer 8's statement ClausesParts from its arguments' readings.
-/
import Derived.Test.YtfmobnlnedljeaaDoorClauseOpen
import Derived.Test.YtfmobnlnedljeaaDoorClausePartsWalk
namespace Go.Proofs.YtfmobnlnedljeaaDoor.Nodes
open Go.ChangeShapes Go.WideShapes Go.ChangeAt Go.RowKit Go.Deep

set_option maxRecDepth 100000 in
theorem cparts_from {H : Type} {enc : TypeId × Value → H} {w : World} {r : Reach} {base base2 : Nat} {sp : Nat → Bool} {held : Bool} {v0 : Value} {d0 : DataW H} {p0 : List MemPlace} {v1 : Value} {d1 : DataW H} {p1 : List MemPlace} (hf : NameFix w) (hw0 : Value.okWide Tryd.prog w r base 23 v0) (h0 : DataW.Trod enc Tryd.prog w base2 sp held 23 v0 d0 p0) (hw1 : Value.okWide Tryd.prog w r base 29 v1) (h1 : DataW.Trod enc Tryd.prog w base2 sp held 29 v1 d1 p1) (join : Bool) (n : Int) (s : ByteArray) (hs : s.size ≤ maxLen) :
    Calls Tryd.prog 4 #[v0, v1, .bool join, .int .i64 n, .string s] w fun e w' => e = .returned (.bool true) ∧ Below w.heap.size w w' := by
  obtain ⟨x0, rfl⟩ := open_window8 h0 hw0
  obtain ⟨l1, r1, n1⟩ := open_ints8 h1 hw1
  exact cparts_walk x0 v1 l1 join n s w hf r1 n1 (by unfold maxLen at hs; omega)
end Go.Proofs.YtfmobnlnedljeaaDoor.Nodes

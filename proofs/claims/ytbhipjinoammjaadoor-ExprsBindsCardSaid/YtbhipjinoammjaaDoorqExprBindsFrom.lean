/-
  The walk of layer 5's statement ExprsBinds from its arguments' readings.
-/
import Derived.Test.YtbhipjinoammjaaDoorqExprBindsWalk
import Derived.Test.YtbhipjinoammjaaDoorNodeOpen
namespace Go.Proofs.YtbhipjinoammjaaDoor.ExprW
open Nodes Exprs
open Go.ChangeShapes Go.WideShapes Go.ChangeAt Go.RowKit

set_option maxRecDepth 100000 in
theorem binds_from {H : Type} {enc : TypeId × Value → H} {w : World} {r : Reach} {base base2 : Nat} {sp : Nat → Bool} {held : Bool} {v0 v1 v2 : Value} {d0 d1 d2 : DataW H} {p0 p1 p2 : List MemPlace} (k1 k2 : Int) (hw0 : Value.okWide Tryd.prog w r base 29 v0) (h0 : DataW.Trod enc Tryd.prog w base2 sp held 29 v0 d0 p0) (hw1 : Value.okWide Tryd.prog w r base 29 v1) (h1 : DataW.Trod enc Tryd.prog w base2 sp held 29 v1 d1 p1) (hw2 : Value.okWide Tryd.prog w r base 29 v2) (h2 : DataW.Trod enc Tryd.prog w base2 sp held 29 v2 d2 p2) (hf : ExprFix w) :
    Calls Tryd.prog 6 #[v0, v1, v2, .int .u8 k1, .int .u8 k2] w fun e w' => e = .returned (.bool true) ∧ Below w.heap.size w w' := by
  obtain ⟨x, hX, _, nx⟩ := open_wide hw0 h0
  obtain ⟨y, hY, _, ny⟩ := open_wide hw1 h1
  obtain ⟨z, hZ, _, nz⟩ := open_wide hw2 h2
  by_cases hg : x.length ≤ 8 ∧ y.length ≤ 8 ∧ z.length ≤ 8 ∧ checkV x = 0 ∧ checkV y = 0 ∧ checkV z = 0 ∧ 7 ≤ k1 ∧ k1 ≤ 19 ∧ 7 ≤ k2 ∧ k2 ≤ 19
  · obtain ⟨lx, ly, lz, cx, cy, cz, a1, a2, b1, b2⟩ := hg
    exact binds_in v0 v1 v2 x y z k1 k2 w hX hY hZ nx ny nz hf lx ly lz cx cy cz ⟨a1, a2⟩ ⟨b1, b2⟩
  · exact binds_out v0 v1 v2 x y z k1 k2 w hX hY hZ hf hg
end Go.Proofs.YtbhipjinoammjaaDoor.ExprW

/-
  The walks of layer 3's statements that take lists, from their arguments' readings.
-/
import Derived.Test.YtighmcooilcmfaaDoorLexOpen
import Derived.Test.YtighmcooilcmfaaDoorLexWalks
import Derived.Test.YtighmcooilcmfaaDoorLexBlanksWalk
namespace Go.Proofs.YtighmcooilcmfaaDoor
open Go.ChangeShapes Go.WideShapes Go.ChangeAt Go.RowKit

set_option maxRecDepth 100000 in
theorem finds_from {H : Type} {enc : TypeId × Value → H} {w : World} {r : Reach} {base base2 : Nat} {sp : Nat → Bool} {held : Bool} {v : Value} {d : DataW H} {p : List MemPlace} (s : ByteArray) (hw : Value.okWide Tryd.prog w r base 28 v) (h : DataW.Trod enc Tryd.prog w base2 sp held 28 v d p) (hf : LexFix w) :
    Calls Tryd.prog 4 #[.string s, v] w fun e w' => e = .returned (.bool true) ∧ Below w.heap.size w w' := by
  obtain ⟨ts, hR, hn⟩ := open_toks hw h
  exact finds_walk s v ts w hf hR hn
set_option maxRecDepth 100000 in
theorem join_from {H : Type} {enc : TypeId × Value → H} {w : World} {r : Reach} {base base2 : Nat} {sp : Nat → Bool} {held : Bool} {v : Value} {d : DataW H} {p : List MemPlace} (hw : Value.okWide Tryd.prog w r base 28 v) (h : DataW.Trod enc Tryd.prog w base2 sp held 28 v d p) (hf : LexFix w) :
    Calls Tryd.prog 5 #[v] w fun e w' => e = .returned (.bool true) ∧ Below w.heap.size w w' := by
  obtain ⟨ts, hR, hn⟩ := open_toks hw h
  exact join_walk v ts w hf hR hn
set_option maxRecDepth 100000 in
theorem blanks_from {H : Type} {enc : TypeId × Value → H} {w : World} {r : Reach} {base base2 : Nat} {sp : Nat → Bool} {held : Bool} {v : Value} {d : DataW H} {p : List MemPlace} (s : ByteArray) (hs : s.size ≤ maxLen) (at_ : Int) (hat : at_ ≤ 9223372036854775807) (hw : Value.okWide Tryd.prog w r base 42 v) (h : DataW.Trod enc Tryd.prog w base2 sp held 42 v d p) (hf : LexFix w) :
    Calls Tryd.prog 6 #[.string s, v, .int .i64 at_] w fun e w' => e = .returned (.bool true) ∧ Below w.heap.size w w' := by
  obtain ⟨bs, hn, hB⟩ := open_bits hw h
  exact blanks_walk s hs v bs at_ w hf hB hn hat
end Go.Proofs.YtighmcooilcmfaaDoor

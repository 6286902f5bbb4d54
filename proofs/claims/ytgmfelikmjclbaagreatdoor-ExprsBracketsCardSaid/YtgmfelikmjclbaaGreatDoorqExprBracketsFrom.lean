/-
  The walk of layer 5's statement ExprsBrackets from its arguments' readings.
-/
import Derived.Test.YtgmfelikmjclbaaGreatDoorqExprBracketsGuard
import Derived.Test.YtgmfelikmjclbaaGreatDoorqExprBracketsMany
import Derived.Test.YtgmfelikmjclbaaGreatDoorqExprBracketsIn
import Derived.Test.YtgmfelikmjclbaaGreatDoorNodeOpen
import Derived.Test.YtgmfelikmjclbaaGreatDoorTokOpen
namespace Go.Proofs.YtgmfelikmjclbaaGreatDoor.ExprW
open Nodes Exprs
open Go.ChangeShapes Go.WideShapes Go.ChangeAt Go.RowKit

theorem brackets_all (ax af : Option Addr) (cx cf : Nat) (x : List Nd) (fs : List Tok) (bt : Tok) (w : World) (hX : ReadsN w (.slice ax x.length cx) x) (hF : Go.Proofs.YtgmfelikmjclbaaGreatDoor.Reads w (.slice af fs.length cf) fs) (hf : ExprFix w) (hw : Wide x) (hall : ∀ t ∈ fs ++ [bt], t.text.length ≤ 281474976710656) :
    Calls Tryz.prog 4 #[.slice ax x.length cx, .slice af fs.length cf, .agg #[.int .u8 bt.kind, .string ⟨bt.text.toArray⟩, .int .i64 bt.at_]] w fun e w' => e = .returned (.bool true) ∧ Below w.heap.size w w' := by
  by_cases h70 : 70 < x.length
  · exact brackets_great ax af cx cf x fs _ _ _ w hX hF hf h70
  by_cases hc : checkV x = 0
  rotate_left
  · exact brackets_bad ax af cx cf x fs _ _ _ w hX hF hf h70 hc
  by_cases h30 : 30 < fs.length
  · exact brackets_many ax af cx cf x fs _ _ _ w hX hF hf h70 hc h30
  by_cases ha : askedV (fs ++ [bt]) 0 = 0
  rotate_left
  · exact brackets_asked ax af cx cf x fs _ _ _ w hX hF hf bt rfl rfl rfl hall h70 hc h30 ha
  have hfs := (asked_ok.1 ha).2.1
  by_cases hl : 390 < (textV x).1.length
  · exact brackets_long ax af cx cf x fs _ _ _ w hX hF hf bt rfl rfl rfl hall h70 hc h30 ha hw hfs hl
  by_cases hl150 : 150 < (allV (40 :: (textV x).1 ++ [41])).1.length
  · exact brackets_lots ax af cx cf x fs _ _ _ w hX hF hf bt rfl rfl rfl hall h70 hc h30 ha hw hfs hl hl150
  by_cases hcm : Exprs.Calm bt
  · exact brackets_calm ax af cx cf x fs _ _ _ w hX hF hf bt rfl rfl rfl hall h70 hc h30 ha hw hfs hl hl150 hcm
  · exact brackets_other ax af cx cf x fs _ _ _ w hX hF hf bt rfl rfl rfl hall h70 hc h30 ha hw hfs hl hl150 hcm
set_option maxRecDepth 100000 in
theorem brackets_from {H : Type} {enc : TypeId × Value → H} {w : World} {r : Reach} {base base2 : Nat} {sp : Nat → Bool} {held : Bool} {v0 v1 v2 : Value} {d0 d1 d2 : DataW H} {p0 p1 p2 : List MemPlace} (hw0 : Value.okWide Tryz.prog w r base 30 v0) (h0 : DataW.Trod enc Tryz.prog w base2 sp held 30 v0 d0 p0)
    (hw1 : Value.okWide Tryz.prog w r base 23 v1) (h1 : DataW.Trod enc Tryz.prog w base2 sp held 23 v1 d1 p1) (hw2 : Value.okWide Tryz.prog w r base 28 v2) (h2 : DataW.Trod enc Tryz.prog w base2 sp held 28 v2 d2 p2)
    (z1 : ∀ n ∈ d1.weights Tryz.prog 23, n ≤ 281474976710656) (z2 : ∀ n ∈ d2.weights Tryz.prog 28, n ≤ 281474976710656) (hf : ExprFix w) :
    Calls Tryz.prog 4 #[v0, v1, v2] w fun e w' => e = .returned (.bool true) ∧ Below w.heap.size w w' := by
  obtain ⟨l0, hR0, _, hw⟩ := open_wide hw0 h0
  obtain ⟨fs, hF, _, hs⟩ := open_toks_sized hw1 h1 281474976710656 z1
  obtain ⟨bt, rfl, hb⟩ := open_token hw2 h2 281474976710656 z2
  obtain ⟨ax, cx, rfl⟩ := hR0.shape
  obtain ⟨af, cf, rfl⟩ := hF.shape
  refine brackets_all ax af cx cf l0 fs bt w hR0 hF hf hw fun t ht => ?_
  rcases List.mem_append.1 ht with h | h
  · exact hs t h
  · rw [List.mem_singleton.1 h]; exact hb
end Go.Proofs.YtgmfelikmjclbaaGreatDoor.ExprW

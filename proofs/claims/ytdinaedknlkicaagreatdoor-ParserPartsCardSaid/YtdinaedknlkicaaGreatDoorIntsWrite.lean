/-
  Contract of package ints: Text, in seats that reach Read too.
-/
import Derived.Test.YtdinaedknlkicaaGreatDoorIntsRead
import Derived.Lib.SmallJoins
import Derived.Lib.AppendIntMem
import Derived.Outline
namespace Go.Proofs.YtdinaedknlkicaaGreatDoor
open Go.ChangeShapes Go.WideShapes Go.ChangeAt Go.RowKit

/-- What strconv reads to write a number: the table of powers of ten. -/
def PowFix (w : World) : Prop := Lib.TabIs Tryz.prog w "internal/strconv.uint64pow10" .u64 Lib.pow10Tab
theorem gPow : Tryz.prog.globalNamed "internal/strconv.uint64pow10" = some 7 := by kernel_rfl
theorem PowFix.below {w w' : World} (h : PowFix w) (hb : Below w.heap.size w w') : PowFix w' := Joins.tab_stays gPow h hb (Nat.le_refl _)
theorem formatInt_any (n : Int) (h0 : -9223372036854775808 ≤ n) (h1 : n ≤ 9223372036854775807) (w : World) (hf : PowFix w) : Calls Tryz.prog 101 #[.int .i64 n, .int .i64 10] w fun e w' => e = .returned (.string ⟨(Lib.itoa n).toArray⟩) ∧ Below w.heap.size w w' := by
  refine (Tryz.strconv_FormatInt_10 n h0 h1 w hf).mono ?_
  rintro e w' ⟨rfl, k, os, rfl⟩
  exact ⟨rfl, Lib.below_grow _ _ (Nat.le_refl _) k os⟩
theorem intsText_any (n : Int) (h0 : -9223372036854775808 ≤ n) (h1 : n ≤ 9223372036854775807) (w : World) (hf : PowFix w) : Calls Tryz.prog 87 #[.int .i64 n] w fun e w' => e = .returned (.string ⟨(Lib.itoa n).toArray⟩) ∧ Below w.heap.size w w' := by
  have F := Lib.hid (formatInt_any n h0 h1 w hf)
  clear h0 h1 hf
  go_enter Tryz.func87, Tryz.ntmps87
  go_wp2_with (go_at_call 101; refine F.out.mono ?_; rintro e w' ⟨rfl, hb⟩)
  go_ret
  exact ⟨rfl, hb⟩
end Go.Proofs.YtdinaedknlkicaaGreatDoor

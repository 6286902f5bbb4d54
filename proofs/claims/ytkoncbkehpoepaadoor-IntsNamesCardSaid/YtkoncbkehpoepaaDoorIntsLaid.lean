/-
  What the rows' list of laid variables gives the walks: the table of powers of ten and ErrRange hold what their initialisers lay (Fix).
-/
import Derived.Test.YtkoncbkehpoepaaDoorRows
import Derived.Test.YtkoncbkehpoepaaDoorIntsText
import Derived.LaidMore
import Derived.Stop.LaidErr
import Derived.Stop.Joined
namespace Go.Proofs.YtkoncbkehpoepaaDoor
open Go.ChangeShapes Go.WideShapes Go.ChangeAt Go.RowKit

theorem own : ownKnob Tryd.prog.godebug = none := by kernel_rfl
theorem tPow : (Tryd.prog.globals[2]?).map (·.type) = some 71 := by kernel_rfl
theorem tRange : (Tryd.prog.globals[1]?).map (·.type) = some 46 := by kernel_rfl
theorem cPow : Tryd.prog.cellsOf 71 = 20 := by kernel_rfl
theorem cU64 : Tryd.prog.cellsOf 42 = 1 := by kernel_rfl
theorem cErrStr : Tryd.prog.cellsOf 79 = 1 := by kernel_rfl
theorem cStr : Tryd.prog.cellsOf 9 = 1 := by kernel_rfl
theorem star : "*" ++ "errors.errorString" = "*errors.errorString" := by decide
theorem rowErrStr (u : TypeId) (h : Tryd.prog.typeName? 3 u = some "*errors.errorString") : u = 77 :=
  typeName_ptr_named (nm := "errors.errorString") (by rw [star]; kernel_rfl) (by kernel_rfl) (by decide) u (by rw [star]; exact h)

abbrev laidList {H : Type} : List (String × DataW H) := [("math/bits.deBruijn32tab", Rows.laid_math_bits_deBruijn32tab), ("math/bits.deBruijn64tab", Rows.laid_math_bits_deBruijn64tab), ("internal/strconv.uint64pow10", Rows.laid_internal_strconv_uint64pow10), ("strconv.ErrRange", Rows.laid_strconv_ErrRange), ("strconv.ErrSyntax", Rows.laid_strconv_ErrSyntax)]

theorem fix_of_laid {W : World} (h : laidMetH Tryd.prog laidList W) : Fix W := by
  rw [MakeChecks.laidMetH_plain _ _ _ (by kernel_rfl)] at h
  have h2 := (laidMet.tail (laidMet.tail h))
  have ht : Lib.TabIs Tryd.prog W "internal/strconv.uint64pow10" .u64 Lib.pow10Tab :=
    Lib.tabIs_of_head gPow tPow Tryd.underlying71 Tryd.underlying42 cU64 cPow h2
  obtain ⟨a, s, hv, _⟩ := laid_sentinel (laidMet.tail h2) gRange tRange Tryd.underlying46 rowErrStr Tryd.underlying77 Tryd.underlying79 rfl rfl Tryd.underlying9 cErrStr cStr
  exact ⟨ht, _, _, hv⟩
theorem door_met (os : Os) (args : Array Value) : laidMetH Tryd.prog laidList ((World.doorLaid Tryd.prog 400 os).forCall (fun _ _ => 0) ⟨#[], args, []⟩).memory :=
  laidMetH_of_parts3 (fuel := 8) (laidMet_of_run' 8 (by kernel_rfl) (by kernel_rfl)) (by kernel_rfl) (by kernel_rfl)
end Go.Proofs.YtkoncbkehpoepaaDoor

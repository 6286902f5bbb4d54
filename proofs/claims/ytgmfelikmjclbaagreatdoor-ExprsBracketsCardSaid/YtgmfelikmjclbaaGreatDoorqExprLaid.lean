/-
  What the rows' list of laid variables gives the walks of layer 5: strconv's ErrRange and its powers of ten, the tables of symbols, of words and of operators hold what their initialisers lay (ExprFix).
-/
import Derived.Test.YtgmfelikmjclbaaGreatDoorLaidStrs
import Derived.Test.YtgmfelikmjclbaaGreatDoorPackE1
namespace Go.Proofs.YtgmfelikmjclbaaGreatDoor
open ExprW Exprs
open Go.ChangeShapes Go.WideShapes Go.ChangeAt Go.RowKit

theorem tOp : (Tryz.prog.globals[1]?).map (·.type) = some 95 := by kernel_rfl
theorem cPow : Tryz.prog.cellsOf 149 = 20 := by kernel_rfl
theorem cU64 : Tryz.prog.cellsOf 114 = 1 := by kernel_rfl
theorem tPow : (Tryz.prog.globals[8]?).map (·.type) = some 149 := by kernel_rfl
abbrev laidList {H : Type} : List (String × DataW H) := [("math/bits.deBruijn32tab", Rows.laid_math_bits_deBruijn32tab), ("math/bits.deBruijn64tab", Rows.laid_math_bits_deBruijn64tab), ("internal/strconv.uint64pow10", Rows.laid_internal_strconv_uint64pow10), ("strconv.ErrRange", Rows.laid_strconv_ErrRange), ("strconv.ErrSyntax", Rows.laid_strconv_ErrSyntax), ("tailwater/chars.symbols", Rows.laid_tailwater_chars_symbols), ("tailwater/chars.words", Rows.laid_tailwater_chars_words), ("tailwater/exprs.operators", Rows.laid_tailwater_exprs_operators)]
theorem fix_of_laid {W : World} (h : laidMetH Tryz.prog laidList W) : ExprFix W := by
  rw [MakeChecks.laidMetH_plain _ _ _ (by kernel_rfl)] at h
  have h2 := laidMet.tail (laidMet.tail h)
  have h3 := laidMet.tail h2
  obtain ⟨a, s, hv, _⟩ := laid_sentinel h3 gRange tRange Tryz.underlying62 rowErrStr Tryz.underlying139 Tryz.underlying141 rfl rfl Tryz.underlying9 cErrStr cStr
  have h5 := laidMet.tail (laidMet.tail h3)
  have h6 := laidMet.tail h5
  have h7 := laidMet.tail h6
  exact ⟨⟨⟨_, _, hv⟩, strs_of_head (l := symTab) gSym tSym Tryz.underlying95 cSym h5, strs_of_head (l := wordTab) gWord tWord Tryz.underlying99 cWord h6⟩, Lib.tabIs_of_head gPow tPow Tryz.underlying149 Tryz.underlying114 cU64 cPow h2, strs_of_head (l := opTab) gOp tOp Tryz.underlying95 cSym h7⟩
theorem door_met (os : Os) (args : Array Value) : laidMetH Tryz.prog laidList ((World.doorLaid Tryz.prog 400 os).forCall (fun _ _ => 0) ⟨#[], args, []⟩).memory :=
  laidMetH_of_parts3 (fuel := 8) (laidMet_of_run' 8 (by kernel_rfl) (by kernel_rfl)) (by kernel_rfl) (by kernel_rfl)
end Go.Proofs.YtgmfelikmjclbaaGreatDoor

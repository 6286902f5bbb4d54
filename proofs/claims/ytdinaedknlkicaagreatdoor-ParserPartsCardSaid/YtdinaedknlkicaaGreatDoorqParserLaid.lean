/-
  What the rows' list of laid variables gives the walks of layer 9: strconv's ErrRange and its powers of ten, the names of the sources, the tables of symbols, of words and of operators hold what their initialisers lay (ParFix).
-/
import Derived.Test.YtdinaedknlkicaaGreatDoorLaidStrs
import Derived.Test.YtdinaedknlkicaaGreatDoorPackE1
import Derived.Test.YtdinaedknlkicaaGreatDoorPackH1
namespace Go.Proofs.YtdinaedknlkicaaGreatDoor
open ExprW Exprs
open Go.ChangeShapes Go.WideShapes Go.ChangeAt Go.RowKit

theorem tOp : (Tryz.prog.globals[3]?).map (·.type) = some 122 := by kernel_rfl
theorem cPow : Tryz.prog.cellsOf 175 = 20 := by kernel_rfl
theorem cU64 : Tryz.prog.cellsOf 150 = 1 := by kernel_rfl
theorem tPow : (Tryz.prog.globals[7]?).map (·.type) = some 175 := by kernel_rfl
theorem cNames9 : Tryz.prog.cellsOf 108 = 4 := by kernel_rfl
theorem tNames9 : (Tryz.prog.globals[0]?).map (·.type) = some 108 := by kernel_rfl
abbrev laidList {H : Type} : List (String × DataW H) := [("math/bits.deBruijn32tab", Rows.laid_math_bits_deBruijn32tab), ("math/bits.deBruijn64tab", Rows.laid_math_bits_deBruijn64tab), ("internal/strconv.uint64pow10", Rows.laid_internal_strconv_uint64pow10), ("strconv.ErrRange", Rows.laid_strconv_ErrRange), ("strconv.ErrSyntax", Rows.laid_strconv_ErrSyntax), ("tailwater/clauses.names", Rows.laid_tailwater_clauses_names), ("tailwater/chars.symbols", Rows.laid_tailwater_chars_symbols), ("tailwater/chars.words", Rows.laid_tailwater_chars_words), ("tailwater/exprs.operators", Rows.laid_tailwater_exprs_operators)]
theorem fix_of_laid {W : World} (h : laidMetH Tryz.prog laidList W) : ParserW.ParFix W := by
  rw [MakeChecks.laidMetH_plain _ _ _ (by kernel_rfl)] at h
  have h2 := laidMet.tail (laidMet.tail h)
  have h3 := laidMet.tail h2
  obtain ⟨a, s, hv, _⟩ := laid_sentinel h3 gRange tRange Tryz.underlying82 rowErrStr Tryz.underlying170 Tryz.underlying172 rfl rfl Tryz.underlying9 cErrStr cStr
  have h4 := laidMet.tail (laidMet.tail h3)
  have h5 := laidMet.tail h4
  have h6 := laidMet.tail h5
  have h7 := laidMet.tail h6
  exact ⟨⟨⟨⟨_, _, hv⟩, strs_of_head (l := symTab) gSym tSym Tryz.underlying122 cSym h5, strs_of_head (l := wordTab) gWord tWord Tryz.underlying125 cWord h6⟩, Lib.tabIs_of_head gPow tPow Tryz.underlying175 Tryz.underlying150 cU64 cPow h2, strs_of_head (l := opTab) gOp tOp Tryz.underlying122 cSym h7⟩,
    strs_of_head (l := [[97], [98], [99], [100]]) Nodes.gName tNames9 Tryz.underlying108 cNames9 h4⟩
theorem door_met (os : Os) (args : Array Value) : laidMetH Tryz.prog laidList ((World.doorLaid Tryz.prog 400 os).forCall (fun _ _ => 0) ⟨#[], args, []⟩).memory :=
  laidMetH_of_parts3 (fuel := 8) (laidMet_of_run' 8 (by kernel_rfl) (by kernel_rfl)) (by kernel_rfl) (by kernel_rfl)
end Go.Proofs.YtdinaedknlkicaaGreatDoor

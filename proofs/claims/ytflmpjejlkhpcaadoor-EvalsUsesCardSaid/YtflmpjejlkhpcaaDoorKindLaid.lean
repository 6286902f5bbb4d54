/-
  What the rows' list of laid variables gives the walks of layer 6: the two tables of package kinds hold what their initialisers lay (KindFix).
-/
import Derived.Test.YtflmpjejlkhpcaaDoorRows
import Derived.Test.YtflmpjejlkhpcaaDoorKindBools
import Derived.LaidMore
import Derived.Stop.LaidErr
import Derived.Stop.Joined
namespace Go.Proofs.YtflmpjejlkhpcaaDoor
open Go.ChangeShapes Go.WideShapes Go.ChangeAt Go.RowKit

theorem own : ownKnob Tryd.prog.godebug = none := by kernel_rfl
open Nodes
abbrev laidList {H : Type} : List (String × DataW H) := [("tailwater/kinds.gives", Rows.laid_tailwater_kinds_gives), ("tailwater/kinds.takes", Rows.laid_tailwater_kinds_takes)]
theorem fix_of_laid {W : World} (h : laidMetH Tryd.prog laidList W) : KindFix W := by
  rw [MakeChecks.laidMetH_plain _ _ _ (by kernel_rfl)] at h
  exact ⟨bools_of_head (l := givesTab) gGives tGives Tryd.underlying83 cBools h, bools_of_head (l := takesTab) gTakes tTakes Tryd.underlying83 cBools (laidMet.tail h)⟩
theorem door_met (os : Os) (args : Array Value) : laidMetH Tryd.prog laidList ((World.doorLaid Tryd.prog 400 os).forCall (fun _ _ => 0) ⟨#[], args, []⟩).memory :=
  laidMetH_of_parts3 (fuel := 8) (laidMet_of_run' 8 (by kernel_rfl) (by kernel_rfl)) (by kernel_rfl) (by kernel_rfl)
end Go.Proofs.YtflmpjejlkhpcaaDoor

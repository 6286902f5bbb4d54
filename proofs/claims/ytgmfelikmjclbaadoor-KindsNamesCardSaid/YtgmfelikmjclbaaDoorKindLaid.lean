/-
  What the rows' list of laid variables gives the walks of layer 6: the two tables of package kinds hold what their initialisers lay (KindFix).
-/
import Derived.Test.YtgmfelikmjclbaaDoorRows
import Derived.Test.YtgmfelikmjclbaaDoorKindFix
import Derived.LaidMore
import Derived.Stop.LaidErr
import Derived.Stop.Joined
namespace Go.Proofs.YtgmfelikmjclbaaDoor
open Go.ChangeShapes Go.WideShapes Go.ChangeAt Go.RowKit

theorem own : ownKnob Tryd.prog.godebug = none := by kernel_rfl
namespace Nodes
theorem tGives : (Tryd.prog.globals[0]?).map (·.type) = some 55 := by kernel_rfl
theorem tTakes : (Tryd.prog.globals[1]?).map (·.type) = some 55 := by kernel_rfl
theorem cBool : Tryd.prog.cellsOf 4 = 1 := by kernel_rfl
theorem cBools : Tryd.prog.cellsOf 55 = 20 := by kernel_rfl
/-- A list of truth values as a row lists it. -/
def boolData {H : Type} (l : List Bool) : DataW H := .agg (l.map fun x => .lit (.bool x))
theorem bools_of_read {H : Type} {enc : TypeId × Value → H} {w : World} {base : Nat} {sp : Nat → Bool} {held : Bool} {fuel n : Nat} {t : TypeId} {cs : List Value} {l : List Bool} {p : List MemPlace}
    (ht : Tryd.prog.underlying t = some (.array n 4)) (hl : cs.length = n) (h : DataW.trod enc Tryd.prog w base sp held fuel t cs = some (boolData l, p)) : cs = (boolVals l).toList := by
  obtain ⟨xs, m, _, hx, _, hn, hel⟩ := DataW.trod_array ht h
  have hd : xs.map (·.1) = l.map fun x => (.lit (.bool x) : DataW H) := by
    have := congrArg Prod.fst hx
    simpa [boolData] using this.symm
  have hln : l.length = n := by
    have := congrArg List.length hd
    simp only [List.length_map] at this
    omega
  apply List.ext_getElem?
  intro i
  unfold boolVals
  rw [List.toList_toArray, List.getElem?_map]
  by_cases hi : i < n
  · have h1 := hel i hi
    rw [cBool, Nat.mul_one, List.getElem?_eq_getElem (by omega)] at h1
    obtain ⟨s, hc, hs⟩ := DataW.trod_bool Tryd.underlying4 h1
    have h2 : (xs.map (·.1))[i]? = (l.map fun x => (.lit (.bool x) : DataW H))[i]? := by rw [hd]
    rw [List.getElem?_map, List.getElem?_map, List.getElem?_eq_getElem (by omega), List.getElem?_eq_getElem (by omega), hs] at h2
    simp only [Option.map_some, Option.some.injEq, DataW.lit.injEq, Lit.bool.injEq] at h2
    have h3 : cs[i]? = some (.bool s) := by
      have := congrArg (·[0]?) hc
      simpa [List.getElem?_take, List.getElem?_drop] using this
    rw [h3, List.getElem?_eq_getElem (by omega), h2]
    rfl
  · rw [List.getElem?_eq_none (by omega), List.getElem?_eq_none (by omega)]; rfl
theorem bools_of_head {W : World} {name : String} {g n : Nat} {t : TypeId} {l : List Bool} {rest : List (String × DataW Unit)} (hg : Tryd.prog.globalNamed name = some g) (hty : (Tryd.prog.globals[g]?).map (·.type) = some t)
    (ht : Tryd.prog.underlying t = some (.array n 4)) (hc : Tryd.prog.cellsOf t = n) (h : laidMet Tryd.prog ((name, boolData l) :: rest) W) : W.var? Tryd.prog name = some (boolVals l) := by
  obtain ⟨_, ⟨g', t', cs, fuel, p, q, hg', ht', hvar, hd, _⟩, _⟩ := h
  obtain rfl := Option.some.inj (hg.symm.trans hg')
  obtain rfl := Option.some.inj (hty.symm.trans ht')
  have hlen : cs.toList.length = n := by
    obtain ⟨_, _, _, _, hl, _⟩ := DataW.trod_array ht hd
    rw [hl, hc]
  have := bools_of_read ht hlen hd
  rw [hvar]
  exact congrArg some (Array.toList_inj.1 this)
end Nodes
open Nodes
abbrev laidList {H : Type} : List (String × DataW H) := [("tailwater/kinds.gives", Rows.laid_tailwater_kinds_gives), ("tailwater/kinds.takes", Rows.laid_tailwater_kinds_takes)]
theorem fix_of_laid {W : World} (h : laidMetH Tryd.prog laidList W) : KindFix W := by
  rw [MakeChecks.laidMetH_plain _ _ _ (by kernel_rfl)] at h
  exact ⟨bools_of_head (l := givesTab) gGives tGives Tryd.underlying55 cBools h, bools_of_head (l := takesTab) gTakes tTakes Tryd.underlying55 cBools (laidMet.tail h)⟩
theorem door_met (os : Os) (args : Array Value) : laidMetH Tryd.prog laidList ((World.doorLaid Tryd.prog 400 os).forCall (fun _ _ => 0) ⟨#[], args, []⟩).memory :=
  laidMetH_of_parts3 (fuel := 8) (laidMet_of_run' 8 (by kernel_rfl) (by kernel_rfl)) (by kernel_rfl) (by kernel_rfl)
end Go.Proofs.YtgmfelikmjclbaaDoor

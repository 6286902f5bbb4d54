/-
  An array of truth values that a row lists holds the list's truth values; the types of what package kinds' listed variables are.
-/
import Derived.Test.YtflmpjejlkhpcaaDoorRows
import Derived.Test.YtflmpjejlkhpcaaDoorKindFix
import Derived.LaidMore
import Derived.Stop.LaidErr
import Derived.Stop.Joined
namespace Go.Proofs.YtflmpjejlkhpcaaDoor.Nodes
open Go.ChangeShapes Go.WideShapes Go.ChangeAt Go.RowKit

theorem tGives : (Tryd.prog.globals[0]?).map (·.type) = some 83 := by kernel_rfl
theorem tTakes : (Tryd.prog.globals[1]?).map (·.type) = some 83 := by kernel_rfl
theorem cBool : Tryd.prog.cellsOf 4 = 1 := by kernel_rfl
theorem cBools : Tryd.prog.cellsOf 83 = 20 := by kernel_rfl
/-- A list of truth values as a row lists it. -/
def boolData {H : Type} (l : List Bool) : DataW H := .agg (l.map fun x => .lit (.bool x))
theorem bools_of_read {H : Type} {enc : TypeId × Value → H} {w : World} {base : Nat} {sp : Nat → Bool} {held : Bool} {fuel n : Nat} {t : TypeId} {cs : List Value} {l : List Bool} {p : List MemPlace}
    (ht : Tryd.prog.underlying t = some (.array n 4)) (hl : cs.length = n) (h : DataW.trod enc Tryd.prog w base sp held fuel t cs = some (boolData l, p)) : cs = (boolVals l).toList := by
  obtain ⟨xs, m, _, hx, _, hn, hel⟩ := DataW.trod_array ht h
  have hd : xs.map (·.1) = l.map fun x => (.lit (.bool x) : DataW H) := by
    have := congrArg Prod.fst hx
    simpa [boolData] using this.symm
  have hln : l.length = n := by
    have := congrArg List.length hd
    simp only [List.length_map] at this
    omega
  apply List.ext_getElem?
  intro i
  unfold boolVals
  rw [List.toList_toArray, List.getElem?_map]
  by_cases hi : i < n
  · have h1 := hel i hi
    rw [cBool, Nat.mul_one, List.getElem?_eq_getElem (by omega)] at h1
    obtain ⟨s, hc, hs⟩ := DataW.trod_bool Tryd.underlying4 h1
    have h2 : (xs.map (·.1))[i]? = (l.map fun x => (.lit (.bool x) : DataW H))[i]? := by rw [hd]
    rw [List.getElem?_map, List.getElem?_map, List.getElem?_eq_getElem (by omega), List.getElem?_eq_getElem (by omega), hs] at h2
    simp only [Option.map_some, Option.some.injEq, DataW.lit.injEq, Lit.bool.injEq] at h2
    have h3 : cs[i]? = some (.bool s) := by
      have := congrArg (·[0]?) hc
      simpa [List.getElem?_take, List.getElem?_drop] using this
    rw [h3, List.getElem?_eq_getElem (by omega), h2]
    rfl
  · rw [List.getElem?_eq_none (by omega), List.getElem?_eq_none (by omega)]; rfl
theorem bools_of_head {W : World} {name : String} {g n : Nat} {t : TypeId} {l : List Bool} {rest : List (String × DataW Unit)} (hg : Tryd.prog.globalNamed name = some g) (hty : (Tryd.prog.globals[g]?).map (·.type) = some t)
    (ht : Tryd.prog.underlying t = some (.array n 4)) (hc : Tryd.prog.cellsOf t = n) (h : laidMet Tryd.prog ((name, boolData l) :: rest) W) : W.var? Tryd.prog name = some (boolVals l) := by
  obtain ⟨_, ⟨g', t', cs, fuel, p, q, hg', ht', hvar, hd, _⟩, _⟩ := h
  obtain rfl := Option.some.inj (hg.symm.trans hg')
  obtain rfl := Option.some.inj (hty.symm.trans ht')
  have hlen : cs.toList.length = n := by
    obtain ⟨_, _, _, _, hl, _⟩ := DataW.trod_array ht hd
    rw [hl, hc]
  have := bools_of_read ht hlen hd
  rw [hvar]
  exact congrArg some (Array.toList_inj.1 this)
end Go.Proofs.YtflmpjejlkhpcaaDoor.Nodes

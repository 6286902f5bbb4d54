/-
  What the rows' list of laid variables gives the walks of layer 8: the names of the sources are as their initialiser lays them (NameFix).
-/
import Derived.Test.YtfmobnlnedljeaaDoorRows
import Derived.Test.YtfmobnlnedljeaaDoorClauseReads
import Derived.LaidMore
import Derived.Stop.LaidErr
import Derived.Stop.Joined
namespace Go.Proofs.YtfmobnlnedljeaaDoor
open Go.ChangeShapes Go.WideShapes Go.ChangeAt Go.RowKit

theorem own : ownKnob Tryd.prog.godebug = none := by kernel_rfl
open Nodes
theorem cStr8 : Tryd.prog.cellsOf 9 = 1 := by kernel_rfl
theorem cNames8 : Tryd.prog.cellsOf 69 = 4 := by kernel_rfl
theorem tNames8 : (Tryd.prog.globals[0]?).map (·.type) = some 69 := by kernel_rfl
theorem string_of_list8 {s : ByteArray} {l : List UInt8} (h : s.data.toList = l) : s = ⟨l.toArray⟩ := by
  subst h
  cases s; simp
def strVals8 (l : List (List UInt8)) : Array Value := (l.map fun x => Value.string ⟨x.toArray⟩).toArray
def strData8 {H : Type} (l : List (List UInt8)) : DataW H := .agg (l.map fun x => .lit (.string x))
theorem strs_of_read8 {H : Type} {enc : TypeId × Value → H} {w : World} {base : Nat} {sp : Nat → Bool} {held : Bool} {fuel n : Nat} {t : TypeId} {cs : List Value} {l : List (List UInt8)} {p : List MemPlace}
    (ht : Tryd.prog.underlying t = some (.array n 9)) (hl : cs.length = n) (h : DataW.trod enc Tryd.prog w base sp held fuel t cs = some (strData8 l, p)) : cs = (strVals8 l).toList := by
  obtain ⟨xs, m, _, hx, _, hn, hel⟩ := DataW.trod_array ht h
  have hd : xs.map (·.1) = l.map fun x => (.lit (.string x) : DataW H) := by
    have := congrArg Prod.fst hx
    simpa [strData8] using this.symm
  have hln : l.length = n := by
    have := congrArg List.length hd
    simp only [List.length_map] at this
    omega
  apply List.ext_getElem?
  intro i
  unfold strVals8
  rw [List.toList_toArray, List.getElem?_map]
  by_cases hi : i < n
  · have h1 := hel i hi
    rw [cStr8, Nat.mul_one, List.getElem?_eq_getElem (by omega)] at h1
    obtain ⟨s, hc, hs, _⟩ := DataW.trod_string Tryd.underlying9 h1
    have h2 : (xs.map (·.1))[i]? = (l.map fun x => (.lit (.string x) : DataW H))[i]? := by rw [hd]
    rw [List.getElem?_map, List.getElem?_map, List.getElem?_eq_getElem (by omega), List.getElem?_eq_getElem (by omega), hs] at h2
    simp only [Option.map_some, Option.some.injEq, DataW.lit.injEq, Lit.string.injEq] at h2
    have h3 : cs[i]? = some (.string s) := by
      have := congrArg (·[0]?) hc
      simpa [List.getElem?_take, List.getElem?_drop] using this
    rw [h3, List.getElem?_eq_getElem (by omega)]
    exact congrArg (fun x => some (Value.string x)) (string_of_list8 h2)
  · rw [List.getElem?_eq_none (by omega), List.getElem?_eq_none (by omega)]; rfl
theorem strs_of_head8 {W : World} {name : String} {g n : Nat} {t : TypeId} {l : List (List UInt8)} {rest : List (String × DataW Unit)} (hg : Tryd.prog.globalNamed name = some g) (hty : (Tryd.prog.globals[g]?).map (·.type) = some t)
    (ht : Tryd.prog.underlying t = some (.array n 9)) (hc : Tryd.prog.cellsOf t = n) (h : laidMet Tryd.prog ((name, strData8 l) :: rest) W) : W.var? Tryd.prog name = some (strVals8 l) := by
  obtain ⟨_, ⟨g', t', cs, fuel, p, q, hg', ht', hvar, hd, _⟩, _⟩ := h
  obtain rfl := Option.some.inj (hg.symm.trans hg')
  obtain rfl := Option.some.inj (hty.symm.trans ht')
  have hlen : cs.toList.length = n := by
    obtain ⟨_, _, _, _, hl, _⟩ := DataW.trod_array ht hd
    rw [hl, hc]
  have := strs_of_read8 ht hlen hd
  rw [hvar]
  exact congrArg some (Array.toList_inj.1 this)
abbrev laidList {H : Type} : List (String × DataW H) := [("tailwater/clauses.names", Rows.laid_tailwater_clauses_names)]
theorem fix_of_laid {W : World} (h : laidMetH Tryd.prog laidList W) : NameFix W := by
  rw [MakeChecks.laidMetH_plain _ _ _ (by kernel_rfl)] at h
  exact strs_of_head8 (l := [[97], [98], [99], [100]]) gName tNames8 Tryd.underlying69 cNames8 h
theorem door_met (os : Os) (args : Array Value) : laidMetH Tryd.prog laidList ((World.doorLaid Tryd.prog 400 os).forCall (fun _ _ => 0) ⟨#[], args, []⟩).memory :=
  laidMetH_of_parts3 (fuel := 8) (laidMet_of_run' 8 (by kernel_rfl) (by kernel_rfl)) (by kernel_rfl) (by kernel_rfl)
end Go.Proofs.YtfmobnlnedljeaaDoor

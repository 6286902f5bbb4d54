/-
  An array of strings that a row lists holds the list's strings; the types of what package chars' and strconv's listed variables are.
-/
import Derived.Test.YtdinaedknlkicaaGreatDoorRows
import Derived.Test.YtdinaedknlkicaaGreatDoorLexCut
import Derived.LaidMore
import Derived.Stop.LaidErr
import Derived.Stop.Joined
namespace Go.Proofs.YtdinaedknlkicaaGreatDoor
open Go.ChangeShapes Go.WideShapes Go.ChangeAt Go.RowKit

theorem own : ownKnob Tryz.prog.godebug = none := by kernel_rfl
theorem tSym : (Tryz.prog.globals[1]?).map (·.type) = some 122 := by kernel_rfl
theorem tWord : (Tryz.prog.globals[2]?).map (·.type) = some 125 := by kernel_rfl
theorem tRange : (Tryz.prog.globals[6]?).map (·.type) = some 82 := by kernel_rfl
theorem cStr : Tryz.prog.cellsOf 9 = 1 := by kernel_rfl
theorem cErrStr : Tryz.prog.cellsOf 172 = 1 := by kernel_rfl
theorem cSym : Tryz.prog.cellsOf 122 = 13 := by kernel_rfl
theorem cWord : Tryz.prog.cellsOf 125 = 29 := by kernel_rfl
theorem star : "*" ++ "errors.errorString" = "*errors.errorString" := by decide
theorem rowErrStr (u : TypeId) (h : Tryz.prog.typeName? 3 u = some "*errors.errorString") : u = 170 :=
  typeName_ptr_named (nm := "errors.errorString") (by rw [star]; kernel_rfl) (by kernel_rfl) (by decide) u (by rw [star]; exact h)

/-- A list of texts as a row lists it. -/
def strData {H : Type} (l : List (List UInt8)) : DataW H := .agg (l.map fun x => .lit (.string x))
theorem string_of_list {s : ByteArray} {l : List UInt8} (h : s.data.toList = l) : s = ⟨l.toArray⟩ := by
  subst h
  cases s; simp
/-- An array of strings that reads as the list holds the list's strings, one in each cell. -/
theorem strs_of_read {H : Type} {enc : TypeId × Value → H} {w : World} {base : Nat} {sp : Nat → Bool} {held : Bool} {fuel n : Nat} {t : TypeId} {cs : List Value} {l : List (List UInt8)} {p : List MemPlace}
    (ht : Tryz.prog.underlying t = some (.array n 9)) (hl : cs.length = n) (h : DataW.trod enc Tryz.prog w base sp held fuel t cs = some (strData l, p)) : cs = (strVals l).toList := by
  obtain ⟨xs, m, _, hx, _, hn, hel⟩ := DataW.trod_array ht h
  have hd : xs.map (·.1) = l.map fun x => (.lit (.string x) : DataW H) := by
    have := congrArg Prod.fst hx
    simpa [strData] using this.symm
  have hln : l.length = n := by
    have := congrArg List.length hd
    simp only [List.length_map] at this
    omega
  apply List.ext_getElem?
  intro i
  unfold strVals
  rw [List.toList_toArray, List.getElem?_map]
  by_cases hi : i < n
  · have h1 := hel i hi
    rw [cStr, Nat.mul_one, List.getElem?_eq_getElem (by omega)] at h1
    obtain ⟨s, hc, hs, _⟩ := DataW.trod_string Tryz.underlying9 h1
    have h2 : (xs.map (·.1))[i]? = (l.map fun x => (.lit (.string x) : DataW H))[i]? := by rw [hd]
    rw [List.getElem?_map, List.getElem?_map, List.getElem?_eq_getElem (by omega), List.getElem?_eq_getElem (by omega), hs] at h2
    simp only [Option.map_some, Option.some.injEq, DataW.lit.injEq, Lit.string.injEq] at h2
    have h3 : cs[i]? = some (.string s) := by
      have := congrArg (·[0]?) hc
      simpa [List.getElem?_take, List.getElem?_drop] using this
    rw [h3, List.getElem?_eq_getElem (by omega)]
    exact congrArg (fun x => some (Value.string x)) (string_of_list h2)
  · rw [List.getElem?_eq_none (by omega), List.getElem?_eq_none (by omega)]; rfl
theorem strs_of_head {W : World} {name : String} {g n : Nat} {t : TypeId} {l : List (List UInt8)} {rest : List (String × DataW Unit)} (hg : Tryz.prog.globalNamed name = some g) (hty : (Tryz.prog.globals[g]?).map (·.type) = some t)
    (ht : Tryz.prog.underlying t = some (.array n 9)) (hc : Tryz.prog.cellsOf t = n) (h : laidMet Tryz.prog ((name, strData l) :: rest) W) : W.var? Tryz.prog name = some (strVals l) := by
  obtain ⟨_, ⟨g', t', cs, fuel, p, q, hg', ht', hvar, hd, _⟩, _⟩ := h
  obtain rfl := Option.some.inj (hg.symm.trans hg')
  obtain rfl := Option.some.inj (hty.symm.trans ht')
  have hlen : cs.toList.length = n := by
    obtain ⟨_, _, _, _, hl, _⟩ := DataW.trod_array ht hd
    rw [hl, hc]
  have := strs_of_read ht hlen hd
  rw [hvar]
  exact congrArg some (Array.toList_inj.1 this)

end Go.Proofs.YtdinaedknlkicaaGreatDoor

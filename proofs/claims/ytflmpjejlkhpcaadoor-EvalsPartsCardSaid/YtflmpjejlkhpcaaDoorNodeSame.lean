/-
  Contract of nodes.Same at the landed code (layer 4).
-/
import Derived.Test.YtflmpjejlkhpcaaDoorNodeCheck
import Derived.Outline
namespace Go.Proofs.YtflmpjejlkhpcaaDoor.Nodes
open Go.ChangeShapes Go.WideShapes Go.ChangeAt Go.RowKit

theorem core_more {a b : List Nd} {k : Nat} (ha : k < a.length) (hb : k < b.length) (h : (a.take k).map core = (b.take k).map core) (e : core a[k] = core b[k]) : (a.take (k + 1)).map core = (b.take (k + 1)).map core := by
  rw [List.take_succ_eq_append_getElem ha, List.take_succ_eq_append_getElem hb, List.map_append, List.map_append, h]
  simp [e]
theorem core_differ {a b : List Nd} {k : Nat} (ha : k < a.length) (hb : k < b.length) (e : core a[k] ≠ core b[k]) : ¬ a.map core = b.map core := by
  intro h
  apply e
  have h1 : (a.map core)[k]? = (b.map core)[k]? := by rw [h]
  rw [List.getElem?_map, List.getElem?_map, List.getElem?_eq_getElem ha, List.getElem?_eq_getElem hb] at h1
  simpa using h1
theorem alike_len {a b : List Nd} (h : ¬ a.length = b.length) : alikeB a b = false := decide_eq_false (fun e => h (by simpa using congrArg List.length e))
theorem same_err {a b : List Nd} (h : checkV a ≠ 0) : sameV a b = (false, checkV a) := by unfold sameV; rw [if_neg h]
theorem same_err2 {a b : List Nd} (h : checkV a = 0) (h2 : checkV b ≠ 0) : sameV a b = (false, checkV b) := by unfold sameV; rw [if_pos h, if_neg h2]
theorem same_is {a b : List Nd} (h : checkV a = 0) (h2 : checkV b = 0) : sameV a b = (alikeB a b, 0) := by unfold sameV; rw [if_pos h, if_pos h2]
end Go.Proofs.YtflmpjejlkhpcaaDoor.Nodes

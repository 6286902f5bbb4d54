/-
  Contracts of the reference of layer 2: Symbols, Words, Longest, Word.
-/
import Derived.Test.YtdinaedknlkicaaGreatDoorCharsTabs
import Derived.BigQuiet
namespace Go.Proofs.YtdinaedknlkicaaGreatDoor
open Go.ChangeShapes Go.WideShapes Go.ChangeAt Go.RowKit

/-! ### The reference's lists -/
def refVals : Array Value := strVals refTab
def refAt (k : Nat) : ByteArray := ⟨(refTab.getD k []).toArray⟩
theorem vals_cell (w : World) (l : List (List UInt8)) (t : TypeId) (k : Nat) (hk : k < l.length) :
    (w.alloc (.cells (strVals l) t)).cell? ⟨w.heap.size, k, none⟩ = some (.string ⟨(l.getD k []).toArray⟩) := by
  have e : (strVals l)[k]? = some (.string ⟨(l.getD k []).toArray⟩) := by
    unfold strVals
    rw [List.getElem?_toArray, List.getElem?_map, List.getElem?_eq_getElem hk, List.getD_eq_getElem?_getD, List.getElem?_eq_getElem hk]
    rfl
  rw [← e]
  simp [go_sem]
theorem vals_below (w : World) (c : Array Value) (t : TypeId) : Below w.heap.size w (w.alloc (.cells c t)) := (Below.refl w.heap.size w).alloc (Nat.le_refl _) _
theorem vals_size (w : World) (c : Array Value) (t : TypeId) : w.heap.size < (w.alloc (.cells c t)).heap.size := by simp

/-! ### Longest -/
theorem ref_first {r : List UInt8} {i : Nat} (hi : i < 13) (hno : ∀ j, j < i → (refTab.getD j []).isPrefixOf r = false) (h : (refTab.getD i []).isPrefixOf r = true) : refL r = (refTab.getD i []).length := by
  have hf : refTab.find? (·.isPrefixOf r) = some (refTab.getD i []) := by
    rw [List.find?_eq_some_iff_getElem]
    refine ⟨h, i, hi, ?_, ?_⟩
    · rw [List.getD_eq_getElem?_getD, List.getElem?_eq_getElem hi]; rfl
    · intro j hj
      have := hno j hj
      rw [List.getD_eq_getElem?_getD, List.getElem?_eq_getElem (by have : refTab.length = 13 := rfl; omega)] at this
      simpa using this
  unfold refL
  rw [hf]; rfl
theorem ref_none {r : List UInt8} (hno : ∀ j, j < 13 → (refTab.getD j []).isPrefixOf r = false) : refL r = 0 := by
  have hf : refTab.find? (·.isPrefixOf r) = none := by
    rw [List.find?_eq_none]
    intro x hx hp
    obtain ⟨j, hj, rfl⟩ := List.getElem_of_mem hx
    have := hno j hj
    rw [List.getD_eq_getElem?_getD, List.getElem?_eq_getElem hj] at this
    simp at this
    rw [this] at hp; cases hp
  unfold refL
  rw [hf]; rfl
theorem cut_prefix (s x : ByteArray) (k : Nat) : ((s.extract k (k + x.size)).toList == x.toList) = x.data.toList.isPrefixOf (s.data.toList.drop k) := by
  have e : (s.extract k (k + x.size)).toList = (s.data.toList.drop k).take x.size := by
    rw [ByteArray.toList_eq, ByteArray.data_extract, Array.toList_extract, List.extract_eq_take_drop]
    congr 1; omega
  rw [e, ByteArray.toList_eq]
  rw [Bool.eq_iff_iff, beq_iff_eq, List.isPrefixOf_iff_prefix]
  constructor
  · intro h; rw [← h]; exact List.take_prefix _ _
  · intro h
    have := List.prefix_iff_eq_take.1 h
    rw [this]
    congr 1
theorem long_prefix (s x : ByteArray) (k : Nat) (h : ¬ x.size ≤ s.size - k) : x.data.toList.isPrefixOf (s.data.toList.drop k) = false := by
  rw [Bool.eq_false_iff]
  intro hp
  have := (List.isPrefixOf_iff_prefix.1 hp).length_le
  simp at this
  omega

/-! ### Word -/
end Go.Proofs.YtdinaedknlkicaaGreatDoor

/-
  Contracts of the reference of layer 2: Symbols, Words, Longest, Word.
-/
import Derived.Test.YtgmfelikmjclbaaGreatDoorqCharsTabs
import Derived.BigQuiet
namespace Go.Proofs.YtgmfelikmjclbaaGreatDoor
open Go.ChangeShapes Go.WideShapes Go.ChangeAt Go.RowKit

/-! ### The reference's lists -/
def refVals : Array Value := strVals refTab
def refAt (k : Nat) : ByteArray := ⟨(refTab.getD k []).toArray⟩
set_option maxRecDepth 100000 in
theorem symbols_any (w : World) : Calls Tryz.prog 82 #[] w fun e w' => e = .returned (.slice (some ⟨w.heap.size, 0, none⟩) 13 13) ∧ w.alloc (.cells refVals 9) = w' := by
  go_enter Tryz.func82, Tryz.ntmps82
  go_wp2
  go_ret
  exact ⟨rfl, rfl⟩
set_option maxRecDepth 100000 in
theorem words_any (w : World) : Calls Tryz.prog 81 #[] w fun e w' => e = .returned (.slice (some ⟨w.heap.size, 0, none⟩) 29 29) ∧ w.alloc (.cells wordVals 9) = w' := by
  go_enter Tryz.func81, Tryz.ntmps81
  go_wp2
  go_ret
  exact ⟨rfl, rfl⟩
theorem vals_cell (w : World) (l : List (List UInt8)) (t : TypeId) (k : Nat) (hk : k < l.length) :
    (w.alloc (.cells (strVals l) t)).cell? ⟨w.heap.size, k, none⟩ = some (.string ⟨(l.getD k []).toArray⟩) := by
  have e : (strVals l)[k]? = some (.string ⟨(l.getD k []).toArray⟩) := by
    unfold strVals
    rw [List.getElem?_toArray, List.getElem?_map, List.getElem?_eq_getElem hk, List.getD_eq_getElem?_getD, List.getElem?_eq_getElem hk]
    rfl
  rw [← e]
  simp [go_sem]
theorem vals_below (w : World) (c : Array Value) (t : TypeId) : Below w.heap.size w (w.alloc (.cells c t)) := (Below.refl w.heap.size w).alloc (Nat.le_refl _) _
theorem vals_size (w : World) (c : Array Value) (t : TypeId) : w.heap.size < (w.alloc (.cells c t)).heap.size := by simp

/-! ### Longest -/
theorem ref_first {r : List UInt8} {i : Nat} (hi : i < 13) (hno : ∀ j, j < i → (refTab.getD j []).isPrefixOf r = false) (h : (refTab.getD i []).isPrefixOf r = true) : refL r = (refTab.getD i []).length := by
  have hf : refTab.find? (·.isPrefixOf r) = some (refTab.getD i []) := by
    rw [List.find?_eq_some_iff_getElem]
    refine ⟨h, i, hi, ?_, ?_⟩
    · rw [List.getD_eq_getElem?_getD, List.getElem?_eq_getElem hi]; rfl
    · intro j hj
      have := hno j hj
      rw [List.getD_eq_getElem?_getD, List.getElem?_eq_getElem (by have : refTab.length = 13 := rfl; omega)] at this
      simpa using this
  unfold refL
  rw [hf]; rfl
theorem ref_none {r : List UInt8} (hno : ∀ j, j < 13 → (refTab.getD j []).isPrefixOf r = false) : refL r = 0 := by
  have hf : refTab.find? (·.isPrefixOf r) = none := by
    rw [List.find?_eq_none]
    intro x hx hp
    obtain ⟨j, hj, rfl⟩ := List.getElem_of_mem hx
    have := hno j hj
    rw [List.getD_eq_getElem?_getD, List.getElem?_eq_getElem hj] at this
    simp at this
    rw [this] at hp; cases hp
  unfold refL
  rw [hf]; rfl
theorem cut_prefix (s x : ByteArray) (k : Nat) : ((s.extract k (k + x.size)).toList == x.toList) = x.data.toList.isPrefixOf (s.data.toList.drop k) := by
  have e : (s.extract k (k + x.size)).toList = (s.data.toList.drop k).take x.size := by
    rw [ByteArray.toList_eq, ByteArray.data_extract, Array.toList_extract, List.extract_eq_take_drop]
    congr 1; omega
  rw [e, ByteArray.toList_eq]
  rw [Bool.eq_iff_iff, beq_iff_eq, List.isPrefixOf_iff_prefix]
  constructor
  · intro h; rw [← h]; exact List.take_prefix _ _
  · intro h
    have := List.prefix_iff_eq_take.1 h
    rw [this]
    congr 1
theorem long_prefix (s x : ByteArray) (k : Nat) (h : ¬ x.size ≤ s.size - k) : x.data.toList.isPrefixOf (s.data.toList.drop k) = false := by
  rw [Bool.eq_false_iff]
  intro hp
  have := (List.isPrefixOf_iff_prefix.1 hp).length_le
  simp at this
  omega

set_option maxRecDepth 100000 in
set_option maxHeartbeats 1000000 in
theorem longest_any (s : ByteArray) (k : Nat) (hk : k ≤ s.size) (hs : s.size ≤ maxLen) (w : World) :
    Calls Tryz.prog 63 #[.string s, .int .i64 k] w fun e w' => e = .returned (.int .i64 (symL (s.data.toList.drop k))) ∧ Below w.heap.size w w' := by
  unfold maxLen at hs
  rw [← ref_sym]
  go_enter Tryz.func63, Tryz.ntmps63
  go_wp2_with fail
  refine (symbols_any w).mono ?_
  rintro e w1 ⟨rfl, hw1⟩
  have HC : Hid (∀ i, i < 13 → w1.cell? ⟨w.heap.size, i, none⟩ = some (.string (refAt i))) := Lib.hid fun i hi => by rw [← hw1]; exact vals_cell w refTab _ i hi
  have HB : Hid (Below w.heap.size w w1) := Lib.hid (by rw [← hw1]; exact vals_below w _ _)
  have HS : Hid (w.heap.size < w1.heap.size) := Lib.hid (by rw [← hw1]; exact vals_size w _ _)
  clear hw1
  go_wp2_with fail
  go_loopg [6] 13 (fun g s6 wx => ∃ i : Nat, i + g = 13 ∧ s6 = .int .i64 i ∧ Hid (∀ j, j < i → (refTab.getD j []).isPrefixOf (s.data.toList.drop k) = false) ∧ Below w1.heap.size w1 wx)
  case atStart => exact ⟨0, by omega, rfl, Lib.hid fun j hj => absurd hj (Nat.not_lt_zero _), Below.refl _ _⟩
  case round =>
    obtain ⟨i, hi, rfl, hno, hbw⟩ := hrel
    cases gk with
    | zero =>
      obtain rfl : i = 13 := by omega
      have H := Lib.hid (ref_none hno.out)
      clear hi
      go_wp2
      go_ret
      exact ⟨by rw [H.out]; rfl, HB.out.trans (hbw.mono HB.out.size)⟩
    | succ g =>
      have hlt : i < 13 := by omega
      have hc := (hbw.cell (p := ⟨w.heap.size, i, none⟩) HS.out).trans (HC.out i hlt)
      obtain ⟨x, hxe⟩ : ∃ x, refAt i = x := ⟨_, rfl⟩
      have hxl : (refTab.getD i []) = x.data.toList := by rw [← hxe]; rfl
      rw [hxe] at hc
      by_cases hl : (x.size : Int) ≤ (s.size : Int) - k
      · have hdl : decide ((x.size : Int) ≤ (s.size : Int) - k) = true := decide_eq_true hl
        have hp := cut_prefix s x k
        cases hq : ((s.extract k (k + x.size)).toList == x.toList)
        · have H : Hid (∀ j, j < i + 1 → (refTab.getD j []).isPrefixOf (s.data.toList.drop k) = false) := Lib.hid fun j hj => by
            rcases Nat.lt_succ_iff_lt_or_eq.1 hj with h | rfl
            · exact hno.out j h
            · rw [hxl, ← hp, hq]
          clear hp hxl hno
          go_wp2_with fail
          go_quiet (fail)
          go_wp2_with fail
          go_roundg g
          case measure => omega
          case rel => exact ⟨i + 1, by omega, by go_num, H, below_drewN hbw _⟩
        · have H := Lib.hid (ref_first hlt hno.out (by rw [hxl, ← hp, hq]))
          rw [hxl] at H
          clear hp hno
          go_wp2_with fail
          go_quiet (fail)
          go_wp2_with fail
          go_ret
          exact ⟨by rw [H.out]; simp, HB.out.trans ((below_drewN hbw _).mono HB.out.size)⟩
      · have hdl : decide ((x.size : Int) ≤ (s.size : Int) - k) = false := decide_eq_false hl
        have hp := long_prefix s x k (by omega)
        have H : Hid (∀ j, j < i + 1 → (refTab.getD j []).isPrefixOf (s.data.toList.drop k) = false) := Lib.hid fun j hj => by
          rcases Nat.lt_succ_iff_lt_or_eq.1 hj with h | rfl
          · exact hno.out j h
          · rw [hxl]; exact hp
        clear hp hxl hno
        go_wp2_with fail
        go_quiet (fail)
        go_wp2_with fail
        go_roundg g
        case measure => omega
        case rel => exact ⟨i + 1, by omega, by go_num, H, below_drewN hbw _⟩

/-! ### Word -/
set_option maxRecDepth 100000 in
theorem refWord_any (s : ByteArray) (w : World) :
    Calls Tryz.prog 62 #[.string s] w fun e w' => e = .returned (.bool (wordB s.data.toList)) ∧ Below w.heap.size w w' := by
  go_enter Tryz.func62, Tryz.ntmps62
  go_wp2_with fail
  refine (words_any w).mono ?_
  rintro e w1 ⟨rfl, hw1⟩
  have HC : Hid (∀ i, i < 29 → w1.cell? ⟨w.heap.size, i, none⟩ = some (.string (wordAt i))) := Lib.hid fun i hi => by rw [← hw1]; exact vals_cell w wordTab _ i hi
  have HB : Hid (Below w.heap.size w w1) := Lib.hid (by rw [← hw1]; exact vals_below w _ _)
  clear hw1
  go_wp2_with fail
  go_loop [4] (fun i => ∃ k : Nat, k ≤ 29 ∧ i = .int .i64 k ∧ Hid (∀ j, j < k → s.data.toList ≠ (wordAt j).data.toList)) (fun i => 29 - (intOf i).toNat)
  case atStart => exact ⟨0, Nat.zero_le _, rfl, Lib.hid fun j hj => absurd hj (Nat.not_lt_zero _)⟩
  case round =>
    obtain ⟨k, hk, rfl, hall⟩ := hrel
    by_cases hlt : k < 29
    · have hx := HC.out k hlt
      by_cases he : s.data.toList = (wordAt k).data.toList
      · have H := Lib.hid (word_in hlt he)
        have ht : ((wordAt k).toList == s.toList) = true := by rw [beq_iff_eq, ByteArray.toList_eq, ByteArray.toList_eq]; exact he.symm
        clear he hall
        go_wp2_with fail
        go_ret
        exact ⟨by rw [H.out]; rfl, HB.out⟩
      · have H : Hid (∀ j, j < k + 1 → s.data.toList ≠ (wordAt j).data.toList) := Lib.hid fun j hj => by
          rcases Nat.lt_succ_iff_lt_or_eq.1 hj with h | rfl
          · exact hall.out j h
          · exact he
        have ht : ((wordAt k).toList == s.toList) = false := by rw [beq_eq_false_iff_ne, ByteArray.toList_eq, ByteArray.toList_eq]; exact fun e => he e.symm
        clear he hall
        go_wp2_with fail
        go_round
        case rel => exact ⟨k + 1, by omega, by go_num, H⟩
        case measure => simp [intOf]; omega
    · obtain rfl : k = 29 := by omega
      have H := Lib.hid (word_out hall.out)
      clear hall
      go_wp2_with fail
      go_ret
      exact ⟨by rw [H.out]; rfl, HB.out⟩
end Go.Proofs.YtgmfelikmjclbaaGreatDoor

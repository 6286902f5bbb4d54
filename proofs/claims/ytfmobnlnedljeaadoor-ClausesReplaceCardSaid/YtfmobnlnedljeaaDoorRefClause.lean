/-
  Contracts of the reference of layer 8: Name, Source, Fits, Window, Sources, SameSources.
-/
import Derived.Test.YtfmobnlnedljeaaDoorClauseWin
namespace Go.Proofs.YtfmobnlnedljeaaDoor.Nodes
open Go.ChangeShapes Go.WideShapes Go.ChangeAt Go.RowKit

theorem inS_low {n : Int} (h : n < 0) : inS n = false := decide_eq_false (by omega)
theorem inS_high {n : Int} (h : 3 < n) : inS n = false := decide_eq_false (by omega)
abbrev nameBox : Obj := .cells #[.string ⟨#[97]⟩, .string ⟨#[98]⟩, .string ⟨#[99]⟩, .string ⟨#[100]⟩] 9
theorem name_cells (w : World) : ∀ k : Nat, k < 4 → (w.alloc nameBox).cell? ⟨w.heap.size, k, none⟩ = some (.string (nameAt k)) := by
  have e : (w.alloc nameBox).heap[w.heap.size]? = some nameBox := heap_alloc_new _ _
  intro k hk
  unfold World.cell?
  simp only [e]
  match k, hk with
  | 0, _ => rfl
  | 1, _ => rfl
  | 2, _ => rfl
  | 3, _ => rfl
theorem refName_any (n : Int) (w : World) : Calls Tryd.prog 19 #[.int .i64 n] w fun e w' => e = .returned (.tuple #[.string (nameV n).1, .int .i64 (nameV n).2]) ∧ Below w.heap.size w w' := by
  by_cases h1 : n < 0
  · rw [nameV_out (inS_low h1)]
    go_enter Tryd.func19, Tryd.ntmps19
    go_wp2_with fail
    go_ret2
    exact ⟨rfl, Below.refl _ _⟩
  by_cases h2 : 3 < n
  · rw [nameV_out (inS_high h2)]
    go_enter Tryd.func19, Tryd.ntmps19
    go_wp2_with fail
    go_ret2
    exact ⟨rfl, Below.refl _ _⟩
  obtain ⟨k, rfl⟩ : ∃ k : Nat, n = k := ⟨n.toNat, by omega⟩
  have hk : k < 4 := by omega
  have hk4 : (k : Int) < 4 := by omega
  rw [nameV_in hk]
  have hc := name_cells w k hk
  obtain ⟨s, hs⟩ : ∃ s, nameAt k = s := ⟨_, rfl⟩
  rw [hs] at hc ⊢
  unfold nameBox at hc
  clear hs
  go_enter Tryd.func19, Tryd.ntmps19
  go_wp2_with fail
  go_ret2
  exact ⟨rfl, box_below _ _⟩
set_option maxRecDepth 100000 in
theorem refSource_any (s : ByteArray) (w : World) : Calls Tryd.prog 20 #[.string s] w fun e w' => e = .returned (.tuple #[.int .i64 (sourceV s).1, .int .i64 (sourceV s).2]) ∧ Below w.heap.size w w' := by
  have NM := Lib.hid (fun n W => refName_any n W)
  go_enter Tryd.func20, Tryd.ntmps20
  go_wp2_with fail
  go_loopg [4] 4 (fun g i wx => ∃ k : Nat, k + g = 4 ∧ i = .int .i64 k ∧ Hid (∀ j, j < k → s.data.toList ≠ (nameAt j).data.toList) ∧ Hid (Below w.heap.size w wx))
  case atStart => exact ⟨0, by omega, rfl, Lib.hid fun j hj => absurd hj (Nat.not_lt_zero _), Lib.hid (Below.refl _ _)⟩
  case round =>
    obtain ⟨k, hk, rfl, hall, HB⟩ := hrel
    cases gk with
    | zero =>
      obtain rfl : k = 4 := by omega
      have H := Lib.hid (source_miss hall.out)
      clear hall
      go_wp2_with fail
      go_ret2
      exact ⟨by rw [H.out]; rfl, HB.out⟩
    | succ g =>
      have hlt : k < 4 := by omega
      have hk4 : (k : Int) < 4 := by omega
      have N1 := Lib.hid (NM.out (k : Int) wr)
      rw [nameV_in hlt] at N1
      by_cases he : s.data.toList = (nameAt k).data.toList
      · have H := Lib.hid (source_hit hlt hall.out he)
        have ht : ((nameAt k).toList == s.toList) = true := by rw [beq_iff_eq, ByteArray.toList_eq, ByteArray.toList_eq]; exact he.symm
        obtain ⟨x, hx⟩ : ∃ s, nameAt k = s := ⟨_, rfl⟩
        rw [hx] at ht N1
        clear he hall hx
        go_wp2_with fail
        refine N1.out.mono ?_
        rintro e w2 ⟨rfl, hb⟩
        have HB2 := Lib.hid (below_then HB.out hb)
        clear hb
        go_wp2_with fail
        go_ret2
        exact ⟨by rw [H.out]; rfl, HB2.out⟩
      · have H : Hid (∀ j, j < k + 1 → s.data.toList ≠ (nameAt j).data.toList) := Lib.hid fun j hj => by
          rcases Nat.lt_succ_iff_lt_or_eq.1 hj with h | rfl
          · exact hall.out j h
          · exact he
        have ht : ((nameAt k).toList == s.toList) = false := by rw [beq_eq_false_iff_ne, ByteArray.toList_eq, ByteArray.toList_eq]; exact fun e => he e.symm
        obtain ⟨x, hx⟩ : ∃ s, nameAt k = s := ⟨_, rfl⟩
        rw [hx] at ht N1
        clear he hall hx
        go_wp2_with fail
        refine N1.out.mono ?_
        rintro e w2 ⟨rfl, hb⟩
        have HB2 := Lib.hid (below_then HB.out hb)
        clear hb
        go_wp2_with fail
        go_roundg g
        case measure => omega
        case rel => exact ⟨k + 1, by omega, by go_num, H, HB2⟩

/-! ### Windows -/
theorem refFits_any (x : Wn) (w : World) : Calls Tryd.prog 38 #[winVal x] w fun e w' => e = .returned (.bool (fitsW x)) ∧ Below w.heap.size w w' := by
  obtain ⟨k, s, e⟩ := x
  unfold winVal
  simp only
  have no : ∀ (_ : ¬ (1 ≤ s ∧ s ≤ 1073741824 ∧ ((k = 2 ∧ 1 ≤ e ∧ e ≤ s ∧ s ≤ 16 * e) ∨ ((k = 1 ∨ k = 3) ∧ e = 0)))), fitsW ⟨k, s, e⟩ = false := fun h => decide_eq_false h
  have yes : ∀ (_ : (1 ≤ s ∧ s ≤ 1073741824 ∧ ((k = 2 ∧ 1 ≤ e ∧ e ≤ s ∧ s ≤ 16 * e) ∨ ((k = 1 ∨ k = 3) ∧ e = 0)))), fitsW ⟨k, s, e⟩ = true := fun h => decide_eq_true h
  by_cases h1 : s < 1
  · rw [no (by omega)]
    clear no yes
    go_enter Tryd.func38, Tryd.ntmps38
    go_wp2_with fail
    go_ret
    exact ⟨rfl, box_below _ _⟩
  by_cases h2 : 1073741824 < s
  · rw [no (by omega)]
    clear no yes
    go_enter Tryd.func38, Tryd.ntmps38
    go_wp2_with fail
    go_ret
    exact ⟨rfl, box_below _ _⟩
  by_cases k2 : k = 2
  · subst k2
    by_cases h3 : 1 ≤ e
    · by_cases h4 : e ≤ s
      · have hw : wrap64 (16 * e) = 16 * e := by unfold wrap64; omega
        by_cases h5 : s ≤ 16 * e
        · rw [yes (by omega)]
          clear no yes
          go_enter Tryd.func38, Tryd.ntmps38
          go_wp2_with fail
          go_ret
          exact ⟨rfl, box_below _ _⟩
        · rw [no (by omega)]
          have h6 : decide (s ≤ 16 * e) = false := decide_eq_false h5
          clear no yes
          go_enter Tryd.func38, Tryd.ntmps38
          go_wp2_with fail
          go_ret
          exact ⟨rfl, box_below _ _⟩
      · rw [no (by omega)]
        have h6 : decide (e ≤ s) = false := decide_eq_false h4
        clear no yes
        go_enter Tryd.func38, Tryd.ntmps38
        go_wp2_with fail
        go_ret
        exact ⟨rfl, box_below _ _⟩
    · rw [no (by omega)]
      have h6 : decide (1 ≤ e) = false := decide_eq_false h3
      clear no yes
      go_enter Tryd.func38, Tryd.ntmps38
      go_wp2_with fail
      go_ret
      exact ⟨rfl, box_below _ _⟩
  have q2 : (k == 2) = false := by rw [beq_eq_false_iff_ne]; exact k2
  have q : (k = 1 ∨ ((k == 1) = false ∧ k = 3)) ∨ ((k == 1) = false ∧ (k == 3) = false) := by
    by_cases h : k = 1
    · exact .inl (.inl h)
    · by_cases h' : k = 3
      · exact .inl (.inr ⟨by rw [beq_eq_false_iff_ne]; exact h, h'⟩)
      · exact .inr ⟨by rw [beq_eq_false_iff_ne]; exact h, by rw [beq_eq_false_iff_ne]; exact h'⟩
  rcases q with q | ⟨q, q3⟩
  · have hk : k = 1 ∨ k = 3 := q.imp id (·.2)
    cases h0 : (e == 0)
    · rw [no (by rw [beq_eq_false_iff_ne] at h0; omega)]
      clear no yes hk k2
      rcases q with rfl | ⟨q, rfl⟩
      all_goals
        go_enter Tryd.func38, Tryd.ntmps38
        go_wp2_with fail
        go_ret
        exact ⟨rfl, box_below _ _⟩
    · rw [yes (by rw [beq_iff_eq] at h0; omega)]
      clear no yes hk k2
      rcases q with rfl | ⟨q, rfl⟩
      all_goals
        go_enter Tryd.func38, Tryd.ntmps38
        go_wp2_with fail
        go_ret
        exact ⟨rfl, box_below _ _⟩
  · rw [no (by rw [beq_eq_false_iff_ne] at q q3; omega)]
    clear no yes k2
    go_enter Tryd.func38, Tryd.ntmps38
    go_wp2_with fail
    go_ret
    exact ⟨rfl, box_below _ _⟩
theorem refWindow_any (x : Wn) (w : World) : Calls Tryd.prog 21 #[winVal x] w fun e w' => e = .returned (.int .i64 (windowV x)) ∧ Below w.heap.size w w' := by
  have F := Lib.hid (refFits_any x (w.alloc (winBox x)))
  unfold winVal winBox at F
  unfold winVal
  cases h : fitsW x
  · rw [windowV_no h]
    rw [h] at F
    clear h
    go_enter Tryd.func21, Tryd.ntmps21
    go_wp2_with fail
    refine F.out.mono ?_
    rintro e w1 ⟨rfl, hb⟩
    have HB := Lib.hid (below_box (Below.refl _ w) hb)
    clear hb
    go_wp2_with fail
    go_ret
    exact ⟨rfl, HB.out⟩
  · rw [windowV_yes h]
    rw [h] at F
    clear h
    go_enter Tryd.func21, Tryd.ntmps21
    go_wp2_with fail
    refine F.out.mono ?_
    rintro e w1 ⟨rfl, hb⟩
    have HB := Lib.hid (below_box (Below.refl _ w) hb)
    clear hb
    go_wp2_with fail
    go_ret
    exact ⟨rfl, HB.out⟩
end Go.Proofs.YtfmobnlnedljeaaDoor.Nodes

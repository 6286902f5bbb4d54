/-
  Contracts at the landed code (layer 8): clauses.Window; slices.Equal.
-/
import Derived.Test.YtfmobnlnedljeaaDoorClauseParts
namespace Go.Proofs.YtfmobnlnedljeaaDoor.Nodes
open Go.ChangeShapes Go.WideShapes Go.ChangeAt Go.RowKit

theorem fits_slide {s e : Int} (h1 : inB e 1 s = true) (h2 : ¬ wrap64 (16 * e) < s) (h3 : inB s 1 1073741824 = true) : windowV ⟨2, s, e⟩ = 0 := by
  have a1 : 1 ≤ e ∧ e ≤ s := of_decide_eq_true h1
  have a3 : 1 ≤ s ∧ s ≤ 1073741824 := of_decide_eq_true h3
  have : wrap64 (16 * e) = 16 * e := (by unfold wrap64; omega)
  rw [this] at h2
  exact windowV_yes (fitsW_iff.2 ⟨a3.1, a3.2, .inl ⟨rfl, a1.1, a1.2, by show s ≤ 16 * e; omega⟩⟩)
theorem slide_low {s e : Int} (h1 : inB e 1 s = false) : windowV ⟨2, s, e⟩ = 8 := by
  refine windowV_no (decide_eq_false fun h => ?_)
  have a1 : ¬ (1 ≤ e ∧ e ≤ s) := of_decide_eq_false h1
  simp only at h
  omega
theorem slide_many {s e : Int} (h2 : wrap64 (16 * e) < s) : windowV ⟨2, s, e⟩ = 8 := by
  refine windowV_no (decide_eq_false fun h => ?_)
  simp only at h
  have : wrap64 (16 * e) = 16 * e := (by unfold wrap64; omega)
  rw [this] at h2
  omega
theorem size_out {k s e : Int} (h3 : inB s 1 1073741824 = false) : windowV ⟨k, s, e⟩ = 8 := by
  refine windowV_no (decide_eq_false fun h => ?_)
  have a3 : ¬ (1 ≤ s ∧ s ≤ 1073741824) := of_decide_eq_false h3
  simp only at h
  omega
theorem fits_plain {k s e : Int} (hk : k = 1 ∨ k = 3) (h1 : e = 0) (h3 : inB s 1 1073741824 = true) : windowV ⟨k, s, e⟩ = 0 := by
  have a3 : 1 ≤ s ∧ s ≤ 1073741824 := of_decide_eq_true h3
  exact windowV_yes (fitsW_iff.2 ⟨a3.1, a3.2, .inr ⟨hk, h1⟩⟩)
theorem plain_every {k s e : Int} (hk : k = 1 ∨ k = 3) (h1 : e ≠ 0) : windowV ⟨k, s, e⟩ = 8 := by
  refine windowV_no (decide_eq_false fun h => ?_)
  simp only at h
  omega
theorem kind_none {k s e : Int} (h1 : k ≠ 1) (h2 : k ≠ 2) (h3 : k ≠ 3) : windowV ⟨k, s, e⟩ = 8 := by
  refine windowV_no (decide_eq_false fun h => ?_)
  simp only at h
  omega
theorem box_below (w : World) (o : Obj) : Below w.heap.size w (w.alloc o) := (Below.refl _ w).alloc (Nat.le_refl _) o
set_option maxRecDepth 100000 in
set_option maxHeartbeats 1000000 in
theorem clWindow_any (x : Wn) (w : World) : Calls Tryd.prog 10 #[winVal x] w fun e w' => e = .returned (.int .i64 (windowV x)) ∧ Below w.heap.size w w' := by
  obtain ⟨k, s, e⟩ := x
  unfold winVal
  simp only
  have C := Lib.hid (fun a b c W => cwithinL_any a b c W)
  by_cases k2 : k = 2
  · subst k2
    have C1 := Lib.hid (C.out e 1 s)
    cases h1 : inB e 1 s
    · rw [h1] at C1
      rw [slide_low h1]
      clear h1
      go_enter Tryd.func10, Tryd.ntmps10
      go_wp2_with fail
      refine (C1.out _).mono ?_
      rintro e w2 ⟨rfl, rfl⟩
      go_wp2_with fail
      go_ret
      exact ⟨rfl, box_below _ _⟩
    · rw [h1] at C1
      by_cases h2 : wrap64 (16 * e) < s
      · rw [slide_many h2]
        clear h1
        go_enter Tryd.func10, Tryd.ntmps10
        go_wp2_with fail
        refine (C1.out _).mono ?_
        rintro e w2 ⟨rfl, rfl⟩
        go_wp2_with fail
        go_ret
        exact ⟨rfl, box_below _ _⟩
      · have C2 := Lib.hid (C.out s 1 1073741824)
        cases h3 : inB s 1 1073741824
        · rw [h3] at C2
          rw [size_out h3]
          clear h1 h3
          go_enter Tryd.func10, Tryd.ntmps10
          go_wp2_with fail
          refine (C1.out _).mono ?_
          rintro e w2 ⟨rfl, rfl⟩
          go_wp2_with fail
          refine (C2.out _).mono ?_
          rintro e w2 ⟨rfl, rfl⟩
          go_wp2_with fail
          go_ret
          exact ⟨rfl, box_below _ _⟩
        · rw [h3] at C2
          rw [fits_slide h1 h2 h3]
          clear h1 h3
          go_enter Tryd.func10, Tryd.ntmps10
          go_wp2_with fail
          refine (C1.out _).mono ?_
          rintro e w2 ⟨rfl, rfl⟩
          go_wp2_with fail
          refine (C2.out _).mono ?_
          rintro e w2 ⟨rfl, rfl⟩
          go_wp2_with fail
          go_ret
          exact ⟨rfl, box_below _ _⟩
  have plain : (k = 1 ∨ (k = 3 ∧ (k == 1) = false)) → Calls Tryd.prog 10 #[.agg #[.int .u8 k, .int .i64 s, .int .i64 e]] w fun e' w' => e' = .returned (.int .i64 (windowV ⟨k, s, e⟩)) ∧ Below w.heap.size w w' := by
    intro hk
    have hk2 : k = 1 ∨ k = 3 := hk.imp id (·.1)
    by_cases h0 : e = 0
    · have q0 : (e == 0) = true := by rw [beq_iff_eq]; exact h0
      have C2 := Lib.hid (C.out s 1 1073741824)
      cases h3 : inB s 1 1073741824
      · rw [h3] at C2
        rw [size_out h3]
        clear h3 h0 k2 hk2
        rcases hk with rfl | ⟨rfl, q3⟩
        all_goals
          go_enter Tryd.func10, Tryd.ntmps10
          go_wp2_with fail
          refine (C2.out _).mono ?_
          rintro e w2 ⟨rfl, rfl⟩
          go_wp2_with fail
          go_ret
          exact ⟨rfl, box_below _ _⟩
      · rw [h3] at C2
        rw [fits_plain hk2 h0 h3]
        clear h3 h0 k2 hk2
        rcases hk with rfl | ⟨rfl, q3⟩
        all_goals
          go_enter Tryd.func10, Tryd.ntmps10
          go_wp2_with fail
          refine (C2.out _).mono ?_
          rintro e w2 ⟨rfl, rfl⟩
          go_wp2_with fail
          go_ret
          exact ⟨rfl, box_below _ _⟩
    · have q0 : (e == 0) = false := by rw [beq_eq_false_iff_ne]; exact h0
      rw [plain_every hk2 h0]
      clear h0 k2 hk2
      rcases hk with rfl | ⟨rfl, q3⟩
      all_goals
        go_enter Tryd.func10, Tryd.ntmps10
        go_wp2_with fail
        go_ret
        exact ⟨rfl, box_below _ _⟩
  by_cases k1 : k = 1
  · exact plain (.inl k1)
  have q1 : (k == 1) = false := by rw [beq_eq_false_iff_ne]; exact k1
  by_cases k3 : k = 3
  · exact plain (.inr ⟨k3, q1⟩)
  have q2 : (k == 2) = false := by rw [beq_eq_false_iff_ne]; exact k2
  have q3 : (k == 3) = false := by rw [beq_eq_false_iff_ne]; exact k3
  rw [kind_none k1 k2 k3]
  clear k1 k2 k3 plain
  go_enter Tryd.func10, Tryd.ntmps10
  go_wp2_with fail
  go_ret
  exact ⟨rfl, box_below _ _⟩

/-! ### slices.Equal -/
theorem take_same {a b : List Int} {k : Nat} (ha : k < a.length) (hb : k < b.length) (h : a.take k = b.take k) (e : a[k] = b[k]) : a.take (k + 1) = b.take (k + 1) := by
  rw [List.take_succ_eq_append_getElem ha, List.take_succ_eq_append_getElem hb, h, e]
theorem ints_differ {a b : List Int} {k : Nat} (ha : k < a.length) (hb : k < b.length) (e : a[k] ≠ b[k]) : ¬ a = b := by
  rintro rfl; exact e rfl
set_option maxRecDepth 100000 in
set_option maxHeartbeats 1000000 in
theorem slicesEqual_any (va vb : Value) (a b : List Int) (w : World) (hA : ReadsI w va a) (hB : ReadsI w vb b) (hn : a.length ≤ 9223372036854775807) :
    Calls Tryd.prog 32 #[va, vb] w fun e w' => e = .returned (.bool (decide (a = b))) ∧ Draws w w' := by
  obtain ⟨ad, cap, rfl⟩ := hA.shape
  obtain ⟨ad2, cap2, rfl⟩ := hB.shape
  have RA := Lib.hid hA
  have RB := Lib.hid hB
  clear hA hB
  by_cases hl : a.length = b.length
  · have q0 : ((a.length : Int) != b.length) = false := by rw [bne_eq_false_iff_eq]; omega
    have HL := Lib.hid hl
    clear hl
    go_enter Tryd.func32, Tryd.ntmps32
    go_wp2_with fail
    go_loopg [13] a.length (fun g i wx => ∃ k : Nat, k + g = a.length ∧ i = .int .i64 k ∧ Hid (a.take k = b.take k) ∧ Hid (Draws w wx))
    case atStart => exact ⟨0, by omega, rfl, Lib.hid rfl, Lib.hid (Draws.refl _)⟩
    case round =>
      obtain ⟨k, hk, rfl, HK, DX⟩ := hrel
      cases gk with
      | zero =>
        obtain rfl : k = a.length := by omega
        have H : Hid (decide (a = b) = true) := Lib.hid (by
          have := HK.out
          rw [List.take_length, HL.out, List.take_length] at this
          exact decide_eq_true this)
        clear hk
        go_wp2_with fail
        go_ret
        exact ⟨by rw [H.out]; rfl, DX.out⟩
      | succ g =>
        have hlt : k < a.length := by omega
        have hlt2 : k < b.length := by have := HL.out; omega
        have hlt3 : (k : Int) < b.length := by omega
        obtain ⟨ba, oa, capa, hva, hba, c0⟩ := (RA.out.below (DX.out.below _)).num k hlt
        obtain ⟨bb, ob, capb, hvb, hbb, d0⟩ := (RB.out.below (DX.out.below _)).num k hlt2
        cases hva
        cases hvb
        by_cases hq : a[k] = b[k]
        · have H := Lib.hid (take_same hlt hlt2 HK.out hq)
          have q1 : (a[k] != b[k]) = false := by rw [bne_eq_false_iff_eq]; exact hq
          clear hq
          go_wp2_with fail
          go_quiet (fail)
          go_wp2_with fail
          go_roundg g
          case measure => omega
          case rel => exact ⟨k + 1, by omega, by go_num, H, Lib.hid (DX.out.drewN _)⟩
        · have H : Hid (decide (a = b) = false) := Lib.hid (decide_eq_false (ints_differ hlt hlt2 hq))
          have q1 : (a[k] != b[k]) = true := by rw [bne_iff_ne]; exact hq
          clear hq
          go_wp2_with fail
          go_quiet (fail)
          go_wp2_with fail
          go_ret
          exact ⟨by rw [H.out]; rfl, DX.out.drewN _⟩
  · have q0 : ((a.length : Int) != b.length) = true := by rw [bne_iff_ne]; omega
    have H : Hid (decide (a = b) = false) := Lib.hid (decide_eq_false fun e => hl (by rw [e]))
    clear hl
    go_enter Tryd.func32, Tryd.ntmps32
    go_wp2_with fail
    go_ret
    exact ⟨by rw [H.out]; rfl, Draws.refl _⟩
end Go.Proofs.YtfmobnlnedljeaaDoor.Nodes

/-
  Contracts of package nodes at the landed code (layer 4): within, Parts, fits.
-/
import Derived.Test.YtdinaedknlkicaaGreatDoorNodeRows
import Derived.Outline
namespace Go.Proofs.YtdinaedknlkicaaGreatDoor.Nodes
open Go.ChangeShapes Go.WideShapes Go.ChangeAt Go.RowKit

def inB (v a b : Int) : Bool := decide (a ≤ v ∧ v ≤ b)
theorem inB_yes {v a b : Int} (h : a ≤ v) (h2 : v ≤ b) : inB v a b = true := decide_eq_true ⟨h, h2⟩
theorem inB_low {v a b : Int} (h : ¬ a ≤ v) : inB v a b = false := decide_eq_false fun e => h e.1
theorem inB_high {v a b : Int} (h : ¬ v ≤ b) : inB v a b = false := decide_eq_false fun e => h e.2
theorem withinU_any (v a b : Int) (w : World) : Calls Tryz.prog 116 #[.int .u8 v, .int .u8 a, .int .u8 b] w fun e w' => e = .returned (.bool (inB v a b)) ∧ w = w' := by
  by_cases h1 : a ≤ v
  · by_cases h2 : v ≤ b
    · have H := Lib.hid (inB_yes h1 h2)
      go_enter Tryz.func116, Tryz.ntmps116
      go_wp2_with fail
      go_ret
      exact ⟨by rw [H.out]; rfl, rfl⟩
    · have H := Lib.hid (inB_high (a := a) h2)
      go_enter Tryz.func116, Tryz.ntmps116
      go_wp2_with fail
      go_ret
      exact ⟨by rw [H.out]; rfl, rfl⟩
  · have H := Lib.hid (inB_low (b := b) h1)
    go_enter Tryz.func116, Tryz.ntmps116
    go_wp2_with fail
    go_ret
    exact ⟨by rw [H.out]; rfl, rfl⟩
theorem withinI_any (v a b : Int) (w : World) : Calls Tryz.prog 119 #[.int .i64 v, .int .i64 a, .int .i64 b] w fun e w' => e = .returned (.bool (inB v a b)) ∧ w = w' := by
  by_cases h1 : a ≤ v
  · by_cases h2 : v ≤ b
    · have H := Lib.hid (inB_yes h1 h2)
      go_enter Tryz.func119, Tryz.ntmps119
      go_wp2_with fail
      go_ret
      exact ⟨by rw [H.out]; rfl, rfl⟩
    · have H := Lib.hid (inB_high (a := a) h2)
      go_enter Tryz.func119, Tryz.ntmps119
      go_wp2_with fail
      go_ret
      exact ⟨by rw [H.out]; rfl, rfl⟩
  · have H := Lib.hid (inB_low (b := b) h1)
    go_enter Tryz.func119, Tryz.ntmps119
    go_wp2_with fail
    go_ret
    exact ⟨by rw [H.out]; rfl, rfl⟩
/-- Which of a kind's three ranges. -/
theorem parts_kinds (k : Int) : (inB k 1 4 = true ∧ partsV k = (0, 0)) ∨ (inB k 1 4 = false ∧ inB k 5 6 = true ∧ partsV k = (1, 0)) ∨ (inB k 1 4 = false ∧ inB k 5 6 = false ∧ inB k 7 19 = true ∧ partsV k = (2, 0)) ∨ (inB k 1 4 = false ∧ inB k 5 6 = false ∧ inB k 7 19 = false ∧ partsV k = (0, 2)) := by
  have a4 : 1 ≤ k → k ≤ 4 → partsV k = (0, 0) := fun h1 h2 => by unfold partsV arity; rw [if_pos (by omega), if_pos h2]; rfl
  have a6 : 5 ≤ k → k ≤ 6 → partsV k = (1, 0) := fun h1 h2 => by unfold partsV arity; rw [if_pos (by omega), if_neg (by omega), if_pos h2]; rfl
  have a19 : 7 ≤ k → k ≤ 19 → partsV k = (2, 0) := fun h1 h2 => by unfold partsV arity; rw [if_pos (by omega), if_neg (by omega), if_neg (by omega)]; rfl
  have ab : ¬ (1 ≤ k ∧ k ≤ 19) → partsV k = (0, 2) := fun h => by unfold partsV; rw [if_neg h]
  by_cases h4 : 1 ≤ k ∧ k ≤ 4
  · exact .inl ⟨decide_eq_true h4, a4 h4.1 h4.2⟩
  by_cases h6 : 5 ≤ k ∧ k ≤ 6
  · exact .inr (.inl ⟨decide_eq_false h4, decide_eq_true h6, a6 h6.1 h6.2⟩)
  by_cases h19 : 7 ≤ k ∧ k ≤ 19
  · exact .inr (.inr (.inl ⟨decide_eq_false h4, decide_eq_false h6, decide_eq_true h19, a19 h19.1 h19.2⟩))
  · exact .inr (.inr (.inr ⟨decide_eq_false h4, decide_eq_false h6, decide_eq_false h19, ab (by omega)⟩))
theorem nodesParts_same (k : Int) (w : World) : Calls Tryz.prog 102 #[.int .u8 k] w fun e w' => e = .returned (.tuple #[.int .i64 (partsV k).1, .int .i64 (partsV k).2]) ∧ w = w' := by
  have C := Lib.hid (fun a b W => withinU_any k a b W)
  rcases parts_kinds k with ⟨h1, hv⟩ | ⟨h1, h2, hv⟩ | ⟨h1, h2, h3, hv⟩ | ⟨h1, h2, h3, hv⟩
  · have C1 := Lib.hid (C.out 1 4)
    rw [h1] at C1
    have HV := Lib.hid hv
    clear h1 hv
    go_enter Tryz.func102, Tryz.ntmps102
    go_wp2_with fail
    refine (C1.out _).mono ?_
    rintro e w2 ⟨rfl, rfl⟩
    go_wp2_with fail
    go_ret2
    exact ⟨by rw [HV.out]; rfl, rfl⟩
  · have C1 := Lib.hid (C.out 1 4)
    have C2 := Lib.hid (C.out 5 6)
    rw [h1] at C1
    rw [h2] at C2
    have HV := Lib.hid hv
    clear h1 h2 hv
    go_enter Tryz.func102, Tryz.ntmps102
    go_wp2_with fail
    refine (C1.out _).mono ?_
    rintro e w2 ⟨rfl, rfl⟩
    go_wp2_with fail
    refine (C2.out _).mono ?_
    rintro e w2 ⟨rfl, rfl⟩
    go_wp2_with fail
    go_ret2
    exact ⟨by rw [HV.out]; rfl, rfl⟩
  · have C1 := Lib.hid (C.out 1 4)
    have C2 := Lib.hid (C.out 5 6)
    have C3 := Lib.hid (C.out 7 19)
    rw [h1] at C1
    rw [h2] at C2
    rw [h3] at C3
    have HV := Lib.hid hv
    clear h1 h2 h3 hv
    go_enter Tryz.func102, Tryz.ntmps102
    go_wp2_with fail
    refine (C1.out _).mono ?_
    rintro e w2 ⟨rfl, rfl⟩
    go_wp2_with fail
    refine (C2.out _).mono ?_
    rintro e w2 ⟨rfl, rfl⟩
    go_wp2_with fail
    refine (C3.out _).mono ?_
    rintro e w2 ⟨rfl, rfl⟩
    go_wp2_with fail
    go_ret2
    exact ⟨by rw [HV.out]; rfl, rfl⟩
  · have C1 := Lib.hid (C.out 1 4)
    have C2 := Lib.hid (C.out 5 6)
    have C3 := Lib.hid (C.out 7 19)
    rw [h1] at C1
    rw [h2] at C2
    rw [h3] at C3
    have HV := Lib.hid hv
    clear h1 h2 h3 hv
    go_enter Tryz.func102, Tryz.ntmps102
    go_wp2_with fail
    refine (C1.out _).mono ?_
    rintro e w2 ⟨rfl, rfl⟩
    go_wp2_with fail
    refine (C2.out _).mono ?_
    rintro e w2 ⟨rfl, rfl⟩
    go_wp2_with fail
    refine (C3.out _).mono ?_
    rintro e w2 ⟨rfl, rfl⟩
    go_wp2_with fail
    go_ret2
    exact ⟨by rw [HV.out]; rfl, rfl⟩
/-- N and At may be those of a node of a kind. -/
def fitsB (k n at_ : Int) : Bool := decide (0 ≤ at_ ∧ at_ ≤ 400 ∧ 0 ≤ n ∧ (n = 0 ∨ k = 1))
theorem fits_any (k n at_ : Int) (w : World) : Calls Tryz.prog 107 #[.int .u8 k, .int .i64 n, .int .i64 at_] w fun e w' => e = .returned (.bool (fitsB k n at_)) ∧ w = w' := by
  have C := Lib.hid (fun W => withinI_any at_ 0 400 W)
  cases h : inB at_ 0 400
  · have H : Hid (fitsB k n at_ = false) := Lib.hid (decide_eq_false fun e => by unfold inB at h; rw [decide_eq_false_iff_not] at h; exact h ⟨e.1, e.2.1⟩)
    rw [h] at C
    clear h
    go_enter Tryz.func107, Tryz.ntmps107
    go_wp2_with fail
    refine (C.out _).mono ?_
    rintro e w2 ⟨rfl, rfl⟩
    go_wp2_with fail
    go_ret
    exact ⟨by rw [H.out]; rfl, rfl⟩
  · have hb : 0 ≤ at_ ∧ at_ ≤ 400 := by unfold inB at h; exact of_decide_eq_true h
    rw [h] at C
    have HF : fitsB k n at_ = decide (0 ≤ n ∧ (n = 0 ∨ k = 1)) := decide_eq_decide.2 ⟨fun e => e.2.2, fun e => ⟨hb.1, hb.2, e⟩⟩
    clear h hb
    cases q0 : (n == 0)
    · rw [beq_eq_false_iff_ne] at q0
      by_cases h0 : 0 < n
      · cases q1 : (k == 1)
        · have H : Hid (fitsB k n at_ = false) := Lib.hid (by rw [beq_eq_false_iff_ne] at q1; rw [HF]; exact decide_eq_false (by omega))
          have q0' : (n == 0) = false := by rw [beq_eq_false_iff_ne]; exact q0
          clear HF q0
          go_enter Tryz.func107, Tryz.ntmps107
          go_wp2_with fail
          refine (C.out _).mono ?_
          rintro e w2 ⟨rfl, rfl⟩
          go_wp2_with fail
          go_ret
          exact ⟨by rw [H.out]; rfl, rfl⟩
        · have H : Hid (fitsB k n at_ = true) := Lib.hid (by rw [beq_iff_eq] at q1; rw [HF]; exact decide_eq_true (by omega))
          have q0' : (n == 0) = false := by rw [beq_eq_false_iff_ne]; exact q0
          clear HF q0
          go_enter Tryz.func107, Tryz.ntmps107
          go_wp2_with fail
          refine (C.out _).mono ?_
          rintro e w2 ⟨rfl, rfl⟩
          go_wp2_with fail
          go_ret
          exact ⟨by rw [H.out]; rfl, rfl⟩
      · have H : Hid (fitsB k n at_ = false) := Lib.hid (by rw [HF]; exact decide_eq_false (by omega))
        have q0' : (n == 0) = false := by rw [beq_eq_false_iff_ne]; exact q0
        clear HF q0
        go_enter Tryz.func107, Tryz.ntmps107
        go_wp2_with fail
        refine (C.out _).mono ?_
        rintro e w2 ⟨rfl, rfl⟩
        go_wp2_with fail
        go_ret
        exact ⟨by rw [H.out]; rfl, rfl⟩
    · rw [beq_iff_eq] at q0
      subst q0
      have H : Hid (fitsB k 0 at_ = true) := Lib.hid (by rw [HF]; exact decide_eq_true (by omega))
      clear HF
      go_enter Tryz.func107, Tryz.ntmps107
      go_wp2_with fail
      refine (C.out _).mono ?_
      rintro e w2 ⟨rfl, rfl⟩
      go_wp2_with fail
      go_ret
      exact ⟨by rw [H.out]; rfl, rfl⟩
end Go.Proofs.YtdinaedknlkicaaGreatDoor.Nodes

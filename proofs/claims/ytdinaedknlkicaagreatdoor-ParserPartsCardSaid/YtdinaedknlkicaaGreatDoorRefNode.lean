/-
  Contracts of the reference of layer 4: Count, right, Great.
-/
import Derived.Test.YtdinaedknlkicaaGreatDoorNodeReads
import Derived.Deep.QuietTactic
import Derived.BigQuiet
import Derived.Outline
namespace Go.Proofs.YtdinaedknlkicaaGreatDoor.Nodes
open Go.ChangeShapes Go.WideShapes Go.ChangeAt Go.RowKit

theorem refCount_any (k : Int) (w : World) : Calls Tryz.prog 80 #[.int .u8 k] w fun e w' => e = .returned (.int .i64 (arity k : Nat)) ∧ w = w' := by
  by_cases h4 : k ≤ 4
  · have H : Hid (arity k = 0) := Lib.hid (by unfold arity; rw [if_pos h4])
    go_enter Tryz.func80, Tryz.ntmps80
    go_wp2_with fail
    go_ret
    exact ⟨by rw [H.out]; rfl, rfl⟩
  · by_cases h6 : k ≤ 6
    · have H : Hid (arity k = 1) := Lib.hid (by unfold arity; rw [if_neg h4, if_pos h6])
      go_enter Tryz.func80, Tryz.ntmps80
      go_wp2_with fail
      go_ret
      exact ⟨by rw [H.out]; rfl, rfl⟩
    · have H : Hid (arity k = 2) := Lib.hid (by unfold arity; rw [if_neg h4, if_neg h6])
      go_enter Tryz.func80, Tryz.ntmps80
      go_wp2_with fail
      go_ret
      exact ⟨by rw [H.out]; rfl, rfl⟩
theorem great_any (v : Value) (l : List Nd) (w : World) (h : ReadsN w v l) :
    Calls Tryz.prog 44 #[v] w fun e w' => e = .returned (.bool (decide (70 < l.length))) ∧ w = w' := by
  obtain ⟨ad, cap, rfl⟩ := h.shape
  clear h
  by_cases hb : (70 : Int) < l.length
  · have H : Hid (decide (70 < l.length) = true) := Lib.hid (decide_eq_true (by omega))
    go_enter Tryz.func44, Tryz.ntmps44
    go_wp2_with fail
    go_ret
    exact ⟨by rw [H.out]; rfl, rfl⟩
  · have H : Hid (decide (70 < l.length) = false) := Lib.hid (decide_eq_false (by omega))
    go_enter Tryz.func44, Tryz.ntmps44
    go_wp2_with fail
    go_ret
    exact ⟨by rw [H.out]; rfl, rfl⟩
theorem refRight_any (x : Nd) (a b : Int) (w : World) : Calls Tryz.prog 81 #[ndVal x, .int .i64 a, .int .i64 b] w fun e w' => e = .returned (.bool (rightB x a b)) ∧ Below w.heap.size w w' := by
  obtain ⟨k, n, xa, xb, p⟩ := x
  unfold ndVal
  simp only
  go_enter Tryz.func81, Tryz.ntmps81
  go_wp2_with fail
  all_goals go_ret
  all_goals refine ⟨congrArg (fun q => Ending.returned (Value.bool q)) ?_, (Below.refl w.heap.size w).alloc (Nat.le_refl _) _⟩
  all_goals first
    | (symm; unfold rightB; rw [decide_eq_false_iff_not]; simp only; omega)
    | (rw [Bool.eq_iff_iff, right_iff, beq_iff_eq]; simp only; omega)
end Go.Proofs.YtdinaedknlkicaaGreatDoor.Nodes

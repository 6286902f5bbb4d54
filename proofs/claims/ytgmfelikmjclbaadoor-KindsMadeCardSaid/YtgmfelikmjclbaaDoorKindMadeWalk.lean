/-
  Walk of the statement KindsMade: an expression of typed parts is typed just if its whole fits, and is what its kind gives.
-/
import Derived.Test.YtgmfelikmjclbaaDoorKindHelp
import Derived.Test.YtgmfelikmjclbaaDoorKindMadeLow
import Derived.Test.YtgmfelikmjclbaaDoorKindMadeLess
import Derived.Test.YtgmfelikmjclbaaDoorKindMadeEqual
import Derived.Test.YtgmfelikmjclbaaDoorKindMadeLogic
import Derived.Outline
namespace Go.Proofs.YtgmfelikmjclbaaDoor.Nodes
open Go.ChangeShapes Go.WideShapes Go.ChangeAt Go.RowKit

theorem madek_walk (va vb : Value) (a b : List Nd) (k : Int) (w : World) (hf : KindFix w) (hA : ReadsN w va a) (hB : ReadsN w vb b) (hk0 : 0 ≤ k) (hk1 : k ≤ 255) :
    Calls Tryd.prog 7 #[va, vb, .int .u8 k] w fun e w' => e = .returned (.bool true) ∧ Below w.heap.size w w' := by
  by_cases hg : 70 < a.length ∨ 70 < b.length
  · exact made_great va vb a b k w hf hA hB hk0 hk1 hg
  have ha7 : a.length ≤ 70 := by omega
  have hb7 : b.length ≤ 70 := by omega
  by_cases he : (partsV k).2 ≠ 0 ∨ (ofV a).2.2 ≠ 0 ∨ (ofV b).2.2 ≠ 0 ∨ (partsV k).1 = 0
  · exact made_exits va vb a b k w hf hA hB hk0 hk1 ha7 hb7 he
  have h1 : (partsV k).2 = 0 := Classical.byContradiction fun h => he (.inl h)
  have h2 : (ofV a).2.2 = 0 := Classical.byContradiction fun h => he (.inr (.inl h))
  have h3 : (ofV b).2.2 = 0 := Classical.byContradiction fun h => he (.inr (.inr (.inl h)))
  have h4 : (partsV k).1 ≠ 0 := fun h => he (.inr (.inr (.inr h)))
  have hk : 5 ≤ k ∧ k ≤ 19 := by
    unfold partsV at h1 h4
    split at h1
    · rename_i h5
      rw [if_pos h5] at h4
      refine ⟨?_, h5.2⟩
      rcases (show k < 5 ∨ 5 ≤ k by omega) with h6 | h6
      · exfalso; apply h4; unfold arity; rw [if_pos (by omega)]; rfl
      · exact h6
    · simp at h1
  have hx : ofV a = ((ofV a).1, (ofV a).2.1, 0) := Prod.ext rfl (Prod.ext rfl h2)
  have hy : ofV b = ((ofV b).1, (ofV b).2.1, 0) := Prod.ext rfl (Prod.ext rfl h3)
  by_cases h56 : k = 5 ∨ k = 6
  · exact made_single va vb a b k w hf hA hB hk0 hk1 ha7 hb7 _ _ _ _ hx hy h56
  have hka : arity k = 2 := by unfold arity; rw [if_neg (by omega), if_neg (by omega)]
  rcases kmade_two (k := k) (of_ok h2).1 (of_ok h3).1 hka ⟨by omega, by omega⟩ with ⟨hc, hnd⟩ | ⟨c, hc, hnd⟩
  · rcases (show (7 ≤ k ∧ k ≤ 11) ∨ (12 ≤ k ∧ k ≤ 15) ∨ (k = 16 ∨ k = 17) ∨ (18 ≤ k ∧ k ≤ 19) by omega) with h | h | h | h
    · exact made_low va vb a b k w hf hA hB hk0 hk1 ha7 hb7 _ _ _ _ hx hy h 0 ⟨hc, rfl, hnd⟩
    · exact made_less va vb a b k w hf hA hB hk0 hk1 ha7 hb7 _ _ _ _ hx hy h 0 ⟨hc, rfl, hnd⟩
    · exact made_equal va vb a b k w hf hA hB hk0 hk1 ha7 hb7 _ _ _ _ hx hy h 0 ⟨hc, rfl, hnd⟩
    · exact made_logic va vb a b k w hf hA hB hk0 hk1 ha7 hb7 _ _ _ _ hx hy h 0 ⟨hc, rfl, hnd⟩
  · rcases (show (7 ≤ k ∧ k ≤ 11) ∨ (12 ≤ k ∧ k ≤ 15) ∨ (k = 16 ∨ k = 17) ∨ (18 ≤ k ∧ k ≤ 19) by omega) with h | h | h | h
    · exact made_low_err va vb a b k w hf hA hB hk0 hk1 ha7 hb7 _ _ _ _ hx hy h c ⟨hc, hnd⟩
    · exact made_less_err va vb a b k w hf hA hB hk0 hk1 ha7 hb7 _ _ _ _ hx hy h c ⟨hc, hnd⟩
    · exact made_equal_err va vb a b k w hf hA hB hk0 hk1 ha7 hb7 _ _ _ _ hx hy h c ⟨hc, hnd⟩
    · exact made_logic_err va vb a b k w hf hA hB hk0 hk1 ha7 hb7 _ _ _ _ hx hy h c ⟨hc, hnd⟩
end Go.Proofs.YtgmfelikmjclbaaDoor.Nodes

/-
  Walk of the statement KindsMade: an expression of typed parts is typed just if its whole fits, and is what its kind gives.
-/
import Derived.Test.YtflmpjejlkhpcaaDoorKindHelp
import Derived.Test.YtflmpjejlkhpcaaDoorNodeNode
import Derived.Test.YtflmpjejlkhpcaaDoorNodeMade
import Derived.Outline
namespace Go.Proofs.YtflmpjejlkhpcaaDoor.Nodes
open Go.ChangeShapes Go.WideShapes Go.ChangeAt Go.RowKit

theorem kmade_one {k : Int} {a : List Nd} (ha : checkV a = 0) (hk : arity k = 1) (h1 : 1 ≤ k ∧ k ≤ 19) : (checkV (madeL k 0 0 [a]) = 0 ∧ nodeV k 0 0 [a] = (madeL k 0 0 [a], 0)) ∨ ∃ c, (c = 4 ∨ c = 34) ∧ nodeV k 0 0 [a] = ([], c) := by
  have hc := made_check (k := k) (n := 0) (at_ := 0) (ps := [a]) ⟨h1.1, h1.2, hk, Int.le_refl _, .inl rfl, Int.le_refl _, by decide⟩ (fun p hp => by simp at hp; subst hp; exact ha)
  have hn : nodeV k 0 0 [a] = if checkV (madeL k 0 0 [a]) = 0 then (madeL k 0 0 [a], 0) else ([], checkV (madeL k 0 0 [a])) := by
    unfold nodeV
    rw [if_pos ⟨h1.1, h1.2, hk, Int.le_refl _, .inl rfl, Int.le_refl _, by decide⟩]
    have : [a].find? badP = none := List.find?_eq_none.2 fun p hp => by simp at hp; subst hp; unfold badP; rw [ha]; simp
    rw [this]
  by_cases h0 : checkV (madeL k 0 0 [a]) = 0
  · rw [if_pos h0] at hn; exact .inl ⟨h0, hn⟩
  · rw [if_neg h0] at hn
    refine .inr ⟨_, ?_, hn⟩
    rw [hc] at h0 ⊢
    split at h0
    · rename_i h; rw [if_pos h]; exact .inl rfl
    · rename_i h; rw [if_neg h]; split at h0
      · rename_i h2; rw [if_pos h2]; exact .inr rfl
      · exact absurd rfl h0
theorem kmade_two {k : Int} {a b : List Nd} (ha : checkV a = 0) (hb : checkV b = 0) (hk : arity k = 2) (h1 : 1 ≤ k ∧ k ≤ 19) : (checkV (madeL k 0 0 [a, b]) = 0 ∧ nodeV k 0 0 [a, b] = (madeL k 0 0 [a, b], 0)) ∨ ∃ c, (c = 4 ∨ c = 34) ∧ nodeV k 0 0 [a, b] = ([], c) := by
  have hc := made_check (k := k) (n := 0) (at_ := 0) (ps := [a, b]) ⟨h1.1, h1.2, hk, Int.le_refl _, .inl rfl, Int.le_refl _, by decide⟩ (fun p hp => by simp at hp; rcases hp with rfl | rfl; exact ha; exact hb)
  have hn : nodeV k 0 0 [a, b] = if checkV (madeL k 0 0 [a, b]) = 0 then (madeL k 0 0 [a, b], 0) else ([], checkV (madeL k 0 0 [a, b])) := by
    unfold nodeV
    rw [if_pos ⟨h1.1, h1.2, hk, Int.le_refl _, .inl rfl, Int.le_refl _, by decide⟩]
    have : [a, b].find? badP = none := List.find?_eq_none.2 fun p hp => by
      simp at hp
      rcases hp with rfl | rfl
      · unfold badP; rw [ha]; simp
      · unfold badP; rw [hb]; simp
    rw [this]
  by_cases h0 : checkV (madeL k 0 0 [a, b]) = 0
  · rw [if_pos h0] at hn; exact .inl ⟨h0, hn⟩
  · rw [if_neg h0] at hn
    refine .inr ⟨_, ?_, hn⟩
    rw [hc] at h0 ⊢
    split at h0
    · rename_i h; rw [if_pos h]; exact .inl rfl
    · rename_i h; rw [if_neg h]; split at h0
      · rename_i h2; rw [if_pos h2]; exact .inr rfl
      · exact absurd rfl h0
theorem node_arg {k : Int} {a : List Nd} (hk : arity k = 2) : nodeV k 0 0 [a] = ([], 2) := by
  unfold nodeV
  rw [if_neg]
  intro h
  have := h.2.2.1
  rw [hk] at this
  simp at this
theorem made_len1 (k : Int) (a : List Nd) : (madeL k 0 0 [a]).length = a.length + 1 := by simp [madeL]
theorem made_len2 (k : Int) (a b : List Nd) : (madeL k 0 0 [a, b]).length = a.length + b.length + 1 := by simp [madeL]; omega
end Go.Proofs.YtflmpjejlkhpcaaDoor.Nodes

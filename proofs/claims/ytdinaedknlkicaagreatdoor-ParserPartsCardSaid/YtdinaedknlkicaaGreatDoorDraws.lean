/-
  A call that only draws. No program in this text.
-/
import Derived.ProofKit
import Derived.Deep.Draws
import Derived.OpenShut
namespace Go.Proofs.YtdinaedknlkicaaGreatDoor
open Go.ChangeShapes Go.WideShapes Go.ChangeAt Go.RowKit

/-- A call that only draws. -/
def Draws (w w' : World) : Prop := ∃ m, w' = w.drewN m
theorem Draws.refl (w : World) : Draws w w := ⟨0, rfl⟩
theorem Draws.drew {w w' : World} (h : Draws w w') : Draws w w'.drew := by
  obtain ⟨m, rfl⟩ := h
  exact ⟨m + 1, rfl⟩
theorem Draws.drewN {w w' : World} (h : Draws w w') (n : Nat) : Draws w (w'.drewN n) := by
  obtain ⟨m, rfl⟩ := h
  exact ⟨m + n, World.drewN_drewN ..⟩
theorem Draws.trans {w w' w2 : World} (h : Draws w w') (h2 : Draws w' w2) : Draws w w2 := by
  obtain ⟨n, rfl⟩ := h2
  exact h.drewN n
theorem Draws.below {w w' : World} (h : Draws w w') (B : Nat) : Below B w w' := by
  obtain ⟨m, rfl⟩ := h
  exact ⟨rfl, rfl, rfl, Nat.le_refl _, fun _ _ => rfl⟩
end Go.Proofs.YtdinaedknlkicaaGreatDoor

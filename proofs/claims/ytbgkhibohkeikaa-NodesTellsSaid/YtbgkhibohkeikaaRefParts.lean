/-
  Contract of the reference of layer 4: Parts.
-/
import Derived.Test.YtbgkhibohkeikaaRefNode
import Derived.Outline
namespace Go.Proofs.Ytbgkhibohkeikaa.Nodes
open Go.ChangeShapes Go.WideShapes Go.ChangeAt Go.RowKit

theorem refParts_any (k : Int) (w : World) : Calls Try.prog 22 #[.int .u8 k] w fun e w' => e = .returned (.tuple #[.int .i64 (partsV k).1, .int .i64 (partsV k).2]) ∧ Below w.heap.size w w' := by
  have C := Lib.hid (refCount_any k)
  by_cases h : 1 ≤ k ∧ k ≤ 19
  · have H := Lib.hid (parts_ok h.1 h.2)
    obtain ⟨h1, h2⟩ := h
    go_enter Try.func22, Try.ntmps22
    go_wp2_with fail
    refine (C.out _).mono ?_
    rintro e w2 ⟨rfl, rfl⟩
    go_wp2_with fail
    go_ret2
    exact ⟨by rw [H.out]; rfl, Below.refl _ _⟩
  · have H : Hid (partsV k = (0, 2)) := Lib.hid (by unfold partsV; rw [if_neg h])
    by_cases h1 : k < 1
    · clear h
      go_enter Try.func22, Try.ntmps22
      go_wp2_with fail
      go_ret2
      exact ⟨by rw [H.out]; rfl, Below.refl _ _⟩
    · have h2 : 19 < k := by omega
      clear h
      go_enter Try.func22, Try.ntmps22
      go_wp2_with fail
      go_ret2
      exact ⟨by rw [H.out]; rfl, Below.refl _ _⟩
end Go.Proofs.Ytbgkhibohkeikaa.Nodes

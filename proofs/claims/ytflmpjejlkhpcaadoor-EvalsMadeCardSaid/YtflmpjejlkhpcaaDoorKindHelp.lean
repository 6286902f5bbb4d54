/-
  Contracts of the helpers of layer 6's statements: binary, typed, alive, same.
-/
import Derived.Test.YtflmpjejlkhpcaaDoorKindCalls
import Derived.Test.YtflmpjejlkhpcaaDoorRefMade
import Derived.Deep.QuietTactic
import Derived.BigQuiet
import Derived.Outline
namespace Go.Proofs.YtflmpjejlkhpcaaDoor.Nodes
open Go.ChangeShapes Go.WideShapes Go.ChangeAt Go.RowKit

def numL : List Nd := [⟨4, 0, 0, 0, 0⟩]
def truL : List Nd := [⟨1, 1, 0, 0, 0⟩, ⟨1, 2, 0, 0, 0⟩, ⟨12, 0, 0, 1, 0⟩]
def pickL (t : Bool) : List Nd := if t then truL else numL
def binL (k : Int) (f s : Bool) : List Nd := madeL k 0 0 [pickL f, pickL s]
theorem pick_small (t : Bool) : PartSmall (pickL t) := by
  cases t
  · exact ⟨by decide, fun x hx => by simp [pickL, numL] at hx; subst hx; decide⟩
  · exact ⟨by decide, fun x hx => by simp [pickL, truL] at hx; rcases hx with rfl | rfl | rfl <;> decide⟩
/-- A list of nodes written out, read in a later world. -/
theorem lit_reads_in (l : List Nd) (n : Nat) (hn : l.length = n) (w : World) (nb : Nat) (hnb : w.heap.size = nb) (w2 : World) (hb : Below (w.alloc (.cells (rowN l).toArray 31)).heap.size (w.alloc (.cells (rowN l).toArray 31)) w2) : ReadsN w2 (.slice (some ⟨nb, 0, none⟩) n n) l := by
  subst hn hnb
  refine ReadsN.below (w := w.alloc (.cells (rowN l).toArray 31)) (.inr ⟨w.heap.size, 0, 0, rfl, by simp, fun i x hx => ?_⟩) hb
  obtain ⟨h0, h1, h2, h3, h4⟩ := rowN_at l i x hx
  have e : ∀ j, (w.alloc (.cells (rowN l).toArray 31)).cell? ⟨w.heap.size, 0 + j, none⟩ = (rowN l)[j]? := fun j => by
    unfold World.cell?
    simp only [heap_alloc_new, Nat.zero_add, List.getElem?_toArray, Option.isSome_none]
    rfl
  exact ⟨(e _).trans h0, (e _).trans h1, (e _).trans h2, (e _).trans h3, (e _).trans h4⟩
theorem refl_alloc (w : World) (o : Obj) : Below w.heap.size w (w.alloc o) := (Below.refl _ w).alloc (Nat.le_refl _) o
/-- The three lists that binary lays. -/
def w3 (w : World) : World := ((w.alloc (.cells (rowN numL).toArray 31)).alloc (.cells (rowN numL).toArray 31)).alloc (.cells (rowN truL).toArray 31)
theorem w3_size (w : World) : (w3 w).heap.size = w.heap.size + 3 := by unfold w3; simp
theorem w3_below (w : World) : Below w.heap.size w (w3 w) := ((refl_alloc w _).alloc (by simp) _).alloc (by simp; omega) _
theorem w3_a (w : World) : ReadsN (w3 w) (.slice (some ⟨w.heap.size, 0, none⟩) 1 1) numL :=
  lit_reads_in numL 1 rfl w _ rfl _ ((refl_alloc _ _).alloc (by simp) _)
theorem w3_b (w : World) : ReadsN (w3 w) (.slice (some ⟨w.heap.size + 1, 0, none⟩) 1 1) numL :=
  lit_reads_in numL 1 rfl (w.alloc _) _ (by simp) _ (refl_alloc _ _)
theorem w3_t (w : World) : ReadsN (w3 w) (.slice (some ⟨w.heap.size + 2, 0, none⟩) 3 3) truL :=
  lit_reads_in truL 3 rfl ((w.alloc _).alloc _) _ (by simp) _ (Below.refl _ _)
theorem pair_reads {w : World} {a b : Value} {p q : List Nd} (ha : ReadsN w a p) (hb : ReadsN w b q) (nb : Nat) (hnb : w.heap.size = nb) : ReadsP (w.alloc (.cells #[a, b] 32)) (.slice (some ⟨nb, 0, none⟩) 2 2) [p, q] :=
  lit_readsP_at [a, b] [p, q] 2 rfl w nb hnb fun i x hx => by
    match i, hx with
    | 0, hx => simp at hx; subst hx; exact ⟨a, rfl, ha⟩
    | 1, hx => simp at hx; subst hx; exact ⟨b, rfl, hb⟩
    | i + 2, hx => simp at hx
theorem one_reads {w : World} {a : Value} {p : List Nd} (ha : ReadsN w a p) (nb : Nat) (hnb : w.heap.size = nb) : ReadsP (w.alloc (.cells #[a] 32)) (.slice (some ⟨nb, 0, none⟩) 1 1) [p] :=
  lit_readsP_at [a] [p] 1 rfl w nb hnb fun i x hx => by
    match i, hx with
    | 0, hx => simp at hx; subst hx; exact ⟨a, rfl, ha⟩
    | i + 1, hx => simp at hx
theorem alive_facts : ofV (binL 8 false true) = (false, 4, 42) ∧ ofV (madeL 6 0 0 [numL]) = (false, 1, 42) ∧ ofV (binL 12 true false) = (false, 4, 42) ∧ ofV (binL 12 false false) = (true, ((binL 12 false false).length : Int) - 1, 0) ∧ ofV (binL 16 true true) = (true, ((binL 16 true true).length : Int) - 1, 0) := by decide +kernel
end Go.Proofs.YtflmpjejlkhpcaaDoor.Nodes

/-
  Contracts of the helpers of layer 4's statements: example, alive.
-/
import Derived.Test.YtbgkhibohkeikaaNodeNode
import Derived.Test.YtbgkhibohkeikaaRefEqual
import Derived.Test.YtbgkhibohkeikaaRefParts
import Derived.Outline
namespace Go.Proofs.Ytbgkhibohkeikaa.Nodes
open Go.ChangeShapes Go.WideShapes Go.ChangeAt Go.RowKit

def exL : List Nd := [⟨4, 0, 0, 0, 0⟩, ⟨1, 2, 0, 0, 0⟩, ⟨2, 0, 0, 0, 0⟩, ⟨7, 0, 1, 2, 0⟩, ⟨8, 0, 0, 3, 0⟩]
theorem ex_facts : depthV exL = (3, 0) ∧ (partV exL 3).2 = 0 ∧ (partV exL 3).1.map full = [(1, 2, 0, 0, 0), (2, 0, 0, 0, 0), (7, 0, 0, 1, 0)] := by decide +kernel
def exP : List Nd := [⟨1, 2, 0, 0, 0⟩, ⟨2, 0, 0, 0, 0⟩, ⟨7, 0, 0, 1, 0⟩]
theorem ex_equal : equalB (partV exL 3).1 exP = true := by
  unfold equalB
  rw [ex_facts.2.2]
  exact decide_eq_true rfl
/-- A list of nodes written out. -/
theorem lit_reads (l : List Nd) (n : Nat) (hn : l.length = n) (w : World) : ReadsN (w.alloc (.cells (rowN l).toArray 23)) (.slice (some ⟨w.heap.size, 0, none⟩) n n) l := by
  subst hn
  refine .inr ⟨w.heap.size, 0, 0, rfl, by simp, fun i x hx => ?_⟩
  obtain ⟨h0, h1, h2, h3, h4⟩ := rowN_at l i x hx
  have e : ∀ j, (w.alloc (.cells (rowN l).toArray 23)).cell? ⟨w.heap.size, 0 + j, none⟩ = (rowN l)[j]? := fun j => by
    unfold World.cell?
    simp only [heap_alloc_new, Nat.zero_add, List.getElem?_toArray, Option.isSome_none]
    rfl
  exact ⟨(e _).trans h0, (e _).trans h1, (e _).trans h2, (e _).trans h3, (e _).trans h4⟩
theorem example_any (w : World) : Calls Try.prog 13 #[] w fun e w' => ∃ v, e = .returned v ∧ ReadsN w' v exL ∧ Below w.heap.size w w' := by
  go_enter Try.func13, Try.ntmps13
  go_wp2_with fail
  go_ret
  exact ⟨_, rfl, lit_reads exL 5 rfl w, (Below.refl w.heap.size w).alloc (Nat.le_refl _) _⟩
theorem alive_any (w : World) : Calls Try.prog 17 #[] w fun e w' => e = .returned (.bool true) ∧ Below w.heap.size w w' := by
  go_enter Try.func17, Try.ntmps17
  go_wp2_with fail
  refine (example_any _).mono ?_
  rintro e w1 ⟨v, rfl, hR, hb⟩
  have HB := Lib.hid hb
  have HR := Lib.hid hR
  clear hR hb
  go_wp2_with fail
  refine (nodesDepth_any _ _ _ HR.out (by decide)).mono ?_
  rintro e w2 ⟨rfl, hb⟩
  rw [ex_facts.1]
  have HB2 := Lib.hid (below_then HB.out hb)
  clear hb
  go_wp2_with fail
  refine (example_any _).mono ?_
  rintro e w3 ⟨v2, rfl, hR, hb⟩
  have HB3 := Lib.hid (below_then HB2.out hb)
  have HR3 := Lib.hid hR
  clear hR hb
  go_wp2_with fail
  refine (nodesPart_any _ _ _ _ HR3.out (by decide)).mono ?_
  rintro e w4 ⟨v3, rfl, ho, hb⟩
  have hR := own_readsN ho
  clear ho
  rw [ex_facts.2.1]
  have HB4 := Lib.hid (below_then HB3.out hb)
  have HR4 := Lib.hid hR
  clear hR hb
  go_wp2_with fail
  refine (refEqual_any _ _ _ exP _ (HR4.out.below ((Below.refl _ _).alloc (Nat.le_refl _) _)) (lit_reads exP 3 rfl w4) (by decide +kernel)).mono ?_
  rintro e w5 ⟨rfl, hd⟩
  rw [ex_equal]
  have HB5 := Lib.hid ((HB4.out.alloc HB4.out.size _).trans (hd.below _))
  clear hd
  go_wp2_with fail
  go_ret
  exact ⟨rfl, HB5.out⟩
end Go.Proofs.Ytbgkhibohkeikaa.Nodes

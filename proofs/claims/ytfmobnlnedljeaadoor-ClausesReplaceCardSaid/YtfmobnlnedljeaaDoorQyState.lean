/-
  What the walks of layer 8's statements hold of the world: queries and windows in blocks of the call's own.
-/
import Derived.Test.YtfmobnlnedljeaaDoorQyBlock
import Derived.Test.YtfmobnlnedljeaaDoorClauseHelp
namespace Go.Proofs.YtfmobnlnedljeaaDoor.Nodes
open Go.ChangeShapes Go.WideShapes Go.ChangeAt Go.RowKit

structure SL (w W : World) (L : List (Nat × Sl × Qy)) : Prop where
  base : Below w.heap.size w W
  all : ∀ x ∈ L, w.heap.size ≤ x.1 ∧ QyAt W x.1 x.2.1 x.2.2
theorem SL.below {w W W' : World} {L : List (Nat × Sl × Qy)} (h : SL w W L) (hb : Below W.heap.size W W') : SL w W' L :=
  ⟨below_then h.base hb, fun x hx => ⟨(h.all x hx).1, (h.all x hx).2.below hb⟩⟩
theorem SL.nil (w : World) : SL w w [] := ⟨Below.refl _ _, fun x hx => by cases hx⟩
theorem SL.nil_of {w W : World} (h : Below w.heap.size w W) : SL w W [] := ⟨h, fun x hx => by cases hx⟩
theorem SL.box {w W : World} {L : List (Nat × Sl × Qy)} (h : SL w W L) (b : Nat) (hb : b = W.heap.size) (s : Sl) (q : Qy) : SL w (W.alloc (qyBox s q)) ((b, s, q) :: L) := by
  subst hb
  refine ⟨h.base.alloc h.base.size _, fun x hx => ?_⟩
  rcases List.mem_cons.1 hx with rfl | hx
  · exact ⟨h.base.size, qy_at W s q⟩
  · exact ⟨(h.all x hx).1, (h.all x hx).2.below (box_below _ _)⟩
theorem SL.at0 {w W : World} {L : List (Nat × Sl × Qy)} {b : Nat} {s : Sl} {q : Qy} (h : SL w W ((b, s, q) :: L)) : QyAt W b s q := (h.all _ (List.mem_cons_self ..)).2
theorem SL.tail {w W : World} {L : List (Nat × Sl × Qy)} {x : Nat × Sl × Qy} (h : SL w W (x :: L)) : SL w W L := ⟨h.base, fun y hy => h.all y (List.mem_cons_of_mem _ hy)⟩
theorem SL.at1 {w W : World} {L : List (Nat × Sl × Qy)} {x : Nat × Sl × Qy} {b : Nat} {s : Sl} {q : Qy} (h : SL w W (x :: (b, s, q) :: L)) : QyAt W b s q := h.tail.at0
theorem SL.at2 {w W : World} {L : List (Nat × Sl × Qy)} {x y : Nat × Sl × Qy} {b : Nat} {s : Sl} {q : Qy} (h : SL w W (x :: y :: (b, s, q) :: L)) : QyAt W b s q := h.tail.at1
theorem SL.at3 {w W : World} {L : List (Nat × Sl × Qy)} {x y z : Nat × Sl × Qy} {b : Nat} {s : Sl} {q : Qy} (h : SL w W (x :: y :: z :: (b, s, q) :: L)) : QyAt W b s q := h.tail.at2
/-- .. behind one allocation more. -/
theorem QyAt.past {w : World} {b : Nat} {s : Sl} {q : Qy} (h : QyAt w b s q) : (∀ o, (w.alloc o).cell? ⟨b, 0, none⟩ = some (.int .u8 q.agg)) ∧ (∀ o, (w.alloc o).cell? ⟨b, 1, none⟩ = some (s.arg)) ∧ (∀ o, (w.alloc o).cell? ⟨b, 2, none⟩ = some (s.src)) ∧ (∀ o, (w.alloc o).cell? ⟨b, 3, none⟩ = some (.bool q.join)) ∧ (∀ o, (w.alloc o).cell? ⟨b, 4, none⟩ = some (s.cond)) ∧ (∀ o, (w.alloc o).cell? ⟨b, 5, none⟩ = some (.int .u8 q.win.kind)) ∧ (∀ o, (w.alloc o).cell? ⟨b, 6, none⟩ = some (.int .i64 q.win.size)) ∧ (∀ o, (w.alloc o).cell? ⟨b, 7, none⟩ = some (.int .i64 q.win.every)) ∧ (∀ o, (w.alloc o).cell? ⟨b, 8, none⟩ = some (.bool q.key)) ∧ (∀ o, (w.alloc o).cell? ⟨b, 9, none⟩ = some (.int .u8 q.late)) := by
  have k : ∀ o, QyAt (w.alloc o) b s q := fun o => h.below (box_below _ _)
  exact ⟨fun o => (k o).cells.1, fun o => (k o).cells.2.1, fun o => (k o).cells.2.2.1, fun o => (k o).cells.2.2.2.1, fun o => (k o).cells.2.2.2.2.1, fun o => (k o).cells.2.2.2.2.2.1, fun o => (k o).cells.2.2.2.2.2.2.1, fun o => (k o).cells.2.2.2.2.2.2.2.1, fun o => (k o).cells.2.2.2.2.2.2.2.2.1, fun o => (k o).cells.2.2.2.2.2.2.2.2.2⟩
theorem great_small {q : Qy} (h : greatQ q = false) : q.arg.length ≤ 70 ∧ q.cond.length ≤ 70 ∧ q.src.length ≤ 10 := by
  have := of_decide_eq_false h
  omega
end Go.Proofs.YtfmobnlnedljeaaDoor.Nodes

/-
  The walk of layer 5's statement ExprsBrackets: what is held on to.
-/
import Derived.Test.YtgmfelikmjclbaaGreatDoorPackE1
import Derived.Test.YtgmfelikmjclbaaGreatDoorRefEqual
import Derived.Test.YtgmfelikmjclbaaGreatDoorTokAppend
import Derived.Deep.RegionHeld3
import Derived.Deep.CutRange
import Derived.Outline
namespace Go.Proofs.YtgmfelikmjclbaaGreatDoor.ExprW
open Nodes Exprs
open Go.ChangeShapes Go.WideShapes Go.ChangeAt Go.RowKit

def tokVal (t : Tok) : Value := .agg #[.int .u8 t.kind, .string ⟨t.text.toArray⟩, .int .i64 t.at_]
/-- The world behind the box of the argument that is a struct. -/
def boxed (w : World) (kd : Int) (xb : ByteArray) (qb : Int) : World := w.alloc (Obj.cells #[.int .u8 kd, .string xb, .int .i64 qb] 28)
/-- What is held on to: all that was there behind that box is as it was. -/
def HW (w : World) (kd : Int) (xb : ByteArray) (qb : Int) (W : World) : Prop := Below (boxed w kd xb qb).heap.size (boxed w kd xb qb) W
theorem boxed_size (w : World) (kd : Int) (xb : ByteArray) (qb : Int) : (boxed w kd xb qb).heap.size = w.heap.size + 1 := by unfold boxed; simp
theorem boxed_below (w : World) (kd : Int) (xb : ByteArray) (qb : Int) : Below w.heap.size w (boxed w kd xb qb) := (Below.refl _ _).alloc (Nat.le_refl _) _
theorem HW.then_ {w W W' : World} {kd : Int} {xb : ByteArray} {qb : Int} (h : HW w kd xb qb W) (hb : Below W.heap.size W W') : HW w kd xb qb W' := below_step h hb
theorem HW.start (w : World) (kd : Int) (xb : ByteArray) (qb : Int) : HW w kd xb qb (boxed w kd xb qb) := Below.refl _ _
theorem HW.drew {w W : World} {kd : Int} {xb : ByteArray} {qb : Int} (h : HW w kd xb qb W) : HW w kd xb qb W.drew := h.then_ (Below.drew (Below.refl _ _))
theorem HW.alloc {w W : World} {kd : Int} {xb : ByteArray} {qb : Int} (h : HW w kd xb qb W) (o : Obj) : HW w kd xb qb (W.alloc o) := h.then_ ((Below.refl _ _).alloc (Nat.le_refl _) _)
theorem HW.base {w W : World} {kd : Int} {xb : ByteArray} {qb : Int} (h : HW w kd xb qb W) : Below w.heap.size w W := below_step (boxed_below w kd xb qb) h
theorem HW.size {w W : World} {kd : Int} {xb : ByteArray} {qb : Int} (h : HW w kd xb qb W) : w.heap.size + 1 ≤ W.heap.size := by
  have := Below.size h
  rwa [boxed_size] at this
theorem HW.cells {w W : World} {kd : Int} {xb : ByteArray} {qb : Int} (h : HW w kd xb qb W) : W.cell? ⟨w.heap.size, 0, none⟩ = some (.int .u8 kd) ∧ W.cell? ⟨w.heap.size, 1, none⟩ = some (.string xb) ∧ W.cell? ⟨w.heap.size, 2, none⟩ = some (.int .i64 qb) := by
  have hlt : w.heap.size < (boxed w kd xb qb).heap.size := by rw [boxed_size]; omega
  refine ⟨(Below.cell h (p := ⟨w.heap.size, 0, none⟩) hlt).trans ?_, (Below.cell h (p := ⟨w.heap.size, 1, none⟩) hlt).trans ?_, (Below.cell h (p := ⟨w.heap.size, 2, none⟩) hlt).trans ?_⟩ <;>
    (unfold boxed; rw [World.cell?_alloc_at _ _ _ _ rfl]; rfl)
/-- A row of the call's own that is empty; a row of one token; behind an append. -/
theorem own_empty {w W : World} {kd : Int} {xb : ByteArray} {qb : Int} (h : HW w kd xb qb W) (n : Nat) (hn : W.heap.size = n) : (W.alloc (.cells #[] 28)).ownsRow (boxed w kd xb qb).heap.size 28 3 (.slice (some ⟨n, 0, none⟩) 0 0) ([] : List Tok).length (rowCells []) := by
  subst hn
  exact World.ownsRow_lit W #[] 0 (Below.size h) (Nat.zero_le _) rfl
theorem HW.grown {w W W' : World} {kd : Int} {xb : ByteArray} {qb : Int} {n : Nat} {v : Value} {xs : List Value} (h : HW w kd xb qb W) (ho : W.ownsRow (boxed w kd xb qb).heap.size 28 3 v n xs) (hg : W.grownBy W' v.ownBlock) : HW w kd xb qb W' := grown_own_below ho h hg
theorem lit_tok (W : World) (t : Tok) (cs : Array Value) (hc : (rowCells [t]).toArray = cs) (n : Nat) (hn : W.heap.size = n) : Go.Proofs.YtgmfelikmjclbaaGreatDoor.Reads (W.alloc (.cells cs 28)) (.slice (some ⟨n, 0, none⟩) 1 1) [t] := by
  subst hc hn
  refine .inr ⟨W.heap.size, 0, 1, rfl, by simp, fun i u hu => ?_⟩
  match i with
  | 0 =>
    simp at hu
    subst hu
    refine ⟨?_, ?_, ?_⟩ <;> (rw [World.cell?_alloc_at _ _ _ _ rfl]; rfl)
  | i + 1 => simp at hu
theorem reads_grown {W W' : World} {v : Value} {ts : List Tok} {n : Nat} (hR : Go.Proofs.YtgmfelikmjclbaaGreatDoor.Reads W (.slice (some ⟨n, 0, none⟩) 1 1) ts) (hg : W.grownBy W' v.ownBlock) (hne : v.ownBlock ≠ some n) : Go.Proofs.YtgmfelikmjclbaaGreatDoor.Reads W' (.slice (some ⟨n, 0, none⟩) 1 1) ts := by
  rcases hR with ⟨h0, ad, cap, h1⟩ | ⟨b, o, cap, h1, hb, ht⟩
  · simp at h1
  · simp only [Value.slice.injEq, Option.some.injEq, Addr.mk.injEq, and_true] at h1
    obtain ⟨⟨rfl, rfl⟩, h2, h3⟩ := h1
    refine .inr ⟨n, 0, 1, by rw [← h2], Nat.lt_of_lt_of_le hb hg.size, fun i t hi => ?_⟩
    obtain ⟨c0, c1, c2⟩ := ht i t hi
    exact ⟨hg.cell c0 (fun e => hne e.symm), hg.cell c1 (fun e => hne e.symm), hg.cell c2 (fun e => hne e.symm)⟩
theorem row_grown1 {W W' : World} {v : Value} (bt : Tok) {cs : Array Value} (hc : (rowCells [bt]).toArray = cs) (hg : (W.alloc (.cells cs 28)).grownBy W' v.ownBlock) (hne : v.ownBlock ≠ some W.heap.size) (n : Nat) (hn : W.heap.size = n) : Go.Proofs.YtgmfelikmjclbaaGreatDoor.Reads W' (.slice (some ⟨n, 0, none⟩) 1 1) [bt] := by
  subst hn
  exact reads_grown (lit_tok W bt cs hc _ rfl) hg hne
theorem row_grown2 {W W' : World} {v : Value} (bt : Tok) {cs : Array Value} {o : Obj} (hc : (rowCells [bt]).toArray = cs) (hg : ((W.alloc (.cells cs 28)).alloc o).grownBy W' v.ownBlock) (hne : v.ownBlock ≠ some W.heap.size) (n : Nat) (hn : W.heap.size = n) : Go.Proofs.YtgmfelikmjclbaaGreatDoor.Reads W' (.slice (some ⟨n, 0, none⟩) 1 1) [bt] := by
  subst hn
  exact reads_grown ((lit_tok W bt cs hc _ rfl).below ((Below.refl _ _).alloc (Nat.le_refl _) o)) hg hne
end Go.Proofs.YtgmfelikmjclbaaGreatDoor.ExprW

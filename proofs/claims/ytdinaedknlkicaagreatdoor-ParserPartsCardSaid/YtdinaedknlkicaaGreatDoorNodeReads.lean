/-
  Lists of nodes in memory (layer 4): five cells for each node; a slice that reads as a list, and one of lists.
-/
import Derived.Test.YtdinaedknlkicaaGreatDoorNodeLaws
import Derived.Test.YtdinaedknlkicaaGreatDoorDraws
import Derived.Test.YtdinaedknlkicaaGreatDoorChecked
import Derived.WalkKit
import Derived.ProofKit
import Derived.OpenShut
import Derived.RowKit3
import Derived.WalkLawsBesides
import Derived.WalkSpells
import Derived.Lib.Hide
import Derived.LoopTactic
import Derived.OwnWalk
import Derived.WalkSmall
import Derived.Deep.MidRow
import Derived.Deep.LoopGhost
namespace Go.Proofs.YtdinaedknlkicaaGreatDoor.Nodes
open Go.ChangeShapes Go.WideShapes Go.ChangeAt Go.RowKit

def ndCells (x : Nd) : List Value := [.int .u8 x.kind, .int .i64 x.n, .int .i64 x.a, .int .i64 x.b, .int .i64 x.at_]
def ndVal (x : Nd) : Value := .agg #[.int .u8 x.kind, .int .i64 x.n, .int .i64 x.a, .int .i64 x.b, .int .i64 x.at_]
def rowN (l : List Nd) : List Value := l.flatMap ndCells
theorem rowN_add (l : List Nd) (x : Nd) : rowN (l ++ [x]) = rowN l ++ ndCells x := by simp [rowN, List.flatMap_append]
theorem rowN_len (l : List Nd) : (rowN l).length = l.length * 5 := by
  induction l with
  | nil => rfl
  | cons x l ih => simp only [rowN, List.flatMap_cons, List.length_append, List.length_cons] at ih ⊢; rw [ih]; simp [ndCells]; omega
/-- A node in five cells. -/
def NdAt (w : World) (b o : Nat) (x : Nd) : Prop :=
  w.cell? ⟨b, o, none⟩ = some (.int .u8 x.kind) ∧ w.cell? ⟨b, o + 1, none⟩ = some (.int .i64 x.n) ∧ w.cell? ⟨b, o + 2, none⟩ = some (.int .i64 x.a) ∧ w.cell? ⟨b, o + 3, none⟩ = some (.int .i64 x.b) ∧ w.cell? ⟨b, o + 4, none⟩ = some (.int .i64 x.at_)
theorem NdAt.below {w w' : World} {b o : Nat} {x : Nd} (h : NdAt w b o x) (hb : b < w.heap.size) (hw : Below w.heap.size w w') : NdAt w' b o x :=
  ⟨(hw.cell (p := ⟨b, _, none⟩) hb).trans h.1, (hw.cell (p := ⟨b, _, none⟩) hb).trans h.2.1, (hw.cell (p := ⟨b, _, none⟩) hb).trans h.2.2.1, (hw.cell (p := ⟨b, _, none⟩) hb).trans h.2.2.2.1, (hw.cell (p := ⟨b, _, none⟩) hb).trans h.2.2.2.2⟩
/-- Five cells for each node, from an offset of a block on. -/
def NdsAt (w : World) (b o : Nat) (l : List Nd) : Prop := ∀ i x, l[i]? = some x → NdAt w b (o + i * 5) x
/-- A slice that reads as these nodes: an empty one, at whatever address, or one whose cells hold them (its capacity is no less than its length). -/
def ReadsN (w : World) (v : Value) (l : List Nd) : Prop :=
  (l = [] ∧ ∃ ad cap, v = .slice ad 0 cap) ∨ ∃ b o more, v = .slice (some ⟨b, o, none⟩) l.length (l.length + more) ∧ b < w.heap.size ∧ NdsAt w b o l
theorem ReadsN.below {w w' : World} {v : Value} {l : List Nd} (h : ReadsN w v l) (hw : Below w.heap.size w w') : ReadsN w' v l := by
  rcases h with h | ⟨b, o, cap, rfl, hb, ht⟩
  · exact .inl h
  · exact .inr ⟨b, o, cap, rfl, Nat.lt_of_lt_of_le hb hw.size, fun i x hx => (ht i x hx).below hb hw⟩
theorem ReadsN.shape {w : World} {v : Value} {l : List Nd} (h : ReadsN w v l) : ∃ ad cap, v = .slice ad l.length cap := by
  rcases h with ⟨rfl, ad, cap, rfl⟩ | ⟨b, o, cap, rfl, _⟩
  · exact ⟨ad, cap, rfl⟩
  · exact ⟨_, _, rfl⟩
theorem rowN_at (l : List Nd) (i : Nat) (x : Nd) (h : l[i]? = some x) :
    (rowN l)[i * 5]? = some (.int .u8 x.kind) ∧ (rowN l)[i * 5 + 1]? = some (.int .i64 x.n) ∧ (rowN l)[i * 5 + 2]? = some (.int .i64 x.a) ∧ (rowN l)[i * 5 + 3]? = some (.int .i64 x.b) ∧ (rowN l)[i * 5 + 4]? = some (.int .i64 x.at_) := by
  induction l generalizing i with
  | nil => simp at h
  | cons u l ih =>
    cases i with
    | zero => simp at h; subst h; exact ⟨rfl, rfl, rfl, rfl, rfl⟩
    | succ i =>
      have := ih i (by simpa using h)
      rw [show (i + 1) * 5 = i * 5 + 5 by omega]
      exact this
/-- What a call has made itself reads as its nodes. -/
theorem own_readsN {w : World} {base : Nat} {v : Value} {l : List Nd} (h : w.ownsRow base 43 5 v l.length (rowN l)) : ReadsN w v l := by
  rcases h.2 with ⟨rfl, h0⟩ | ⟨g, cap, cur, rfl, hb, hg, hnc, _⟩
  · rw [List.length_eq_zero_iff] at h0
    subst h0
    exact .inl ⟨rfl, _, _, rfl⟩
  · refine .inr ⟨g, 0, cap - l.length, by rw [Nat.add_sub_cancel' hnc], (Array.getElem?_eq_some_iff.1 hg).1, fun i x hx => ?_⟩
    have hcc := h.cells (g := g) rfl
    obtain ⟨h0, h1, h2, h3, h4⟩ := rowN_at l i x hx
    have e : ∀ j, (⟨g, 0, none⟩ : Addr).add j = ⟨g, 0 + j, none⟩ := fun j => Addr.add_mid g 0 j
    refine ⟨?_, ?_, ?_, ?_, ?_⟩
    · have := hcc _ _ h0; rwa [e] at this
    · have := hcc _ _ h1; rwa [e] at this
    · have := hcc _ _ h2; rwa [e] at this
    · have := hcc _ _ h3; rwa [e] at this
    · have := hcc _ _ h4; rwa [e] at this
/-- The node at a place of a slice. -/
theorem ReadsN.nd {w : World} {v : Value} {l : List Nd} (h : ReadsN w v l) (k : Nat) (hk : k < l.length) :
    ∃ b o cap, v = .slice (some ⟨b, o, none⟩) l.length cap ∧ b < w.heap.size ∧ NdAt w b (o + k * 5) l[k] := by
  rcases h with ⟨rfl, _⟩ | ⟨b, o, cap, rfl, hb, ht⟩
  · simp at hk
  · exact ⟨b, o, _, rfl, hb, ht k _ (List.getElem?_eq_getElem hk)⟩
theorem below_then {w w1 w2 : World} (h : Below w.heap.size w w1) (h2 : Below w1.heap.size w1 w2) : Below w.heap.size w w2 := h.trans (h2.mono h.size)
theorem below_box {w wx w2 : World} {o : Obj} (h : Below w.heap.size w wx) (hb : Below (wx.alloc o).heap.size (wx.alloc o) w2) : Below w.heap.size w w2 :=
  below_then (h.alloc h.size _) hb
end Go.Proofs.YtdinaedknlkicaaGreatDoor.Nodes

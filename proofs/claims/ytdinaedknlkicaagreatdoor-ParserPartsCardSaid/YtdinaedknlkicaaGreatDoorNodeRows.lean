/-
  Rows of nodes that a call has made itself (layer 4); a slice that reads as lists of nodes; what Part and Node return.
-/
import Derived.Test.YtdinaedknlkicaaGreatDoorNodeReads
import Derived.Laws.OwnMore
import Derived.Outline
namespace Go.Proofs.YtdinaedknlkicaaGreatDoor.Nodes
open Go.ChangeShapes Go.WideShapes Go.ChangeAt Go.RowKit

theorem info_nd : (Tryz.prog.info? 43).map (fun i => (i.zero, i.size, i.bytes)) = some (some (.agg #[.int .u8 0, .int .i64 0, .int .i64 0, .int .i64 0, .int .i64 0]), 5, 40) := by kernel_rfl
theorem cut_next {l : List Nd} {s m j : Nat} (hj : j < s) (hm : m + 1 - s + j < l.length) : (cutL l s m).take (j + 1) = (cutL l s m).take j ++ [shift ((m + 1 - s : Nat) : Int) l[m + 1 - s + j]] := by
  have h := cut_get (l := l) (at_ := m) j hj
  rw [List.getElem?_eq_getElem hm] at h
  obtain ⟨hlt, he⟩ := List.getElem?_eq_some_iff.1 h
  rw [List.take_succ_eq_append_getElem hlt, he]
theorem own_set {w : World} {base n : Nat} {e : TypeId} {size : Nat} {v : Value} {xs : List Value} (h : w.ownsRow base e size v n xs) {b : Nat} (hb : v.ownBlock ≠ some b) (o : Nat) (u : Value) : (w.setCell ⟨b, o, none⟩ u).ownsRow base e size v n xs :=
  h.kept (row := some b) ⟨rfl, rfl, rfl, by simp [World.setCell], fun k _ hk => Below.heap_setCell _ _ _ _ (fun e => hk (by simp [e]))⟩ (.inr hb)
theorem own_new {w : World} {base n : Nat} {e : TypeId} {size : Nat} {v : Value} {xs : List Value} (h : w.ownsRow base e size v n xs) : v.ownBlock ≠ some w.heap.size := fun he => by
  have := (h.lt _ he).2
  omega
theorem own_lower {w : World} {base base2 n : Nat} {e : TypeId} {size : Nat} {v : Value} {xs : List Value} (h : w.ownsRow base2 e size v n xs) (hb : base ≤ base2) : w.ownsRow base e size v n xs := by
  refine ⟨h.1, ?_⟩
  rcases h.2 with h1 | ⟨g, cap, cur, h1, h2, h3⟩
  · exact .inl h1
  · exact .inr ⟨g, cap, cur, h1, Nat.le_trans hb h2, h3⟩
/-- What shifting asks of a node: its parts' indices are small. -/
theorem node_small {l : List Nd} (h : checkV l = 0) {i : Nat} (hi : i < l.length) : 0 ≤ l[i].a ∧ l[i].a ≤ 60 ∧ 0 ≤ l[i].b ∧ l[i].b ≤ 60 := by
  have h60 := (check_acc h).2.2.1
  obtain ⟨_, _, _, _, _, _, hc⟩ := node_facts h hi
  rcases hc with ⟨_, ha, hb, _⟩ | ⟨_, _, ha, hb, _⟩ | ⟨_, _, _, ha, hb, _⟩ <;> omega
/-- A slice that reads as lists of nodes. -/
def ReadsP (w : World) (v : Value) (ps : List (List Nd)) : Prop :=
  (ps = [] ∧ ∃ ad cap, v = .slice ad 0 cap) ∨ ∃ b o cap, v = .slice (some ⟨b, o, none⟩) ps.length cap ∧ b < w.heap.size ∧ ∀ i p, ps[i]? = some p → ∃ vi, w.cell? ⟨b, o + i, none⟩ = some vi ∧ ReadsN w vi p
/-- What Part and Node return. -/
def ListEnds (r : List Nd × Int) (w : World) (e : Ending) (w' : World) : Prop :=
  ∃ v, e = .returned (.tuple #[v, .int .i64 r.2]) ∧ w'.ownsRow w.heap.size 43 5 v r.1.length (rowN r.1) ∧ Below w.heap.size w w'
theorem own_readsP {w : World} {base : Nat} {v : Value} {vs : List Value} {ps : List (List Nd)} (h : w.ownsRow base 23 1 v ps.length vs) (hv : ∀ (i : Nat) (p : List Nd), ps[i]? = some p → ∃ vi, vs[i]? = some vi ∧ ReadsN w vi p) : ReadsP w v ps := by
  rcases h.2 with ⟨rfl, h0⟩ | ⟨g, cap, cur, rfl, hb, hg, _⟩
  · rw [List.length_eq_zero_iff] at h0
    subst h0
    exact .inl ⟨rfl, _, _, rfl⟩
  · refine .inr ⟨g, 0, cap, rfl, (Array.getElem?_eq_some_iff.1 hg).1, fun i p hp => ?_⟩
    obtain ⟨vi, h1, h2⟩ := hv i p hp
    have := h.cells (g := g) rfl i vi h1
    rw [Addr.add_mid] at this
    exact ⟨vi, this, h2⟩
theorem cell_of {w : World} {b : Nat} {cs : Array Value} {T : TypeId} {fr : Nat × Nat} (hb : w.heap[b]? = some (.cells cs T fr)) (j : Nat) : w.cell? ⟨b, j, none⟩ = cs[j]? := by
  simp [World.cell?, hb]
/-- A row of slices written out. -/
theorem lit_readsP (vs : List Value) (ps : List (List Nd)) (n : Nat) (hn : ps.length = n) (w : World) (h : ∀ (i : Nat) (p : List Nd), ps[i]? = some p → ∃ vi, vs[i]? = some vi ∧ ReadsN w vi p) : ReadsP (w.alloc (.cells vs.toArray 23)) (.slice (some ⟨w.heap.size, 0, none⟩) n n) ps := by
  subst hn
  refine .inr ⟨w.heap.size, 0, ps.length, rfl, by simp, fun i p hp => ?_⟩
  obtain ⟨vi, h1, h2⟩ := h i p hp
  refine ⟨vi, ?_, h2.below ((Below.refl _ w).alloc (Nat.le_refl _) _)⟩
  rw [Nat.zero_add, cell_of (heap_alloc_new w _), List.getElem?_toArray]
  exact h1
theorem lit_readsP_at (vs : List Value) (ps : List (List Nd)) (n : Nat) (hn : ps.length = n) (w : World) (nb : Nat) (hnb : w.heap.size = nb) (h : ∀ (i : Nat) (p : List Nd), ps[i]? = some p → ∃ vi, vs[i]? = some vi ∧ ReadsN w vi p) : ReadsP (w.alloc (.cells vs.toArray 23)) (.slice (some ⟨nb, 0, none⟩) n n) ps := by
  subst hnb
  exact lit_readsP vs ps n hn w h
end Go.Proofs.YtdinaedknlkicaaGreatDoor.Nodes

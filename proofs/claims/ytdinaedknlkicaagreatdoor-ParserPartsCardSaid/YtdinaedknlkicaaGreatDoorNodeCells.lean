/-
  The cells of lists of nodes: one changed, a list copied and changed place by place.
-/
import Derived.Test.YtdinaedknlkicaaGreatDoorNodeReads
import Derived.Test.YtdinaedknlkicaaGreatDoorNodeLaws
namespace Go.Proofs.YtdinaedknlkicaaGreatDoor.Nodes
open Go.ChangeShapes Go.WideShapes Go.ChangeAt Go.RowKit

theorem rowN_set (l : List Nd) : ∀ (k : Nat) (hk : k < l.length) (c : Nat), c < 5 → ∀ (u : Value) (y : Nd), (ndCells l[k]).set c u = ndCells y → (rowN l).set (k * 5 + c) u = rowN (l.set k y) := by
  induction l with
  | nil => intro k hk; simp at hk
  | cons x l ih =>
    intro k hk c hc u y h
    cases k with
    | zero =>
      show (ndCells x ++ rowN l).set (0 * 5 + c) u = ndCells y ++ rowN l
      rw [Nat.zero_mul, Nat.zero_add, List.set_append_left _ _ (by show c < 5; exact hc)]
      exact congrArg (· ++ rowN l) h
    | succ k =>
      show (ndCells x ++ rowN l).set ((k + 1) * 5 + c) u = ndCells x ++ rowN (l.set k y)
      rw [List.set_append_right _ _ (by show 5 ≤ _; omega)]
      show ndCells x ++ (rowN l).set ((k + 1) * 5 + c - 5) u = _
      rw [show (k + 1) * 5 + c - 5 = k * 5 + c by omega, ih k (by simpa using hk) c hc u y h]
/-- The cells of a slice that reads as nodes. -/
theorem nds_cells {w : World} {b o : Nat} {l : List Nd} (h : NdsAt w b o l) : ∀ (j : Nat) (u : Value), (rowN l)[j]? = some u → w.cell? ((⟨b, o, none⟩ : Addr).add j) = some u := by
  intro j u hu
  have hj : j < l.length * 5 := by
    have := (List.getElem?_eq_some_iff.1 hu).1
    rwa [rowN_len] at this
  have hi : j / 5 < l.length := by omega
  obtain ⟨r0, r1, r2, r3, r4⟩ := rowN_at l (j / 5) _ (List.getElem?_eq_getElem hi)
  obtain ⟨c0, c1, c2, c3, c4⟩ := h (j / 5) _ (List.getElem?_eq_getElem hi)
  rw [Addr.add_mid]
  have hm : j % 5 = 0 ∨ j % 5 = 1 ∨ j % 5 = 2 ∨ j % 5 = 3 ∨ j % 5 = 4 := by omega
  rcases hm with hm | hm | hm | hm | hm
  · rw [show j = j / 5 * 5 by omega, r0] at hu
    rw [show o + j = o + j / 5 * 5 by omega, c0, ← hu]
  · rw [show j = j / 5 * 5 + 1 by omega, r1] at hu
    rw [show o + j = o + j / 5 * 5 + 1 by omega, c1, ← hu]
  · rw [show j = j / 5 * 5 + 2 by omega, r2] at hu
    rw [show o + j = o + j / 5 * 5 + 2 by omega, c2, ← hu]
  · rw [show j = j / 5 * 5 + 3 by omega, r3] at hu
    rw [show o + j = o + j / 5 * 5 + 3 by omega, c3, ← hu]
  · rw [show j = j / 5 * 5 + 4 by omega, r4] at hu
    rw [show o + j = o + j / 5 * 5 + 4 by omega, c4, ← hu]
theorem rowN_one (l : List Nd) : ∀ u ∈ rowN l, u.oneCell' = true := by
  intro u hu
  unfold rowN at hu
  rw [List.mem_flatMap] at hu
  obtain ⟨x, _, hx⟩ := hu
  simp [ndCells] at hx
  rcases hx with rfl | rfl | rfl | rfl | rfl <;> rfl
/-- The first nodes at another place. -/
def movedK (p : Int) (l : List Nd) (k : Nat) : List Nd := (l.take k).map (fun x => (⟨x.kind, x.n, x.a, x.b, p⟩ : Nd)) ++ l.drop k
theorem movedK_zero (p : Int) (l : List Nd) : movedK p l 0 = l := rfl
theorem movedK_all (p : Int) (l : List Nd) : movedK p l l.length = moveL p l := by
  unfold movedK moveL; rw [List.take_length, List.drop_length, List.append_nil]
theorem movedK_len (p : Int) (l : List Nd) (k : Nat) : (movedK p l k).length = l.length := by
  unfold movedK; simp; omega
theorem movedK_get (p : Int) (l : List Nd) {k : Nat} (hk : k < l.length) : (movedK p l k)[k]'(by rw [movedK_len]; exact hk) = l[k] := by
  unfold movedK
  rw [List.getElem_append_right (by simp; omega)]
  simp [List.length_take, Nat.min_eq_left (Nat.le_of_lt hk)]
theorem movedK_next (p : Int) (l : List Nd) {k : Nat} (hk : k < l.length) : (movedK p l k).set k ⟨l[k].kind, l[k].n, l[k].a, l[k].b, p⟩ = movedK p l (k + 1) := by
  unfold movedK
  rw [List.set_append_right _ _ (by simp; omega), List.take_succ_eq_append_getElem hk, List.map_append, List.append_assoc]
  congr 1
  rw [List.length_map, List.length_take, Nat.min_eq_left (Nat.le_of_lt hk), Nat.sub_self, List.drop_eq_getElem_cons hk]
  rfl
end Go.Proofs.YtdinaedknlkicaaGreatDoor.Nodes

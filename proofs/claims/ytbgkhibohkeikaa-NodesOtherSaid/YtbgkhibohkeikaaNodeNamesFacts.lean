/-
  Facts for the walk of NodesNames: the lists that are no expressions, the deep and the wide expression, 61 nodes.
-/
import Derived.Test.YtbgkhibohkeikaaNodeAlive
import Derived.Laws.OwnMore
import Derived.Outline
namespace Go.Proofs.Ytbgkhibohkeikaa.Nodes
open Go.ChangeShapes Go.WideShapes Go.ChangeAt Go.RowKit

def vN : Nd := ⟨4, 0, 0, 0, 0⟩
def badsL : List (List Nd) := [[], [⟨0, 0, 0, 0, 0⟩], [⟨20, 0, 0, 0, 0⟩], [⟨2, 1, 0, 0, 0⟩], [⟨1, -1, 0, 0, 0⟩], [⟨3, 0, 1, 0, 0⟩], [⟨3, 0, 0, 1, 0⟩], [⟨3, 0, 0, 0, -1⟩], [⟨3, 0, 0, 0, 401⟩], [vN, vN], [⟨5, 0, 0, 0, 0⟩], [vN, ⟨5, 0, 1, 0, 0⟩], [vN, ⟨5, 0, 0, 1, 0⟩], [vN, ⟨8, 0, 0, 0, 0⟩],
  [vN, vN, ⟨8, 0, 1, 0, 0⟩], [vN, vN, ⟨8, 0, 0, 0, 0⟩], [vN, vN, ⟨6, 0, 0, 0, 0⟩], [vN, vN, vN, ⟨8, 0, 1, 2, 0⟩], [vN, vN, ⟨8, 5, 0, 1, 0⟩]]
theorem bads_all : badsL.all (fun p => checkV p == 8 && decide (p.length ≤ 60)) = true := by decide +kernel
theorem ex_ok : checkV exL = 0 := by decide +kernel
theorem bad_check {p : List Nd} (h : p ∈ badsL) : checkV p = 8 ∧ p.length ≤ 60 := by
  have := List.all_eq_true.1 bads_all p h
  simpa using this
theorem bad_facts {p : List Nd} (h : p ∈ badsL) : checkV p = 8 ∧ depthV p = (0, 8) ∧ sizeV p (-1) = (0, 8) ∧ partV p (-1) = ([], 8) ∧ sameV p exL = (false, 8) ∧ sameV exL p = (false, 8) ∧ nodeV 5 0 0 [p] = ([], 8) := by
  have hc := (bad_check h).1
  have hne : ¬ checkV p = 0 := by rw [hc]; decide
  refine ⟨hc, ?_, ?_, ?_, ?_, ?_, ?_⟩
  · unfold depthV; rw [if_neg hne, hc]
  · unfold sizeV; rw [if_neg hne, hc]
  · unfold partV; rw [if_neg hne, hc]
  · unfold sameV; rw [if_neg hne, hc]
  · unfold sameV; rw [if_pos ex_ok, if_neg hne, hc]
  · unfold nodeV
    rw [if_pos ⟨by decide, by decide, rfl, by decide, .inl rfl, by decide, by decide⟩]
    have : [p].find? badP = some p := by
      unfold List.find? badP
      rw [hc]; rfl
    rw [this]
    simp only [hc]
/-- A number of negatives of v. -/
def deepL : Nat → List Nd
  | 0 => [vN]
  | k + 1 => deepL k ++ [⟨5, 0, (k : Int), 0, 0⟩]
theorem deep_len (k : Nat) : (deepL k).length = k + 1 := by
  induction k with
  | zero => rfl
  | succ k ih => unfold deepL; rw [List.length_append, ih]; rfl
theorem deep_facts : depthV (deepL 19) = (20, 0) ∧ (nodeV 5 0 0 [deepL 19]).2 = 34 := by decide +kernel
def wideL : Nat → List Nd
  | 0 => [vN]
  | k + 1 => (nodeV 8 0 0 [wideL k, [vN]]).1
theorem wide_facts : (∀ i : Fin 19, (nodeV 8 0 0 [wideL i.val, [vN]]).2 = 0) ∧ (nodeV 8 0 0 [wideL 19, [vN]]).2 = 34 := by decide +kernel
theorem wide_len : ∀ i : Fin 20, (wideL i.val).length ≤ 60 := by decide +kernel
theorem ex_errors : (sizeV exL 5).2 = 2 ∧ (partV exL (-1)).2 = 2 ∧ partsV 0 = (0, 2) ∧ partsV 20 = (0, 2) := by decide +kernel
def zerosL : List Nd := List.replicate 61 ⟨0, 0, 0, 0, 0⟩
theorem zeros_check : checkV zerosL = 4 := by decide +kernel

/-- The deep expressions, by what they are alone. -/
theorem deep_step : ∃ D : Nat → List Nd, D 0 = [vN] ∧ (∀ k : Nat, D (k + 1) = D k ++ [⟨5, 0, (k : Int), 0, 0⟩]) ∧ (∀ k, (D k).length = k + 1) ∧ depthV (D 19) = (20, 0) ∧ (nodeV 5 0 0 [D 19]).2 = 34 :=
  ⟨deepL, rfl, fun _ => rfl, deep_len, deep_facts.1, deep_facts.2⟩
/-- The wide ones. -/
theorem wide_step : ∃ D : Nat → List Nd, D 0 = [vN] ∧ (∀ k, k < 20 → (D k).length ≤ 60) ∧ (∀ k, k < 19 → nodeV 8 0 0 [D k, [vN]] = (D (k + 1), 0)) ∧ (nodeV 8 0 0 [D 19, [vN]]).2 = 34 := by
  refine ⟨wideL, rfl, fun k hk => wide_len ⟨k, hk⟩, fun k hk => ?_, wide_facts.2⟩
  have := wide_facts.1 ⟨k, hk⟩
  exact Prod.ext rfl this
/-- Node's contract, with what it returns written out. -/
theorem node_is (k n at_ : Int) (ps : List (List Nd)) (l : List Nd) (er : Int) (h : nodeV k n at_ ps = (l, er)) (h0 : 0 ≤ k) (h1 : k ≤ 255) (hn : ∀ p ∈ ps, p.length ≤ 1000000) (hp : ps.length ≤ 1000000) (w : World) (vp : Value) (hR : ReadsP w vp ps) :
    Calls Try.prog 14 #[.int .u8 k, .int .i64 n, .int .i64 at_, vp] w fun e w' => ∃ v, e = .returned (.tuple #[v, .int .i64 er]) ∧ w'.ownsRow w.heap.size 23 5 v l.length (rowN l) ∧ Below w.heap.size w w' := by
  have := nodesNode_any k n at_ vp ps w hR h0 h1 hn hp
  unfold ListEnds at this
  rw [h] at this
  exact this
theorem node_err (k n at_ : Int) (ps : List (List Nd)) (er : Int) (h : (nodeV k n at_ ps).2 = er) (h0 : 0 ≤ k) (h1 : k ≤ 255) (hn : ∀ p ∈ ps, p.length ≤ 1000000) (hp : ps.length ≤ 1000000) (w : World) (vp : Value) (hR : ReadsP w vp ps) :
    Calls Try.prog 14 #[.int .u8 k, .int .i64 n, .int .i64 at_, vp] w fun e w' => ∃ ad m cp, e = .returned (.tuple #[.slice ad m cp, .int .i64 er]) ∧ Below w.heap.size w w' := by
  refine (nodesNode_any k n at_ vp ps w hR h0 h1 hn hp).mono ?_
  rintro e w' ⟨v, rfl, ho, hb⟩
  obtain ⟨ad, cp, rfl⟩ := own_shape ho
  rw [h]
  exact ⟨_, _, _, rfl, hb⟩
theorem depth_is2 (l : List Nd) (d : Int) (h : depthV l = (d, 0)) (hn : l.length ≤ 1000000) (w : World) (v : Value) (hR : ReadsN w v l) :
    Calls Try.prog 9 #[v] w fun e w' => e = .returned (.tuple #[.int .i64 d, .int .i64 0]) ∧ Below w.heap.size w w' := by
  have := nodesDepth_any v l w hR hn
  rw [h] at this
  exact this
theorem size_err (l : List Nd) (at_ er : Int) (h : (sizeV l at_).2 = er) (hn : l.length ≤ 1000000) (w : World) (v : Value) (hR : ReadsN w v l) :
    Calls Try.prog 10 #[v, .int .i64 at_] w fun e w' => ∃ x, e = .returned (.tuple #[.int .i64 x, .int .i64 er]) ∧ Below w.heap.size w w' := by
  refine (nodesSize_any v l at_ w hR hn).mono ?_
  rintro e w' ⟨rfl, hb⟩
  rw [h]
  exact ⟨_, rfl, hb⟩
theorem part_err (l : List Nd) (at_ er : Int) (h : (partV l at_).2 = er) (hn : l.length ≤ 1000000) (w : World) (v : Value) (hR : ReadsN w v l) :
    Calls Try.prog 11 #[v, .int .i64 at_] w fun e w' => ∃ ad m cp, e = .returned (.tuple #[.slice ad m cp, .int .i64 er]) ∧ Below w.heap.size w w' := by
  refine (nodesPart_any v l at_ w hR hn).mono ?_
  rintro e w' ⟨v2, rfl, ho, hb⟩
  obtain ⟨ad, cp, rfl⟩ := own_shape ho
  rw [h]
  exact ⟨_, _, _, rfl, hb⟩
theorem parts_err (k : Int) (h0 : 0 ≤ k) (h1 : k ≤ 255) (h : partsV k = (0, 2)) (w : World) :
    Calls Try.prog 16 #[.int .u8 k] w fun e w' => e = .returned (.tuple #[.int .i64 0, .int .i64 2]) ∧ Below w.heap.size w w' := by
  have := nodesParts_any k h0 h1 w
  rw [h] at this
  exact this
theorem check_is (l : List Nd) (er : Int) (h : checkV l = er) (hn : l.length ≤ 1000000) (w : World) (v : Value) (hR : ReadsN w v l) :
    Calls Try.prog 15 #[v] w fun e w' => e = .returned (.int .i64 er) ∧ Below w.heap.size w w' := by
  have := nodesCheck_any v l w hR hn
  rw [h] at this
  exact this
def zeroN : Nd := ⟨0, 0, 0, 0, 0⟩
theorem made_nds (n : Nat) : (madeCells (Value.agg #[.int .u8 0, .int .i64 0, .int .i64 0, .int .i64 0, .int .i64 0]).cells (n * 5)).toList = rowN (List.replicate n zeroN) := by
  apply List.ext_getElem
  · rw [Array.length_toList, size_madeCells, rowN_len, List.length_replicate]
  · intro j h1 h2
    rw [Array.length_toList, size_madeCells] at h1
    have hq : j / 5 < n := by omega
    obtain ⟨c0, c1, c2, c3, c4⟩ := rowN_at (List.replicate n zeroN) (j / 5) zeroN (by rw [List.getElem?_replicate, if_pos hq])
    have hj : (madeCells (Value.agg #[.int .u8 0, .int .i64 0, .int .i64 0, .int .i64 0, .int .i64 0]).cells (n * 5)).toList[j] = #[Value.int .u8 0, .int .i64 0, .int .i64 0, .int .i64 0, .int .i64 0][j % 5]! := by
      simp only [madeCells, Array.toList_map, List.getElem_map, Array.toList_range, List.getElem_range]
      rfl
    rw [hj]
    have hr : j % 5 = 0 ∨ j % 5 = 1 ∨ j % 5 = 2 ∨ j % 5 = 3 ∨ j % 5 = 4 := by omega
    apply Option.some.inj
    rw [← List.getElem?_eq_getElem h2]
    rcases hr with hr | hr | hr | hr | hr
    · rw [hr, show j = j / 5 * 5 by omega, c0]; rfl
    · rw [hr, show j = j / 5 * 5 + 1 by omega, c1]; rfl
    · rw [hr, show j = j / 5 * 5 + 2 by omega, c2]; rfl
    · rw [hr, show j = j / 5 * 5 + 3 by omega, c3]; rfl
    · rw [hr, show j = j / 5 * 5 + 4 by omega, c4]; rfl
/-- make([]api.Node, n): n nodes that are zero, in a new block. -/
theorem make_nds (w : World) (n : Nat) (hn : n ≤ 1000) : ∃ w1, (Instr.makeSlice 24 (.int .i64 (n : Int)) (.int .i64 (n : Int))).run Try.prog w = .ok (.slice (some ⟨w.heap.size, 0, none⟩) n n) w1 ∧
    w1.ownsRow w.heap.size 23 5 (.slice (some ⟨w.heap.size, 0, none⟩) n n) n (rowN (List.replicate n zeroN)) ∧ Below w.heap.size w w1 := by
  obtain ⟨i0, hi, hz0, hz1, hz2⟩ := info_parts info_nd
  obtain ⟨w1, h1, h2, h3⟩ := run_make_full (P := Try.prog) (w := w) w.heap.size 24 23 i0 _ 5 Try.underlying24 hi hz0 hz1 .i64 .i64 n (by rw [hz2]; omega) (by unfold maxLen; omega) (Nat.le_refl _)
  rw [made_nds n] at h2
  exact ⟨w1, h1, h2, (Below.refl _ _).grown h3 (Nat.le_refl _) (by simp)⟩
theorem zeros_is : checkV (List.replicate 61 zeroN) = 4 := zeros_check
/-! ### A world in which some blocks were made one behind the other -/
def allocs : World → List Obj → World
  | w, [] => w
  | w, o :: os => allocs (w.alloc o) os
theorem allocs_size (os : List Obj) : ∀ w, (allocs w os).heap.size = w.heap.size + os.length := by
  induction os with
  | nil => intro w; rfl
  | cons o os ih => intro w; show (allocs (w.alloc o) os).heap.size = _; rw [ih]; simp; omega
theorem allocs_below (os : List Obj) : ∀ w, Below w.heap.size w (allocs w os) := by
  induction os with
  | nil => intro w; exact Below.refl _ _
  | cons o os ih => intro w; exact below_box (Below.refl _ _) (ih _)
theorem allocs_heap (os : List Obj) : ∀ w j, j < os.length → (allocs w os).heap[w.heap.size + j]? = os[j]? := by
  induction os with
  | nil => intro w j h; simp at h
  | cons o os ih =>
    intro w j h
    cases j with
    | zero =>
      show (allocs (w.alloc o) os).heap[w.heap.size]? = _
      rw [(allocs_below os (w.alloc o)).block w.heap.size (by simp), heap_alloc_new]; rfl
    | succ j =>
      show (allocs (w.alloc o) os).heap[w.heap.size + (j + 1)]? = _
      have := ih (w.alloc o) j (by simpa using h)
      rw [show (w.alloc o).heap.size + j = w.heap.size + (j + 1) by simp; omega] at this
      exact this
/-- A block of nodes reads as them. -/
theorem block_reads {w : World} {b : Nat} {l : List Nd} (h : w.heap[b]? = some (.cells (rowN l).toArray 23 (0, 0))) (n : Nat) (hn : l.length = n) : ReadsN w (.slice (some ⟨b, 0, none⟩) n n) l := by
  subst hn
  refine .inr ⟨b, 0, 0, rfl, (Array.getElem?_eq_some_iff.1 h).1, fun i x hx => ?_⟩
  obtain ⟨h0, h1, h2, h3, h4⟩ := rowN_at l i x hx
  have e : ∀ j, w.cell? ⟨b, 0 + j, none⟩ = (rowN l)[j]? := fun j => by
    rw [Nat.zero_add, cell_of h, List.getElem?_toArray]
  exact ⟨(e _).trans h0, (e _).trans h1, (e _).trans h2, (e _).trans h3, (e _).trans h4⟩
/-- The lists lie in a row of slices. -/
def BadsAt (w : World) (nb : Nat) : Prop := nb < w.heap.size ∧ ∀ (i : Nat) (p : List Nd), badsL[i]? = some p → ∃ vi, w.cell? ⟨nb, i, none⟩ = some vi ∧ ReadsN w vi p
theorem BadsAt.below {w w' : World} {nb : Nat} (h : BadsAt w nb) (hw : Below w.heap.size w w') : BadsAt w' nb := by
  refine ⟨Nat.lt_of_lt_of_le h.1 hw.size, fun i p hp => ?_⟩
  obtain ⟨vi, h1, h2⟩ := h.2 i p hp
  exact ⟨vi, (hw.cell (p := ⟨nb, i, none⟩) h.1).trans h1, h2.below hw⟩
/-- A row of slices written out. -/
def badObjs (w : World) : List Obj :=
  [.cells (rowN [vN]).toArray 23] ++ badsL.map (fun p => .cells (rowN p).toArray 23) ++ [.cells ((List.range 19).map fun i => Value.slice (some ⟨w.heap.size + (1 + i), 0, none⟩) ((badsL.getD i []).length) ((badsL.getD i []).length)).toArray 24]
theorem bads_start (w : World) : BadsAt (allocs w (badObjs w)) (w.heap.size + 20) ∧ (allocs w (badObjs w)).heap[w.heap.size]? = some (.cells (rowN [vN]).toArray 23 (0, 0)) ∧ Below w.heap.size w (allocs w (badObjs w)) := by
  have hl : (badObjs w).length = 21 := rfl
  have hh := allocs_heap (badObjs w) w
  refine ⟨⟨by rw [allocs_size, hl]; omega, fun i p hp => ?_⟩, ?_, allocs_below _ _⟩
  · have hi : i < 19 := by have := (List.getElem?_eq_some_iff.1 hp).1; exact this
    have h20 : (allocs w (badObjs w)).heap[w.heap.size + 20]? = some (.cells ((List.range 19).map fun i => Value.slice (some ⟨w.heap.size + (1 + i), 0, none⟩) ((badsL.getD i []).length) ((badsL.getD i []).length)).toArray 24 (0, 0)) := by
      rw [hh 20 (by rw [hl]; decide)]; rfl
    have hg : badsL.getD i [] = p := by rw [List.getD_eq_getElem?_getD, hp]; rfl
    refine ⟨_, (cell_of h20 i).trans (by rw [List.getElem?_toArray, List.getElem?_map, List.getElem?_range hi]; rfl), ?_⟩
    have hb : (allocs w (badObjs w)).heap[w.heap.size + (1 + i)]? = some (.cells (rowN p).toArray 23 (0, 0)) := by
      rw [hh (1 + i) (by rw [hl]; omega)]
      unfold badObjs
      rw [List.getElem?_append_left (by show 1 + i < 20; omega), List.getElem?_append_right (by show 1 ≤ 1 + i; omega)]
      show (badsL.map _)[1 + i - 1]? = _
      rw [show 1 + i - 1 = i by omega, List.getElem?_map, hp]; rfl
    show ReadsN _ (.slice (some ⟨w.heap.size + (1 + i), 0, none⟩) (badsL.getD i []).length (badsL.getD i []).length) p
    rw [hg]
    exact block_reads hb _ rfl
  · have := hh 0 (by rw [hl]; decide)
    exact this
end Go.Proofs.Ytbgkhibohkeikaa.Nodes

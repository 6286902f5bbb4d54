/-
  make([]api.Node, n).
-/
import Derived.Test.YtfmobnlnedljeaaDoorNodeRows
import Derived.Laws.OwnMore
namespace Go.Proofs.YtfmobnlnedljeaaDoor.Nodes
open Go.ChangeShapes Go.WideShapes Go.ChangeAt Go.RowKit

def zeroN : Nd := ⟨0, 0, 0, 0, 0⟩
theorem made_nds (n : Nat) : (madeCells (Value.agg #[.int .u8 0, .int .i64 0, .int .i64 0, .int .i64 0, .int .i64 0]).cells (n * 5)).toList = rowN (List.replicate n zeroN) := by
  apply List.ext_getElem
  · rw [Array.length_toList, size_madeCells, rowN_len, List.length_replicate]
  · intro j h1 h2
    rw [Array.length_toList, size_madeCells] at h1
    have hq : j / 5 < n := by omega
    obtain ⟨c0, c1, c2, c3, c4⟩ := rowN_at (List.replicate n zeroN) (j / 5) zeroN (by rw [List.getElem?_replicate, if_pos hq])
    have hj : (madeCells (Value.agg #[.int .u8 0, .int .i64 0, .int .i64 0, .int .i64 0, .int .i64 0]).cells (n * 5)).toList[j] = #[Value.int .u8 0, .int .i64 0, .int .i64 0, .int .i64 0, .int .i64 0][j % 5]! := by
      simp only [madeCells, Array.toList_map, List.getElem_map, Array.toList_range, List.getElem_range]
      rfl
    rw [hj]
    have hr : j % 5 = 0 ∨ j % 5 = 1 ∨ j % 5 = 2 ∨ j % 5 = 3 ∨ j % 5 = 4 := by omega
    apply Option.some.inj
    rw [← List.getElem?_eq_getElem h2]
    rcases hr with hr | hr | hr | hr | hr
    · rw [hr, show j = j / 5 * 5 by omega, c0]; rfl
    · rw [hr, show j = j / 5 * 5 + 1 by omega, c1]; rfl
    · rw [hr, show j = j / 5 * 5 + 2 by omega, c2]; rfl
    · rw [hr, show j = j / 5 * 5 + 3 by omega, c3]; rfl
    · rw [hr, show j = j / 5 * 5 + 4 by omega, c4]; rfl
/-- make([]api.Node, n): n nodes that are zero, in a new block. -/
theorem make_nds (w : World) (n : Nat) (hn : n ≤ 1000) : ∃ w1, (Instr.makeSlice 30 (.int .i64 (n : Int)) (.int .i64 (n : Int))).run Tryd.prog w = .ok (.slice (some ⟨w.heap.size, 0, none⟩) n n) w1 ∧
    w1.ownsRow w.heap.size 35 5 (.slice (some ⟨w.heap.size, 0, none⟩) n n) n (rowN (List.replicate n zeroN)) ∧ Below w.heap.size w w1 := by
  obtain ⟨i0, hi, hz0, hz1, hz2⟩ := info_parts info_nd
  obtain ⟨w1, h1, h2, h3⟩ := run_make_full (P := Tryd.prog) (w := w) w.heap.size 30 35 i0 _ 5 Tryd.underlying30 hi hz0 hz1 .i64 .i64 n (by rw [hz2]; omega) (by unfold maxLen; omega) (Nat.le_refl _)
  rw [made_nds n] at h2
  exact ⟨w1, h1, h2, (Below.refl _ _).grown h3 (Nat.le_refl _) (by simp)⟩
end Go.Proofs.YtfmobnlnedljeaaDoor.Nodes

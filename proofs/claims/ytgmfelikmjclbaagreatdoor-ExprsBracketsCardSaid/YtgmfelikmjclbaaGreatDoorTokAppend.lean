/-
  append of a slice of tokens to a row of tokens of the call's own, whatever slice it is: one law, for a walk and for a region that draws its order.
-/
import Derived.Test.YtgmfelikmjclbaaGreatDoorTokRows
import Derived.Deep.AppendSrc
import Derived.Outline
namespace Go.Proofs.YtgmfelikmjclbaaGreatDoor
open Go.ChangeShapes Go.WideShapes Go.ChangeAt Go.RowKit

theorem tok_info : ∃ i0, Tryz.prog.info? 28 = some i0 ∧ i0.zero = some (.agg #[.int .u8 0, .string { data := #[] }, .int .i64 0]) ∧ i0.size = 3 ∧ i0.bytes = 32 := by
  obtain ⟨i0, hi, hz0, hz1, hz2⟩ := info_parts info_tok
  exact ⟨i0, hi, hz0, hz1, hz2⟩
theorem rowCells_join (a b : List Tok) : rowCells (a ++ b) = rowCells a ++ rowCells b := by simp [rowCells, List.flatMap_append]
theorem rowCells_one (l : List Tok) : ∀ u ∈ rowCells l, u.oneCell' = true := by
  intro u hu
  unfold rowCells at hu
  rw [List.mem_flatMap] at hu
  obtain ⟨x, _, hx⟩ := hu
  simp [tokCells] at hx
  rcases hx with rfl | rfl | rfl <;> rfl
theorem toks_cells {w : World} {b o : Nat} {l : List Tok} (h : TokAt w b o l) : ∀ (j : Nat) (u : Value), (rowCells l)[j]? = some u → w.cell? ((⟨b, o, none⟩ : Addr).add j) = some u := by
  intro j u hu
  have hj : j < l.length * 3 := by
    have := (List.getElem?_eq_some_iff.1 hu).1
    rwa [rowCells_len] at this
  have hi : j / 3 < l.length := by omega
  obtain ⟨r0, r1, r2⟩ := rowCells_at l (j / 3) _ (List.getElem?_eq_getElem hi)
  obtain ⟨c0, c1, c2⟩ := h (j / 3) _ (List.getElem?_eq_getElem hi)
  rw [Addr.add_mid]
  have hm : j % 3 = 0 ∨ j % 3 = 1 ∨ j % 3 = 2 := by omega
  rcases hm with hm | hm | hm
  · rw [show j = j / 3 * 3 by omega, r0] at hu
    rw [show o + j = o + j / 3 * 3 by omega, c0, ← hu]
  · rw [show j = j / 3 * 3 + 1 by omega, r1] at hu
    rw [show o + j = o + j / 3 * 3 + 1 by omega, c1, ← hu]
  · rw [show j = j / 3 * 3 + 2 by omega, r2] at hu
    rw [show o + j = o + j / 3 * 3 + 2 by omega, c2, ← hu]
/-- Nothing is appended. -/
theorem append_none (w : World) (ty : TypeId) {base n : Nat} {v : Value} {xs : List Value} (h : w.ownsRow base 28 3 v n xs) (c : Nat) :
    (Builtin.append_ #[23, 23] ty #[v, .slice none 0 c]).run Tryz.prog w = .ok v w := by
  obtain ⟨i0, hi, hz0, hz1, hz2⟩ := tok_info
  rcases h.2 with ⟨rfl, rfl⟩ | ⟨g, cap, cur, rfl, _, _, hnc, _⟩
  · simp [Builtin.append_, run_underlying Tryz.underlying23, sizeOf, typeInfo, hi, Builtin.lenOf, Builtin.firstCells]
  · simp [Builtin.append_, run_underlying Tryz.underlying23, sizeOf, typeInfo, hi, Builtin.lenOf, Builtin.firstCells, hnc, storeCells]
theorem wp_append_toks {o : Oper} {a : Act} {w : World} {K : Act → World → Prop} {Q : Exit → Act → World → Prop} (s x : Operand) (ho : o.op = .call { callee := .builtin .append, args := #[s, x], argTypes := #[23, 23] })
    (base : Nat) (l m : List Tok) (v u : Value) (hs : a.eval s = v) (hx : a.eval x = u) (hown : w.ownsRow base 28 3 v l.length (rowCells l)) (hu : Reads w u m) (hlen : l.length + m.length ≤ 1000000) (hbase : base ≤ w.heap.size)
    (h : ∀ v' w', w'.ownsRow base 28 3 v' (l ++ m).length (rowCells (l ++ m)) → w.grownBy w' v.ownBlock → K (a.put o.dst v') w') : o.wp Tryz.prog a w K Q := by
  obtain ⟨i0, hi, hz0, hz1, hz2⟩ := tok_info
  have law : ∀ (b off c : Nat), u = .slice (some ⟨b, off, none⟩) m.length c → TokAt w b off m → o.wp Tryz.prog a w K Q := fun b off c hu ht => by
    refine wp_append_own w s x _ ho base 28 i0 (.agg #[.int .u8 0, .string { data := #[] }, .int .i64 0]) 3 32 Tryz.underlying23 hi hz0 hz1 hz2 rfl (by decide) v l.length (rowCells l) hs hown ⟨b, off, none⟩ m.length c (rowCells m) (by rw [hx, hu]) (rowCells_len m) (toks_cells ht) (rowCells_one m) (by unfold maxLen; omega) (by omega) hbase fun v' w' h1 h2 _ => h v' w' ?_ h2
    rw [rowCells_join, List.length_append]
    exact h1
  rcases hu with ⟨rfl, ad, c, rfl⟩ | ⟨b, off, c, rfl, _, ht⟩
  · have hn := append_none w o.type hown c
    cases ad with
    | none =>
      unfold Oper.wp execOp
      simp only [ho, resolve, invoke, builtin, Sem.run_bind, Sem.run_pure, Result.andThen_ok, List.map_toArray, List.map_cons, List.map_nil, hs, hx, hn]
      refine h v w ?_ ⟨rfl, rfl, rfl, Nat.le_refl _, fun _ _ _ => rfl⟩
      rw [List.append_nil]
      exact hown
    | some ad =>
      refine wp_append_own w s x _ ho base 28 i0 (.agg #[.int .u8 0, .string { data := #[] }, .int .i64 0]) 3 32 Tryz.underlying23 hi hz0 hz1 hz2 rfl (by decide) v l.length (rowCells l) hs hown ad 0 c [] (by rw [hx]) rfl (fun j u hj => by simp at hj) (fun u hu => by cases hu) (by unfold maxLen; simp at hlen; omega) (by simp at hlen; omega) hbase fun v' w' h1 h2 _ => h v' w' ?_ h2
      rw [List.append_nil] at h1 ⊢
      exact h1
  · exact law b off c rfl ht
theorem wpList_append_toks {ops : Array Oper} {rest : List Oper} {o : Oper} {a : Act} {w : World} {Q : Exit → Act → World → Prop} (hgd : o.guard = none) (s x : Operand) (ho : o.op = .call { callee := .builtin .append, args := #[s, x], argTypes := #[23, 23] })
    (base : Nat) (l m : List Tok) (v u : Value) (hs : a.eval s = v) (hx : a.eval x = u) (hown : w.ownsRow base 28 3 v l.length (rowCells l)) (hu : Reads w u m) (hlen : l.length + m.length ≤ 1000000) (hbase : base ≤ w.heap.size)
    (h : ∀ v' w', w'.ownsRow base 28 3 v' (l ++ m).length (rowCells (l ++ m)) → w.grownBy w' v.ownBlock → wpList Tryz.prog ops Q rest (a.put o.dst v') w') : wpList Tryz.prog ops Q (o :: rest) a w :=
  wpList_plain hgd fun _ hK => wp_append_toks s x ho base l m v u hs hx hown hu hlen hbase fun v' w' h2 h3 => hK _ _ (h v' w' h2 h3)
theorem step_append_toks {ops : Array Oper} {o : Oper} {a : Act} {w : World} {K : Act → World → Prop} {Q : Exit → Act → World → Prop} {E : Prop} (hw : Region.wanted o (yielded ops a.tmps) = true) (s x : Operand) (ho : o.op = .call { callee := .builtin .append, args := #[s, x], argTypes := #[23, 23] })
    (base : Nat) (l m : List Tok) (v u : Value) (hs : a.eval s = v) (hx : a.eval x = u) (hown : w.ownsRow base 28 3 v l.length (rowCells l)) (hu : Reads w u m) (hlen : l.length + m.length ≤ 1000000) (hbase : base ≤ w.heap.size)
    (h : ∀ v' w', w'.ownsRow base 28 3 v' (l ++ m).length (rowCells (l ++ m)) → w.grownBy w' v.ownBlock → K (a.put o.dst v') w') :
    if Region.wanted o (yielded ops a.tmps) = true then Oper.wp Tryz.prog o a w K Q else E := by
  rw [if_pos hw]
  exact wp_append_toks s x ho base l m v u hs hx hown hu hlen hbase h
end Go.Proofs.YtgmfelikmjclbaaGreatDoor

/-
  Arguments opened: lists of numbers, windows, queries, as the walks of layer 8's statements read them.
-/
import Derived.Test.YtfmobnlnedljeaaDoorNodeOpen
import Derived.Test.YtfmobnlnedljeaaDoorClauseReads
namespace Go.Proofs.YtfmobnlnedljeaaDoor.Nodes
open Go.ChangeShapes Go.WideShapes Go.ChangeAt Go.RowKit Go.Deep

section
variable {H : Type} {enc : TypeId × Value → H} {w : World} {base n : Nat} {sp : Nat → Bool} {held : Bool} {cs : List Value} {x : DataW H × List MemPlace}
set_option maxRecDepth 100000 in
/-- A cell that reads as a list of nodes. -/
theorem open_ncell (h : DataW.trod enc Tryd.prog w base sp held n 30 cs = some x) : ∃ v l, cs = [v] ∧ ReadsN w v l ∧ l.length ≤ 9223372036854775807 := by
  rcases open_slice Tryd.underlying30 h with ⟨rfl, _⟩ | ⟨a, len, cap, m, k, D, Pl, rfl, hb, hlc, hcm, hm, _, hi⟩
  · exact ⟨_, [], rfl, .inl ⟨rfl, _, _, rfl⟩, Nat.zero_le _⟩
  · refine ⟨.slice (some a) len cap, ?_⟩
    have hlm : len ≤ m := by rw [hm]; split <;> omega
    have hcells : ∀ i, i < len → ∃ t : Nd, w.cell? ((a.add (i * 5)).add 0) = some (.int .u8 t.kind) ∧ w.cell? ((a.add (i * 5)).add 1) = some (.int .i64 t.n) ∧ w.cell? ((a.add (i * 5)).add 2) = some (.int .i64 t.a) ∧ w.cell? ((a.add (i * 5)).add 3) = some (.int .i64 t.b) ∧ w.cell? ((a.add (i * 5)).add 4) = some (.int .i64 t.at_) := by
      intro i hil
      obtain ⟨cs', hc, ht⟩ := hi i (by omega)
      rw [cNd] at hc
      obtain ⟨_, hlen, hat⟩ := World.cells?_some hc
      obtain ⟨t, t0, t1, t2, t3, t4, _⟩ := open_nd ht
      exact ⟨t, (hat 0 (by omega)).trans t0, (hat 1 (by omega)).trans t1, (hat 2 (by omega)).trans t2, (hat 3 (by omega)).trans t3, (hat 4 (by omega)).trans t4⟩
    rcases Nat.eq_zero_or_pos len with rfl | hpos
    · exact ⟨[], rfl, .inl ⟨rfl, _, _, rfl⟩, Nat.zero_le _⟩
    · have hsp : a.spot = none := by
        obtain ⟨t, t0, _⟩ := hcells 0 hpos
        have := spot_none t0
        simpa [Addr.add] using this
      have hall : ∀ i : Fin len, ∃ t : Nd, NdAt w a.block (a.off + i.val * 5) t := by
        intro i
        obtain ⟨t, t0, t1, t2, t3, t4⟩ := hcells i.val i.isLt
        rw [add_at a hsp, add_at _ rfl] at t0 t1 t2 t3 t4
        exact ⟨t, t0, t1, t2, t3, t4⟩
      obtain ⟨f, hfx⟩ := Classical.axiomOfChoice hall
      refine ⟨List.ofFn f, rfl, .inr ⟨a.block, a.off, cap - len, ?_, ?_, ?_⟩, ?_⟩
      · have ha : a = ⟨a.block, a.off, none⟩ := by cases a; simp at hsp; subst hsp; rfl
        rw [List.length_ofFn, ← ha, Nat.add_sub_cancel' hlc]
      · have := (hfx ⟨0, hpos⟩).1
        exact block_of_cell (a := ⟨a.block, a.off + 0 * 5, none⟩) this
      · intro i t ht
        rw [List.getElem?_ofFn] at ht
        split at ht
        · rename_i hil
          simp at ht
          subst ht
          exact hfx ⟨i, hil⟩
        · cases ht
      · rw [List.length_ofFn]
        have : maxLen = 9223372036854775807 := rfl
        omega
set_option maxRecDepth 100000 in
/-- A cell that reads as a list of numbers. -/
theorem open_icell (h : DataW.trod enc Tryd.prog w base sp held n 29 cs = some x) : ∃ v l, cs = [v] ∧ ReadsI w v l ∧ l.length ≤ 9223372036854775807 := by
  rcases open_slice Tryd.underlying29 h with ⟨rfl, _⟩ | ⟨a, len, cap, m, k, D, Pl, rfl, hb, hlc, hcm, hm, _, hi⟩
  · exact ⟨_, [], rfl, .inl ⟨rfl, _, _, rfl⟩, Nat.zero_le _⟩
  · refine ⟨.slice (some a) len cap, ?_⟩
    have hlm : len ≤ m := by rw [hm]; split <;> omega
    have hcells : ∀ i, i < len → ∃ t : Int, w.cell? ((a.add (i * 1)).add 0) = some (.int .i64 t) := by
      intro i hil
      obtain ⟨cs', hc, ht⟩ := hi i (by omega)
      rw [cInt] at hc
      obtain ⟨_, hlen, hat⟩ := World.cells?_some hc
      obtain ⟨t, hcs, _⟩ := DataW.trod_int Tryd.underlying3 ht
      subst hcs
      exact ⟨t, hat 0 (by omega)⟩
    rcases Nat.eq_zero_or_pos len with rfl | hpos
    · exact ⟨[], rfl, .inl ⟨rfl, _, _, rfl⟩, Nat.zero_le _⟩
    · have hsp : a.spot = none := by
        obtain ⟨t, t0⟩ := hcells 0 hpos
        have := spot_none t0
        simpa [Addr.add] using this
      have hall : ∀ i : Fin len, ∃ t : Int, w.cell? ⟨a.block, a.off + i.val, none⟩ = some (.int .i64 t) := by
        intro i
        obtain ⟨t, t0⟩ := hcells i.val i.isLt
        rw [add_at a hsp, add_at _ rfl, Nat.mul_one] at t0
        exact ⟨t, t0⟩
      obtain ⟨f, hfx⟩ := Classical.axiomOfChoice hall
      refine ⟨List.ofFn f, rfl, .inr ⟨a.block, a.off, cap - len, ?_, ?_, ?_⟩, ?_⟩
      · have ha : a = ⟨a.block, a.off, none⟩ := by cases a; simp at hsp; subst hsp; rfl
        rw [List.length_ofFn, ← ha, Nat.add_sub_cancel' hlc]
      · exact block_of_cell (a := ⟨a.block, a.off + 0, none⟩) (hfx ⟨0, hpos⟩)
      · intro i t ht
        rw [List.getElem?_ofFn] at ht
        split at ht
        · rename_i hil
          simp at ht
          subst ht
          exact hfx ⟨i, hil⟩
        · cases ht
      · rw [List.length_ofFn]
        have : maxLen = 9223372036854775807 := rfl
        omega
theorem cell1 {L : List Value} {o : Nat} {v : Value} (h : (L.drop o).take 1 = [v]) : L[o]? = some v := by
  have := congrArg (·[0]?) h
  simpa [List.getElem?_take, List.getElem?_drop] using this
theorem cWin : Tryd.prog.cellsOf 23 = 3 := by kernel_rfl
theorem cQy : Tryd.prog.cellsOf 32 = 10 := by kernel_rfl
theorem cSlN : Tryd.prog.cellsOf 30 = 1 := by kernel_rfl
theorem cSlI : Tryd.prog.cellsOf 29 = 1 := by kernel_rfl
theorem cBool8 : Tryd.prog.cellsOf 4 = 1 := by kernel_rfl
/-- Three cells that read as a window hold one. -/
theorem open_win (h : DataW.trod enc Tryd.prog w base sp held n 23 cs = some x) : ∃ t : Wn, cs[0]? = some (.int .u8 t.kind) ∧ cs[1]? = some (.int .i64 t.size) ∧ cs[2]? = some (.int .i64 t.every) := by
  obtain ⟨ys, m, _, _, hl, hyl, hf⟩ := DataW.trod_struct Tryd.underlying23 h
  have h0 : DataW.trod enc Tryd.prog w base sp held m 5 ((cs.drop 0).take (Tryd.prog.cellsOf 5)) = ys[0]? := hf 0 _ rfl
  have h1 : DataW.trod enc Tryd.prog w base sp held m 2 ((cs.drop 1).take (Tryd.prog.cellsOf 2)) = ys[1]? := hf 1 _ rfl
  have h2 : DataW.trod enc Tryd.prog w base sp held m 2 ((cs.drop 2).take (Tryd.prog.cellsOf 2)) = ys[2]? := hf 2 _ rfl
  have hlen : ys.length = 3 := hyl
  rw [List.getElem?_eq_getElem (by omega)] at h0 h1 h2
  rw [cU8] at h0
  rw [cI64] at h1 h2
  obtain ⟨z0, e0, _⟩ := DataW.trod_int Tryd.underlying5 h0
  obtain ⟨z1, e1, _⟩ := DataW.trod_int Tryd.underlying2 h1
  obtain ⟨z2, e2, _⟩ := DataW.trod_int Tryd.underlying2 h2
  exact ⟨⟨z0, z1, z2⟩, cell1 e0, cell1 e1, cell1 e2⟩
/-- Ten cells that read as a query hold one. -/
theorem open_qy (h : DataW.trod enc Tryd.prog w base sp held n 32 cs = some x) : ∃ (s : Sl) (q : Qy), ReadsQ w s q ∧ ∀ i : Nat, i < 10 → cs[i]? = (qyRow s q)[i]? := by
  obtain ⟨ys, m, _, _, hl, hyl, hf⟩ := DataW.trod_struct Tryd.underlying32 h
  have h0 : DataW.trod enc Tryd.prog w base sp held m 5 ((cs.drop 0).take (Tryd.prog.cellsOf 5)) = ys[0]? := hf 0 _ rfl
  have h1 : DataW.trod enc Tryd.prog w base sp held m 30 ((cs.drop 1).take (Tryd.prog.cellsOf 30)) = ys[1]? := hf 1 _ rfl
  have h2 : DataW.trod enc Tryd.prog w base sp held m 29 ((cs.drop 2).take (Tryd.prog.cellsOf 29)) = ys[2]? := hf 2 _ rfl
  have h3 : DataW.trod enc Tryd.prog w base sp held m 4 ((cs.drop 3).take (Tryd.prog.cellsOf 4)) = ys[3]? := hf 3 _ rfl
  have h4 : DataW.trod enc Tryd.prog w base sp held m 30 ((cs.drop 4).take (Tryd.prog.cellsOf 30)) = ys[4]? := hf 4 _ rfl
  have h5 : DataW.trod enc Tryd.prog w base sp held m 23 ((cs.drop 5).take (Tryd.prog.cellsOf 23)) = ys[5]? := hf 5 _ rfl
  have h6 : DataW.trod enc Tryd.prog w base sp held m 4 ((cs.drop 8).take (Tryd.prog.cellsOf 4)) = ys[6]? := hf 6 _ rfl
  have h7 : DataW.trod enc Tryd.prog w base sp held m 5 ((cs.drop 9).take (Tryd.prog.cellsOf 5)) = ys[7]? := hf 7 _ rfl
  have hlen : ys.length = 8 := hyl
  rw [List.getElem?_eq_getElem (by omega)] at h0 h1 h2 h3 h4 h5 h6 h7
  rw [cU8] at h0 h7
  rw [cSlN] at h1 h4
  rw [cSlI] at h2
  rw [cBool8] at h3 h6
  rw [cWin] at h5
  obtain ⟨z0, e0, _⟩ := DataW.trod_int Tryd.underlying5 h0
  obtain ⟨v1, l1, e1, r1, _⟩ := open_ncell h1
  obtain ⟨v2, l2, e2, r2, _⟩ := open_icell h2
  obtain ⟨b3, e3, _⟩ := DataW.trod_bool Tryd.underlying4 h3
  obtain ⟨v4, l4, e4, r4, _⟩ := open_ncell h4
  obtain ⟨t, t0, t1, t2⟩ := open_win h5
  obtain ⟨b6, e6, _⟩ := DataW.trod_bool Tryd.underlying4 h6
  obtain ⟨z7, e7, _⟩ := DataW.trod_int Tryd.underlying5 h7
  refine ⟨⟨v1, v2, v4⟩, ⟨z0, l1, l2, b3, l4, t, b6, z7⟩, ⟨r1, r2, r4⟩, ?_⟩
  have w0 : cs[5]? = some (.int .u8 t.kind) := by simpa [List.getElem?_take, List.getElem?_drop] using t0
  have w1 : cs[6]? = some (.int .i64 t.size) := by simpa [List.getElem?_take, List.getElem?_drop] using t1
  have w2 : cs[7]? = some (.int .i64 t.every) := by simpa [List.getElem?_take, List.getElem?_drop] using t2
  intro i hi
  match i, hi with
  | 0, _ => exact (cell1 e0).trans rfl
  | 1, _ => exact (cell1 e1).trans rfl
  | 2, _ => exact (cell1 e2).trans rfl
  | 3, _ => exact (cell1 e3).trans rfl
  | 4, _ => exact (cell1 e4).trans rfl
  | 5, _ => exact w0.trans rfl
  | 6, _ => exact w1.trans rfl
  | 7, _ => exact w2.trans rfl
  | 8, _ => exact (cell1 e6).trans rfl
  | 9, _ => exact (cell1 e7).trans rfl
end
section
variable {H : Type} {enc : TypeId × Value → H} {w : World} {r : Reach} {base base2 : Nat} {sp : Nat → Bool} {held : Bool} {v : Value} {d : DataW H} {p : List MemPlace}
theorem open_nodes8 (h : DataW.Trod enc Tryd.prog w base2 sp held 30 v d p) (hw : Value.okWide Tryd.prog w r base 30 v) : ∃ l, ReadsN w v l ∧ l.length ≤ 9223372036854775807 := by
  obtain ⟨ad, len, cap, rfl⟩ := okWide_slice Tryd.underlying30 hw
  obtain ⟨fuel, hf⟩ := h
  obtain ⟨v', l, e, hr, hn⟩ := open_ncell hf
  have e2 : v' = .slice ad len cap := by simpa [Value.cells] using e.symm
  subst e2
  exact ⟨l, hr, hn⟩
theorem open_ints8 (h : DataW.Trod enc Tryd.prog w base2 sp held 29 v d p) (hw : Value.okWide Tryd.prog w r base 29 v) : ∃ l, ReadsI w v l ∧ l.length ≤ 9223372036854775807 := by
  obtain ⟨ad, len, cap, rfl⟩ := okWide_slice Tryd.underlying29 hw
  obtain ⟨fuel, hf⟩ := h
  obtain ⟨v', l, e, hr, hn⟩ := open_icell hf
  have e2 : v' = .slice ad len cap := by simpa [Value.cells] using e.symm
  subst e2
  exact ⟨l, hr, hn⟩
theorem open_window8 (h : DataW.Trod enc Tryd.prog w base2 sp held 23 v d p) (hw : Value.okWide Tryd.prog w r base 23 v) : ∃ t : Wn, v = winVal t := by
  obtain ⟨cs, rfl, hsz⟩ := okWide_struct Tryd.underlying23 hw
  rw [cWin] at hsz
  obtain ⟨fuel, hf⟩ := h
  obtain ⟨t, t0, t1, t2⟩ := open_win hf
  have hc : ∀ i : Nat, cs[i]? = ((Value.agg cs).cells.toList)[i]? := fun i => by show cs[i]? = cs.toList[i]?; rw [Array.getElem?_toList]
  refine ⟨t, ?_⟩
  unfold winVal
  congr 1
  apply Array.ext_getElem?
  intro i
  match i with
  | 0 => rw [hc, t0]; rfl
  | 1 => rw [hc, t1]; rfl
  | 2 => rw [hc, t2]; rfl
  | i + 3 => rw [Array.getElem?_eq_none (by omega), Array.getElem?_eq_none (by simp)]
theorem open_query8 (h : DataW.Trod enc Tryd.prog w base2 sp held 32 v d p) (hw : Value.okWide Tryd.prog w r base 32 v) : ∃ (s : Sl) (q : Qy), v = qyVal s q ∧ ReadsQ w s q := by
  obtain ⟨cs, rfl, hsz⟩ := okWide_struct Tryd.underlying32 hw
  rw [cQy] at hsz
  obtain ⟨fuel, hf⟩ := h
  obtain ⟨s, q, hr, hall⟩ := open_qy hf
  have hc : ∀ i : Nat, cs[i]? = ((Value.agg cs).cells.toList)[i]? := fun i => by show cs[i]? = cs.toList[i]?; rw [Array.getElem?_toList]
  refine ⟨s, q, ?_, hr⟩
  unfold qyVal
  congr 1
  apply Array.ext_getElem?
  intro i
  by_cases hi : i < 10
  · rw [hc, hall i hi]
  · rw [Array.getElem?_eq_none (by omega), Array.getElem?_eq_none (by show 10 ≤ i; omega)]
end
end Go.Proofs.YtfmobnlnedljeaaDoor.Nodes

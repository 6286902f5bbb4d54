/-
  Arguments opened: a list of nodes, as the walks of the statements read it.
-/
import Derived.Test.YtfmobnlnedljeaaDoorNodeRows
import Derived.ShutString
import Derived.Deep.Slices
import Derived.Deep.Fields
namespace Go.Proofs.YtfmobnlnedljeaaDoor.Nodes
open Go.ChangeShapes Go.WideShapes Go.ChangeAt Go.RowKit Go.Deep

theorem spot_none {w : World} {a : Addr} {v : Value} (h : w.cell? a = some v) : a.spot = none := by
  unfold World.cell? at h
  split at h
  · split at h
    · cases h
    · rename_i hs
      cases hq : a.spot with
      | none => rfl
      | some x => rw [hq] at hs; simp at hs
  · cases h
theorem block_of_cell {w : World} {a : Addr} {v : Value} (h : w.cell? a = some v) : a.block < w.heap.size := by
  rcases Nat.lt_or_ge a.block w.heap.size with h' | h'
  · exact h'
  · unfold World.cell? at h
    rw [Array.getElem?_eq_none h'] at h
    cases h
theorem cNd : Tryd.prog.cellsOf 35 = 5 := by kernel_rfl
theorem cU8 : Tryd.prog.cellsOf 5 = 1 := by kernel_rfl
theorem cI64 : Tryd.prog.cellsOf 2 = 1 := by kernel_rfl
theorem cInt : Tryd.prog.cellsOf 3 = 1 := by kernel_rfl
/-- Five cells that read as a node hold one. -/
theorem open_nd {H : Type} {enc : TypeId × Value → H} {w : World} {base n : Nat} {sp : Nat → Bool} {held : Bool} {cs : List Value} {x : DataW H × List MemPlace} (h : DataW.trod enc Tryd.prog w base sp held n 35 cs = some x) :
    ∃ t : Nd, cs[0]? = some (.int .u8 t.kind) ∧ cs[1]? = some (.int .i64 t.n) ∧ cs[2]? = some (.int .i64 t.a) ∧ cs[3]? = some (.int .i64 t.b) ∧ cs[4]? = some (.int .i64 t.at_) ∧ t.n ≤ 9223372036854775807 := by
  obtain ⟨ys, m, _, _, hl, hyl, hf⟩ := DataW.trod_struct Tryd.underlying35 h
  have h0 : DataW.trod enc Tryd.prog w base sp held m 5 ((cs.drop 0).take (Tryd.prog.cellsOf 5)) = ys[0]? := hf 0 _ rfl
  have h1 : DataW.trod enc Tryd.prog w base sp held m 2 ((cs.drop 1).take (Tryd.prog.cellsOf 2)) = ys[1]? := hf 1 _ rfl
  have h2 : DataW.trod enc Tryd.prog w base sp held m 3 ((cs.drop 2).take (Tryd.prog.cellsOf 3)) = ys[2]? := hf 2 _ rfl
  have h3 : DataW.trod enc Tryd.prog w base sp held m 3 ((cs.drop 3).take (Tryd.prog.cellsOf 3)) = ys[3]? := hf 3 _ rfl
  have h4 : DataW.trod enc Tryd.prog w base sp held m 3 ((cs.drop 4).take (Tryd.prog.cellsOf 3)) = ys[4]? := hf 4 _ rfl
  have hlen : ys.length = 5 := hyl
  rw [List.getElem?_eq_getElem (by omega)] at h0 h1 h2 h3 h4
  rw [cU8] at h0
  rw [cI64] at h1
  rw [cInt] at h2 h3 h4
  obtain ⟨z0, e0, _⟩ := DataW.trod_int Tryd.underlying5 h0
  obtain ⟨z1, e1, _, f1⟩ := DataW.trod_int Tryd.underlying2 h1
  obtain ⟨z2, e2, _⟩ := DataW.trod_int Tryd.underlying3 h2
  obtain ⟨z3, e3, _⟩ := DataW.trod_int Tryd.underlying3 h3
  obtain ⟨z4, e4, _⟩ := DataW.trod_int Tryd.underlying3 h4
  refine ⟨⟨z0, z1, z2, z3, z4⟩, ?_, ?_, ?_, ?_, ?_, (bounds_i64 f1).2⟩
  · have := congrArg (·[0]?) e0
    simpa [List.getElem?_take, List.getElem?_drop] using this
  · have := congrArg (·[0]?) e1
    simpa [List.getElem?_take, List.getElem?_drop] using this
  · have := congrArg (·[0]?) e2
    simpa [List.getElem?_take, List.getElem?_drop] using this
  · have := congrArg (·[0]?) e3
    simpa [List.getElem?_take, List.getElem?_drop] using this
  · have := congrArg (·[0]?) e4
    simpa [List.getElem?_take, List.getElem?_drop] using this
theorem add_at (a : Addr) (hs : a.spot = none) (k : Nat) : a.add k = ⟨a.block, a.off + k, none⟩ := by
  unfold Addr.add
  split
  · rename_i h; subst h; cases a; simp at hs; subst hs; rfl
  · rfl
set_option maxRecDepth 100000 in
/-- A list of nodes. -/
theorem open_wide {H : Type} {enc : TypeId × Value → H} {w : World} {r : Reach} {base base2 : Nat} {sp : Nat → Bool} {held : Bool} {v : Value} {d : DataW H} {p : List MemPlace} (hw : Value.okWide Tryd.prog w r base 30 v) (h : DataW.Trod enc Tryd.prog w base2 sp held 30 v d p) :
    ∃ l, ReadsN w v l ∧ l.length ≤ 9223372036854775807 ∧ ∀ x ∈ l, x.n ≤ 9223372036854775807 := by
  obtain ⟨ad, len, cap, rfl⟩ := okWide_slice Tryd.underlying30 hw
  obtain ⟨fuel, hf⟩ := h
  rcases open_slice Tryd.underlying30 hf with ⟨h0, _⟩ | ⟨a, len', cap', m, n, D, Pl, hcs, hb, hlc, hcm, hm, _, hi⟩
  · have e : ad = none ∧ len = 0 ∧ cap = 0 := by simpa [Value.cells] using h0
    obtain ⟨rfl, rfl, rfl⟩ := e
    exact ⟨[], .inl ⟨rfl, _, _, rfl⟩, Nat.zero_le _, fun x hx => by cases hx⟩
  · have e : ad = some a ∧ len = len' ∧ cap = cap' := by simpa [Value.cells] using hcs
    obtain ⟨rfl, rfl, rfl⟩ := e
    have hlm : len ≤ m := by rw [hm]; split <;> omega
    have hcells : ∀ i, i < len → ∃ t : Nd, w.cell? ((a.add (i * 5)).add 0) = some (.int .u8 t.kind) ∧ w.cell? ((a.add (i * 5)).add 1) = some (.int .i64 t.n) ∧ w.cell? ((a.add (i * 5)).add 2) = some (.int .i64 t.a) ∧ w.cell? ((a.add (i * 5)).add 3) = some (.int .i64 t.b) ∧ w.cell? ((a.add (i * 5)).add 4) = some (.int .i64 t.at_) ∧ t.n ≤ 9223372036854775807 := by
      intro i hil
      obtain ⟨cs', hc, ht⟩ := hi i (by omega)
      rw [cNd] at hc
      obtain ⟨_, hlen, hat⟩ := World.cells?_some hc
      obtain ⟨t, t0, t1, t2, t3, t4, t5⟩ := open_nd ht
      exact ⟨t, (hat 0 (by omega)).trans t0, (hat 1 (by omega)).trans t1, (hat 2 (by omega)).trans t2, (hat 3 (by omega)).trans t3, (hat 4 (by omega)).trans t4, t5⟩
    rcases Nat.eq_zero_or_pos len with rfl | hpos
    · exact ⟨[], .inl ⟨rfl, _, _, rfl⟩, Nat.zero_le _, fun x hx => by cases hx⟩
    · have hsp : a.spot = none := by
        obtain ⟨t, t0, _⟩ := hcells 0 hpos
        have := spot_none t0
        simpa [Addr.add] using this
      have hall : ∀ i : Fin len, ∃ t : Nd, NdAt w a.block (a.off + i.val * 5) t ∧ t.n ≤ 9223372036854775807 := by
        intro i
        obtain ⟨t, t0, t1, t2, t3, t4, t5⟩ := hcells i.val i.isLt
        rw [add_at a hsp, add_at _ rfl] at t0 t1 t2 t3 t4
        exact ⟨t, ⟨t0, t1, t2, t3, t4⟩, t5⟩
      obtain ⟨f, hfx⟩ := Classical.axiomOfChoice hall
      refine ⟨List.ofFn f, .inr ⟨a.block, a.off, cap - len, ?_, ?_, ?_⟩, ?_, ?_⟩
      · have ha : a = ⟨a.block, a.off, none⟩ := by cases a; simp at hsp; subst hsp; rfl
        rw [List.length_ofFn, ← ha, Nat.add_sub_cancel' hlc]
      · have := (hfx ⟨0, hpos⟩).1.1
        exact block_of_cell (a := ⟨a.block, a.off + 0 * 5, none⟩) this
      · intro i t ht
        rw [List.getElem?_ofFn] at ht
        split at ht
        · rename_i hil
          simp at ht
          subst ht
          exact (hfx ⟨i, hil⟩).1
        · cases ht
      · rw [List.length_ofFn]
        have : maxLen = 9223372036854775807 := rfl
        omega
      · intro x hx
        obtain ⟨i, hi, rfl⟩ := List.mem_iff_getElem.1 hx
        rw [List.getElem_ofFn]
        exact (hfx _).2
set_option maxRecDepth 100000 in
theorem open_nds {H : Type} {enc : TypeId × Value → H} {w : World} {r : Reach} {base base2 : Nat} {sp : Nat → Bool} {held : Bool} {v : Value} {d : DataW H} {p : List MemPlace} (hw : Value.okWide Tryd.prog w r base 30 v) (h : DataW.Trod enc Tryd.prog w base2 sp held 30 v d p) :
    ∃ l, ReadsN w v l ∧ l.length ≤ 9223372036854775807 := by
  obtain ⟨l, h1, h2, _⟩ := open_wide hw h
  exact ⟨l, h1, h2⟩
end Go.Proofs.YtfmobnlnedljeaaDoor.Nodes

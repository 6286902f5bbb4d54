/-
  Texts of this seat in one: NodeOpen; ClauseOpen; ParserOpen; ParserDigits; ParserWritten; TokAppend; ParserExactWalk; ParserExactFrom.
-/
import Derived.Test.YtdinaedknlkicaaGreatDoorNodeRows
import Derived.ShutString
import Derived.Deep.Slices
import Derived.Deep.Fields
import Derived.Test.YtdinaedknlkicaaGreatDoorPackB1
import Derived.Test.YtdinaedknlkicaaGreatDoorPackH1
import Derived.Lib.SlBytesRow
import Derived.Lib.ItoaLen
import Derived.Deep.RegionHeld3
import Derived.Outline
import Derived.Deep.CutRange
import Derived.Deep.CutBlock
import Derived.Test.YtdinaedknlkicaaGreatDoorTokRows
import Derived.Deep.AppendSrc
import Derived.Test.YtdinaedknlkicaaGreatDoorqClauseCheck
import Derived.Deep.RegionLaw
/-
  Arguments opened: a list of nodes, as the walks of the statements read it.
-/
namespace Go.Proofs.YtdinaedknlkicaaGreatDoor.Nodes
open Go.ChangeShapes Go.WideShapes Go.ChangeAt Go.RowKit Go.Deep

theorem spot_none {w : World} {a : Addr} {v : Value} (h : w.cell? a = some v) : a.spot = none := by
  unfold World.cell? at h
  split at h
  · split at h
    · cases h
    · rename_i hs
      cases hq : a.spot with
      | none => rfl
      | some x => rw [hq] at hs; simp at hs
  · cases h
theorem block_of_cell {w : World} {a : Addr} {v : Value} (h : w.cell? a = some v) : a.block < w.heap.size := by
  rcases Nat.lt_or_ge a.block w.heap.size with h' | h'
  · exact h'
  · unfold World.cell? at h
    rw [Array.getElem?_eq_none h'] at h
    cases h
theorem cNd : Tryz.prog.cellsOf 43 = 5 := by kernel_rfl
theorem cU8 : Tryz.prog.cellsOf 5 = 1 := by kernel_rfl
theorem cI64 : Tryz.prog.cellsOf 2 = 1 := by kernel_rfl
theorem cInt : Tryz.prog.cellsOf 3 = 1 := by kernel_rfl
/-- Five cells that read as a node hold one. -/
theorem open_nd {H : Type} {enc : TypeId × Value → H} {w : World} {base n : Nat} {sp : Nat → Bool} {held : Bool} {cs : List Value} {x : DataW H × List MemPlace} (h : DataW.trod enc Tryz.prog w base sp held n 43 cs = some x) :
    ∃ t : Nd, cs[0]? = some (.int .u8 t.kind) ∧ cs[1]? = some (.int .i64 t.n) ∧ cs[2]? = some (.int .i64 t.a) ∧ cs[3]? = some (.int .i64 t.b) ∧ cs[4]? = some (.int .i64 t.at_) ∧ t.n ≤ 9223372036854775807 := by
  obtain ⟨ys, m, _, _, hl, hyl, hf⟩ := DataW.trod_struct Tryz.underlying43 h
  have h0 : DataW.trod enc Tryz.prog w base sp held m 5 ((cs.drop 0).take (Tryz.prog.cellsOf 5)) = ys[0]? := hf 0 _ rfl
  have h1 : DataW.trod enc Tryz.prog w base sp held m 2 ((cs.drop 1).take (Tryz.prog.cellsOf 2)) = ys[1]? := hf 1 _ rfl
  have h2 : DataW.trod enc Tryz.prog w base sp held m 3 ((cs.drop 2).take (Tryz.prog.cellsOf 3)) = ys[2]? := hf 2 _ rfl
  have h3 : DataW.trod enc Tryz.prog w base sp held m 3 ((cs.drop 3).take (Tryz.prog.cellsOf 3)) = ys[3]? := hf 3 _ rfl
  have h4 : DataW.trod enc Tryz.prog w base sp held m 3 ((cs.drop 4).take (Tryz.prog.cellsOf 3)) = ys[4]? := hf 4 _ rfl
  have hlen : ys.length = 5 := hyl
  rw [List.getElem?_eq_getElem (by omega)] at h0 h1 h2 h3 h4
  rw [cU8] at h0
  rw [cI64] at h1
  rw [cInt] at h2 h3 h4
  obtain ⟨z0, e0, _⟩ := DataW.trod_int Tryz.underlying5 h0
  obtain ⟨z1, e1, _, f1⟩ := DataW.trod_int Tryz.underlying2 h1
  obtain ⟨z2, e2, _⟩ := DataW.trod_int Tryz.underlying3 h2
  obtain ⟨z3, e3, _⟩ := DataW.trod_int Tryz.underlying3 h3
  obtain ⟨z4, e4, _⟩ := DataW.trod_int Tryz.underlying3 h4
  refine ⟨⟨z0, z1, z2, z3, z4⟩, ?_, ?_, ?_, ?_, ?_, (bounds_i64 f1).2⟩
  · have := congrArg (·[0]?) e0
    simpa [List.getElem?_take, List.getElem?_drop] using this
  · have := congrArg (·[0]?) e1
    simpa [List.getElem?_take, List.getElem?_drop] using this
  · have := congrArg (·[0]?) e2
    simpa [List.getElem?_take, List.getElem?_drop] using this
  · have := congrArg (·[0]?) e3
    simpa [List.getElem?_take, List.getElem?_drop] using this
  · have := congrArg (·[0]?) e4
    simpa [List.getElem?_take, List.getElem?_drop] using this
theorem add_at (a : Addr) (hs : a.spot = none) (k : Nat) : a.add k = ⟨a.block, a.off + k, none⟩ := by
  unfold Addr.add
  split
  · rename_i h; subst h; cases a; simp at hs; subst hs; rfl
  · rfl
set_option maxRecDepth 100000 in
/-- A list of nodes. -/
theorem open_wide {H : Type} {enc : TypeId × Value → H} {w : World} {r : Reach} {base base2 : Nat} {sp : Nat → Bool} {held : Bool} {v : Value} {d : DataW H} {p : List MemPlace} (hw : Value.okWide Tryz.prog w r base 23 v) (h : DataW.Trod enc Tryz.prog w base2 sp held 23 v d p) :
    ∃ l, ReadsN w v l ∧ l.length ≤ 9223372036854775807 ∧ ∀ x ∈ l, x.n ≤ 9223372036854775807 := by
  obtain ⟨ad, len, cap, rfl⟩ := okWide_slice Tryz.underlying23 hw
  obtain ⟨fuel, hf⟩ := h
  rcases open_slice Tryz.underlying23 hf with ⟨h0, _⟩ | ⟨a, len', cap', m, n, D, Pl, hcs, hb, hlc, hcm, hm, _, hi⟩
  · have e : ad = none ∧ len = 0 ∧ cap = 0 := by simpa [Value.cells] using h0
    obtain ⟨rfl, rfl, rfl⟩ := e
    exact ⟨[], .inl ⟨rfl, _, _, rfl⟩, Nat.zero_le _, fun x hx => by cases hx⟩
  · have e : ad = some a ∧ len = len' ∧ cap = cap' := by simpa [Value.cells] using hcs
    obtain ⟨rfl, rfl, rfl⟩ := e
    have hlm : len ≤ m := by rw [hm]; split <;> omega
    have hcells : ∀ i, i < len → ∃ t : Nd, w.cell? ((a.add (i * 5)).add 0) = some (.int .u8 t.kind) ∧ w.cell? ((a.add (i * 5)).add 1) = some (.int .i64 t.n) ∧ w.cell? ((a.add (i * 5)).add 2) = some (.int .i64 t.a) ∧ w.cell? ((a.add (i * 5)).add 3) = some (.int .i64 t.b) ∧ w.cell? ((a.add (i * 5)).add 4) = some (.int .i64 t.at_) ∧ t.n ≤ 9223372036854775807 := by
      intro i hil
      obtain ⟨cs', hc, ht⟩ := hi i (by omega)
      rw [cNd] at hc
      obtain ⟨_, hlen, hat⟩ := World.cells?_some hc
      obtain ⟨t, t0, t1, t2, t3, t4, t5⟩ := open_nd ht
      exact ⟨t, (hat 0 (by omega)).trans t0, (hat 1 (by omega)).trans t1, (hat 2 (by omega)).trans t2, (hat 3 (by omega)).trans t3, (hat 4 (by omega)).trans t4, t5⟩
    rcases Nat.eq_zero_or_pos len with rfl | hpos
    · exact ⟨[], .inl ⟨rfl, _, _, rfl⟩, Nat.zero_le _, fun x hx => by cases hx⟩
    · have hsp : a.spot = none := by
        obtain ⟨t, t0, _⟩ := hcells 0 hpos
        have := spot_none t0
        simpa [Addr.add] using this
      have hall : ∀ i : Fin len, ∃ t : Nd, NdAt w a.block (a.off + i.val * 5) t ∧ t.n ≤ 9223372036854775807 := by
        intro i
        obtain ⟨t, t0, t1, t2, t3, t4, t5⟩ := hcells i.val i.isLt
        rw [add_at a hsp, add_at _ rfl] at t0 t1 t2 t3 t4
        exact ⟨t, ⟨t0, t1, t2, t3, t4⟩, t5⟩
      obtain ⟨f, hfx⟩ := Classical.axiomOfChoice hall
      refine ⟨List.ofFn f, .inr ⟨a.block, a.off, cap - len, ?_, ?_, ?_⟩, ?_, ?_⟩
      · have ha : a = ⟨a.block, a.off, none⟩ := by cases a; simp at hsp; subst hsp; rfl
        rw [List.length_ofFn, ← ha, Nat.add_sub_cancel' hlc]
      · have := (hfx ⟨0, hpos⟩).1.1
        exact block_of_cell (a := ⟨a.block, a.off + 0 * 5, none⟩) this
      · intro i t ht
        rw [List.getElem?_ofFn] at ht
        split at ht
        · rename_i hil
          simp at ht
          subst ht
          exact (hfx ⟨i, hil⟩).1
        · cases ht
      · rw [List.length_ofFn]
        have : maxLen = 9223372036854775807 := rfl
        omega
      · intro x hx
        obtain ⟨i, hi, rfl⟩ := List.mem_iff_getElem.1 hx
        rw [List.getElem_ofFn]
        exact (hfx _).2
set_option maxRecDepth 100000 in
theorem open_nds {H : Type} {enc : TypeId × Value → H} {w : World} {r : Reach} {base base2 : Nat} {sp : Nat → Bool} {held : Bool} {v : Value} {d : DataW H} {p : List MemPlace} (hw : Value.okWide Tryz.prog w r base 23 v) (h : DataW.Trod enc Tryz.prog w base2 sp held 23 v d p) :
    ∃ l, ReadsN w v l ∧ l.length ≤ 9223372036854775807 := by
  obtain ⟨l, h1, h2, _⟩ := open_wide hw h
  exact ⟨l, h1, h2⟩
end Go.Proofs.YtdinaedknlkicaaGreatDoor.Nodes
/-
  Arguments opened: lists of numbers, windows, queries, as the walks of layer 8's statements read them.
-/
namespace Go.Proofs.YtdinaedknlkicaaGreatDoor.Nodes
open Go.ChangeShapes Go.WideShapes Go.ChangeAt Go.RowKit Go.Deep
set_option maxRecDepth 100000

section
variable {H : Type} {enc : TypeId × Value → H} {w : World} {base n : Nat} {sp : Nat → Bool} {held : Bool} {cs : List Value} {x : DataW H × List MemPlace}
set_option maxRecDepth 100000 in
/-- A cell that reads as a list of nodes. -/
theorem open_ncell (h : DataW.trod enc Tryz.prog w base sp held n 23 cs = some x) : ∃ v l, cs = [v] ∧ ReadsN w v l ∧ l.length ≤ 9223372036854775807 := by
  rcases open_slice Tryz.underlying23 h with ⟨rfl, _⟩ | ⟨a, len, cap, m, k, D, Pl, rfl, hb, hlc, hcm, hm, _, hi⟩
  · exact ⟨_, [], rfl, .inl ⟨rfl, _, _, rfl⟩, Nat.zero_le _⟩
  · refine ⟨.slice (some a) len cap, ?_⟩
    have hlm : len ≤ m := by rw [hm]; split <;> omega
    have hcells : ∀ i, i < len → ∃ t : Nd, w.cell? ((a.add (i * 5)).add 0) = some (.int .u8 t.kind) ∧ w.cell? ((a.add (i * 5)).add 1) = some (.int .i64 t.n) ∧ w.cell? ((a.add (i * 5)).add 2) = some (.int .i64 t.a) ∧ w.cell? ((a.add (i * 5)).add 3) = some (.int .i64 t.b) ∧ w.cell? ((a.add (i * 5)).add 4) = some (.int .i64 t.at_) := by
      intro i hil
      obtain ⟨cs', hc, ht⟩ := hi i (by omega)
      rw [cNd] at hc
      obtain ⟨_, hlen, hat⟩ := World.cells?_some hc
      obtain ⟨t, t0, t1, t2, t3, t4, _⟩ := open_nd ht
      exact ⟨t, (hat 0 (by omega)).trans t0, (hat 1 (by omega)).trans t1, (hat 2 (by omega)).trans t2, (hat 3 (by omega)).trans t3, (hat 4 (by omega)).trans t4⟩
    rcases Nat.eq_zero_or_pos len with rfl | hpos
    · exact ⟨[], rfl, .inl ⟨rfl, _, _, rfl⟩, Nat.zero_le _⟩
    · have hsp : a.spot = none := by
        obtain ⟨t, t0, _⟩ := hcells 0 hpos
        have := spot_none t0
        simpa [Addr.add] using this
      have hall : ∀ i : Fin len, ∃ t : Nd, NdAt w a.block (a.off + i.val * 5) t := by
        intro i
        obtain ⟨t, t0, t1, t2, t3, t4⟩ := hcells i.val i.isLt
        rw [add_at a hsp, add_at _ rfl] at t0 t1 t2 t3 t4
        exact ⟨t, t0, t1, t2, t3, t4⟩
      obtain ⟨f, hfx⟩ := Classical.axiomOfChoice hall
      refine ⟨List.ofFn f, rfl, .inr ⟨a.block, a.off, cap - len, ?_, ?_, ?_⟩, ?_⟩
      · have ha : a = ⟨a.block, a.off, none⟩ := by cases a; simp at hsp; subst hsp; rfl
        rw [List.length_ofFn, ← ha, Nat.add_sub_cancel' hlc]
      · have := (hfx ⟨0, hpos⟩).1
        exact block_of_cell (a := ⟨a.block, a.off + 0 * 5, none⟩) this
      · intro i t ht
        rw [List.getElem?_ofFn] at ht
        split at ht
        · rename_i hil
          simp at ht
          subst ht
          exact hfx ⟨i, hil⟩
        · cases ht
      · rw [List.length_ofFn]
        have : maxLen = 9223372036854775807 := rfl
        omega
set_option maxRecDepth 100000 in
/-- A cell that reads as a list of numbers. -/
theorem open_icell (h : DataW.trod enc Tryz.prog w base sp held n 24 cs = some x) : ∃ v l, cs = [v] ∧ ReadsI w v l ∧ l.length ≤ 9223372036854775807 := by
  rcases open_slice Tryz.underlying24 h with ⟨rfl, _⟩ | ⟨a, len, cap, m, k, D, Pl, rfl, hb, hlc, hcm, hm, _, hi⟩
  · exact ⟨_, [], rfl, .inl ⟨rfl, _, _, rfl⟩, Nat.zero_le _⟩
  · refine ⟨.slice (some a) len cap, ?_⟩
    have hlm : len ≤ m := by rw [hm]; split <;> omega
    have hcells : ∀ i, i < len → ∃ t : Int, w.cell? ((a.add (i * 1)).add 0) = some (.int .i64 t) := by
      intro i hil
      obtain ⟨cs', hc, ht⟩ := hi i (by omega)
      rw [cInt] at hc
      obtain ⟨_, hlen, hat⟩ := World.cells?_some hc
      obtain ⟨t, hcs, _⟩ := DataW.trod_int Tryz.underlying3 ht
      subst hcs
      exact ⟨t, hat 0 (by omega)⟩
    rcases Nat.eq_zero_or_pos len with rfl | hpos
    · exact ⟨[], rfl, .inl ⟨rfl, _, _, rfl⟩, Nat.zero_le _⟩
    · have hsp : a.spot = none := by
        obtain ⟨t, t0⟩ := hcells 0 hpos
        have := spot_none t0
        simpa [Addr.add] using this
      have hall : ∀ i : Fin len, ∃ t : Int, w.cell? ⟨a.block, a.off + i.val, none⟩ = some (.int .i64 t) := by
        intro i
        obtain ⟨t, t0⟩ := hcells i.val i.isLt
        rw [add_at a hsp, add_at _ rfl, Nat.mul_one] at t0
        exact ⟨t, t0⟩
      obtain ⟨f, hfx⟩ := Classical.axiomOfChoice hall
      refine ⟨List.ofFn f, rfl, .inr ⟨a.block, a.off, cap - len, ?_, ?_, ?_⟩, ?_⟩
      · have ha : a = ⟨a.block, a.off, none⟩ := by cases a; simp at hsp; subst hsp; rfl
        rw [List.length_ofFn, ← ha, Nat.add_sub_cancel' hlc]
      · exact block_of_cell (a := ⟨a.block, a.off + 0, none⟩) (hfx ⟨0, hpos⟩)
      · intro i t ht
        rw [List.getElem?_ofFn] at ht
        split at ht
        · rename_i hil
          simp at ht
          subst ht
          exact hfx ⟨i, hil⟩
        · cases ht
      · rw [List.length_ofFn]
        have : maxLen = 9223372036854775807 := rfl
        omega
theorem cell1 {L : List Value} {o : Nat} {v : Value} (h : (L.drop o).take 1 = [v]) : L[o]? = some v := by
  have := congrArg (·[0]?) h
  simpa [List.getElem?_take, List.getElem?_drop] using this
theorem cWin : Tryz.prog.cellsOf 26 = 3 := by kernel_rfl
theorem cQy : Tryz.prog.cellsOf 28 = 10 := by kernel_rfl
theorem cSlN : Tryz.prog.cellsOf 23 = 1 := by kernel_rfl
theorem cSlI : Tryz.prog.cellsOf 24 = 1 := by kernel_rfl
theorem cBool8 : Tryz.prog.cellsOf 4 = 1 := by kernel_rfl
/-- Three cells that read as a window hold one. -/
theorem open_win (h : DataW.trod enc Tryz.prog w base sp held n 26 cs = some x) : ∃ t : Wn, cs[0]? = some (.int .u8 t.kind) ∧ cs[1]? = some (.int .i64 t.size) ∧ cs[2]? = some (.int .i64 t.every) := by
  obtain ⟨ys, m, _, _, hl, hyl, hf⟩ := DataW.trod_struct Tryz.underlying26 h
  have h0 : DataW.trod enc Tryz.prog w base sp held m 5 ((cs.drop 0).take (Tryz.prog.cellsOf 5)) = ys[0]? := hf 0 _ rfl
  have h1 : DataW.trod enc Tryz.prog w base sp held m 2 ((cs.drop 1).take (Tryz.prog.cellsOf 2)) = ys[1]? := hf 1 _ rfl
  have h2 : DataW.trod enc Tryz.prog w base sp held m 2 ((cs.drop 2).take (Tryz.prog.cellsOf 2)) = ys[2]? := hf 2 _ rfl
  have hlen : ys.length = 3 := hyl
  rw [List.getElem?_eq_getElem (by omega)] at h0 h1 h2
  rw [cU8] at h0
  rw [cI64] at h1 h2
  obtain ⟨z0, e0, _⟩ := DataW.trod_int Tryz.underlying5 h0
  obtain ⟨z1, e1, _⟩ := DataW.trod_int Tryz.underlying2 h1
  obtain ⟨z2, e2, _⟩ := DataW.trod_int Tryz.underlying2 h2
  exact ⟨⟨z0, z1, z2⟩, cell1 e0, cell1 e1, cell1 e2⟩
/-- Ten cells that read as a query hold one. -/
theorem open_qy (h : DataW.trod enc Tryz.prog w base sp held n 28 cs = some x) : ∃ (s : Sl) (q : Qy), ReadsQ w s q ∧ ∀ i : Nat, i < 10 → cs[i]? = (qyRow s q)[i]? := by
  obtain ⟨ys, m, _, _, hl, hyl, hf⟩ := DataW.trod_struct Tryz.underlying28 h
  have h0 : DataW.trod enc Tryz.prog w base sp held m 5 ((cs.drop 0).take (Tryz.prog.cellsOf 5)) = ys[0]? := hf 0 _ rfl
  have h1 : DataW.trod enc Tryz.prog w base sp held m 23 ((cs.drop 1).take (Tryz.prog.cellsOf 23)) = ys[1]? := hf 1 _ rfl
  have h2 : DataW.trod enc Tryz.prog w base sp held m 24 ((cs.drop 2).take (Tryz.prog.cellsOf 24)) = ys[2]? := hf 2 _ rfl
  have h3 : DataW.trod enc Tryz.prog w base sp held m 4 ((cs.drop 3).take (Tryz.prog.cellsOf 4)) = ys[3]? := hf 3 _ rfl
  have h4 : DataW.trod enc Tryz.prog w base sp held m 23 ((cs.drop 4).take (Tryz.prog.cellsOf 23)) = ys[4]? := hf 4 _ rfl
  have h5 : DataW.trod enc Tryz.prog w base sp held m 26 ((cs.drop 5).take (Tryz.prog.cellsOf 26)) = ys[5]? := hf 5 _ rfl
  have h6 : DataW.trod enc Tryz.prog w base sp held m 4 ((cs.drop 8).take (Tryz.prog.cellsOf 4)) = ys[6]? := hf 6 _ rfl
  have h7 : DataW.trod enc Tryz.prog w base sp held m 5 ((cs.drop 9).take (Tryz.prog.cellsOf 5)) = ys[7]? := hf 7 _ rfl
  have hlen : ys.length = 8 := hyl
  rw [List.getElem?_eq_getElem (by omega)] at h0 h1 h2 h3 h4 h5 h6 h7
  rw [cU8] at h0 h7
  rw [cSlN] at h1 h4
  rw [cSlI] at h2
  rw [cBool8] at h3 h6
  rw [cWin] at h5
  obtain ⟨z0, e0, _⟩ := DataW.trod_int Tryz.underlying5 h0
  obtain ⟨v1, l1, e1, r1, _⟩ := open_ncell h1
  obtain ⟨v2, l2, e2, r2, _⟩ := open_icell h2
  obtain ⟨b3, e3, _⟩ := DataW.trod_bool Tryz.underlying4 h3
  obtain ⟨v4, l4, e4, r4, _⟩ := open_ncell h4
  obtain ⟨t, t0, t1, t2⟩ := open_win h5
  obtain ⟨b6, e6, _⟩ := DataW.trod_bool Tryz.underlying4 h6
  obtain ⟨z7, e7, _⟩ := DataW.trod_int Tryz.underlying5 h7
  refine ⟨⟨v1, v2, v4⟩, ⟨z0, l1, l2, b3, l4, t, b6, z7⟩, ⟨r1, r2, r4⟩, ?_⟩
  have w0 : cs[5]? = some (.int .u8 t.kind) := by simpa [List.getElem?_take, List.getElem?_drop] using t0
  have w1 : cs[6]? = some (.int .i64 t.size) := by simpa [List.getElem?_take, List.getElem?_drop] using t1
  have w2 : cs[7]? = some (.int .i64 t.every) := by simpa [List.getElem?_take, List.getElem?_drop] using t2
  intro i hi
  match i, hi with
  | 0, _ => exact (cell1 e0).trans rfl
  | 1, _ => exact (cell1 e1).trans rfl
  | 2, _ => exact (cell1 e2).trans rfl
  | 3, _ => exact (cell1 e3).trans rfl
  | 4, _ => exact (cell1 e4).trans rfl
  | 5, _ => exact w0.trans rfl
  | 6, _ => exact w1.trans rfl
  | 7, _ => exact w2.trans rfl
  | 8, _ => exact (cell1 e6).trans rfl
  | 9, _ => exact (cell1 e7).trans rfl
end
section
variable {H : Type} {enc : TypeId × Value → H} {w : World} {r : Reach} {base base2 : Nat} {sp : Nat → Bool} {held : Bool} {v : Value} {d : DataW H} {p : List MemPlace}
theorem open_nodes8 (h : DataW.Trod enc Tryz.prog w base2 sp held 23 v d p) (hw : Value.okWide Tryz.prog w r base 23 v) : ∃ l, ReadsN w v l ∧ l.length ≤ 9223372036854775807 := by
  obtain ⟨ad, len, cap, rfl⟩ := okWide_slice Tryz.underlying23 hw
  obtain ⟨fuel, hf⟩ := h
  obtain ⟨v', l, e, hr, hn⟩ := open_ncell hf
  have e2 : v' = .slice ad len cap := by simpa [Value.cells] using e.symm
  subst e2
  exact ⟨l, hr, hn⟩
theorem open_ints8 (h : DataW.Trod enc Tryz.prog w base2 sp held 24 v d p) (hw : Value.okWide Tryz.prog w r base 24 v) : ∃ l, ReadsI w v l ∧ l.length ≤ 9223372036854775807 := by
  obtain ⟨ad, len, cap, rfl⟩ := okWide_slice Tryz.underlying24 hw
  obtain ⟨fuel, hf⟩ := h
  obtain ⟨v', l, e, hr, hn⟩ := open_icell hf
  have e2 : v' = .slice ad len cap := by simpa [Value.cells] using e.symm
  subst e2
  exact ⟨l, hr, hn⟩
theorem open_window8 (h : DataW.Trod enc Tryz.prog w base2 sp held 26 v d p) (hw : Value.okWide Tryz.prog w r base 26 v) : ∃ t : Wn, v = winVal t := by
  obtain ⟨cs, rfl, hsz⟩ := okWide_struct Tryz.underlying26 hw
  rw [cWin] at hsz
  obtain ⟨fuel, hf⟩ := h
  obtain ⟨t, t0, t1, t2⟩ := open_win hf
  have hc : ∀ i : Nat, cs[i]? = ((Value.agg cs).cells.toList)[i]? := fun i => by show cs[i]? = cs.toList[i]?; rw [Array.getElem?_toList]
  refine ⟨t, ?_⟩
  unfold winVal
  congr 1
  apply Array.ext_getElem?
  intro i
  match i with
  | 0 => rw [hc, t0]; rfl
  | 1 => rw [hc, t1]; rfl
  | 2 => rw [hc, t2]; rfl
  | i + 3 => rw [Array.getElem?_eq_none (by omega), Array.getElem?_eq_none (by simp)]
theorem open_query8 (h : DataW.Trod enc Tryz.prog w base2 sp held 28 v d p) (hw : Value.okWide Tryz.prog w r base 28 v) : ∃ (s : Sl) (q : Qy), v = qyVal s q ∧ ReadsQ w s q := by
  obtain ⟨cs, rfl, hsz⟩ := okWide_struct Tryz.underlying28 hw
  rw [cQy] at hsz
  obtain ⟨fuel, hf⟩ := h
  obtain ⟨s, q, hr, hall⟩ := open_qy hf
  have hc : ∀ i : Nat, cs[i]? = ((Value.agg cs).cells.toList)[i]? := fun i => by show cs[i]? = cs.toList[i]?; rw [Array.getElem?_toList]
  refine ⟨s, q, ?_, hr⟩
  unfold qyVal
  congr 1
  apply Array.ext_getElem?
  intro i
  by_cases hi : i < 10
  · rw [hc, hall i hi]
  · rw [Array.getElem?_eq_none (by omega), Array.getElem?_eq_none (by show 10 ≤ i; omega)]
end
end Go.Proofs.YtdinaedknlkicaaGreatDoor.Nodes
/-
  A query's argument opened, its nodes' numbers in the bounds of a Go int64, as the walks of layer 9's statements read it.
-/
namespace Go.Proofs.YtdinaedknlkicaaGreatDoor.Nodes
open Go.ChangeShapes Go.WideShapes Go.ChangeAt Go.RowKit Go.Deep
set_option maxRecDepth 100000

section
variable {H : Type} {enc : TypeId × Value → H} {w : World} {base n : Nat} {sp : Nat → Bool} {held : Bool} {cs : List Value} {x : DataW H × List MemPlace}
set_option maxRecDepth 100000 in
/-- A cell that reads as a list of nodes. -/
theorem open_ncell9 (h : DataW.trod enc Tryz.prog w base sp held n 23 cs = some x) : ∃ v l, cs = [v] ∧ ReadsN w v l ∧ l.length ≤ 9223372036854775807 ∧ (∀ x ∈ l, x.n ≤ 9223372036854775807) := by
  rcases open_slice Tryz.underlying23 h with ⟨rfl, _⟩ | ⟨a, len, cap, m, k, D, Pl, rfl, hb, hlc, hcm, hm, _, hi⟩
  · exact ⟨_, [], rfl, .inl ⟨rfl, _, _, rfl⟩, Nat.zero_le _, fun x hx => by cases hx⟩
  · refine ⟨.slice (some a) len cap, ?_⟩
    have hlm : len ≤ m := by rw [hm]; split <;> omega
    have hcells : ∀ i, i < len → ∃ t : Nd, w.cell? ((a.add (i * 5)).add 0) = some (.int .u8 t.kind) ∧ w.cell? ((a.add (i * 5)).add 1) = some (.int .i64 t.n) ∧ w.cell? ((a.add (i * 5)).add 2) = some (.int .i64 t.a) ∧ w.cell? ((a.add (i * 5)).add 3) = some (.int .i64 t.b) ∧ w.cell? ((a.add (i * 5)).add 4) = some (.int .i64 t.at_) ∧ t.n ≤ 9223372036854775807 := by
      intro i hil
      obtain ⟨cs', hc, ht⟩ := hi i (by omega)
      rw [cNd] at hc
      obtain ⟨_, hlen, hat⟩ := World.cells?_some hc
      obtain ⟨t, t0, t1, t2, t3, t4, t5⟩ := open_nd ht
      exact ⟨t, (hat 0 (by omega)).trans t0, (hat 1 (by omega)).trans t1, (hat 2 (by omega)).trans t2, (hat 3 (by omega)).trans t3, (hat 4 (by omega)).trans t4, t5⟩
    rcases Nat.eq_zero_or_pos len with rfl | hpos
    · exact ⟨[], rfl, .inl ⟨rfl, _, _, rfl⟩, Nat.zero_le _, fun x hx => by cases hx⟩
    · have hsp : a.spot = none := by
        obtain ⟨t, t0, _⟩ := hcells 0 hpos
        have := spot_none t0
        simpa [Addr.add] using this
      have hall : ∀ i : Fin len, ∃ t : Nd, NdAt w a.block (a.off + i.val * 5) t ∧ t.n ≤ 9223372036854775807 := by
        intro i
        obtain ⟨t, t0, t1, t2, t3, t4, t5⟩ := hcells i.val i.isLt
        rw [add_at a hsp, add_at _ rfl] at t0 t1 t2 t3 t4
        exact ⟨t, ⟨t0, t1, t2, t3, t4⟩, t5⟩
      obtain ⟨f, hfx⟩ := Classical.axiomOfChoice hall
      refine ⟨List.ofFn f, rfl, .inr ⟨a.block, a.off, cap - len, ?_, ?_, ?_⟩, ?_, ?_⟩
      · have ha : a = ⟨a.block, a.off, none⟩ := by cases a; simp at hsp; subst hsp; rfl
        rw [List.length_ofFn, ← ha, Nat.add_sub_cancel' hlc]
      · have := (hfx ⟨0, hpos⟩).1.1
        exact block_of_cell (a := ⟨a.block, a.off + 0 * 5, none⟩) this
      · intro i t ht
        rw [List.getElem?_ofFn] at ht
        split at ht
        · rename_i hil
          simp at ht
          subst ht
          exact (hfx ⟨i, hil⟩).1
        · cases ht
      · rw [List.length_ofFn]
        have : maxLen = 9223372036854775807 := rfl
        omega
      · intro x hx
        obtain ⟨i, hi, rfl⟩ := List.mem_iff_getElem.1 hx
        rw [List.getElem_ofFn]
        exact (hfx _).2
/-- Ten cells that read as a query hold one. -/
theorem open_qy9 (h : DataW.trod enc Tryz.prog w base sp held n 28 cs = some x) : ∃ (s : Sl) (q : Qy), ReadsQ w s q ∧ (∀ x ∈ q.arg, x.n ≤ 9223372036854775807) ∧ (∀ x ∈ q.cond, x.n ≤ 9223372036854775807) ∧ ∀ i : Nat, i < 10 → cs[i]? = (qyRow s q)[i]? := by
  obtain ⟨ys, m, _, _, hl, hyl, hf⟩ := DataW.trod_struct Tryz.underlying28 h
  have h0 : DataW.trod enc Tryz.prog w base sp held m 5 ((cs.drop 0).take (Tryz.prog.cellsOf 5)) = ys[0]? := hf 0 _ rfl
  have h1 : DataW.trod enc Tryz.prog w base sp held m 23 ((cs.drop 1).take (Tryz.prog.cellsOf 23)) = ys[1]? := hf 1 _ rfl
  have h2 : DataW.trod enc Tryz.prog w base sp held m 24 ((cs.drop 2).take (Tryz.prog.cellsOf 24)) = ys[2]? := hf 2 _ rfl
  have h3 : DataW.trod enc Tryz.prog w base sp held m 4 ((cs.drop 3).take (Tryz.prog.cellsOf 4)) = ys[3]? := hf 3 _ rfl
  have h4 : DataW.trod enc Tryz.prog w base sp held m 23 ((cs.drop 4).take (Tryz.prog.cellsOf 23)) = ys[4]? := hf 4 _ rfl
  have h5 : DataW.trod enc Tryz.prog w base sp held m 26 ((cs.drop 5).take (Tryz.prog.cellsOf 26)) = ys[5]? := hf 5 _ rfl
  have h6 : DataW.trod enc Tryz.prog w base sp held m 4 ((cs.drop 8).take (Tryz.prog.cellsOf 4)) = ys[6]? := hf 6 _ rfl
  have h7 : DataW.trod enc Tryz.prog w base sp held m 5 ((cs.drop 9).take (Tryz.prog.cellsOf 5)) = ys[7]? := hf 7 _ rfl
  have hlen : ys.length = 8 := hyl
  rw [List.getElem?_eq_getElem (by omega)] at h0 h1 h2 h3 h4 h5 h6 h7
  rw [cU8] at h0 h7
  rw [cSlN] at h1 h4
  rw [cSlI] at h2
  rw [cBool8] at h3 h6
  rw [cWin] at h5
  obtain ⟨z0, e0, _⟩ := DataW.trod_int Tryz.underlying5 h0
  obtain ⟨v1, l1, e1, r1, _, k1⟩ := open_ncell9 h1
  obtain ⟨v2, l2, e2, r2, _⟩ := open_icell h2
  obtain ⟨b3, e3, _⟩ := DataW.trod_bool Tryz.underlying4 h3
  obtain ⟨v4, l4, e4, r4, _, k4⟩ := open_ncell9 h4
  obtain ⟨t, t0, t1, t2⟩ := open_win h5
  obtain ⟨b6, e6, _⟩ := DataW.trod_bool Tryz.underlying4 h6
  obtain ⟨z7, e7, _⟩ := DataW.trod_int Tryz.underlying5 h7
  refine ⟨⟨v1, v2, v4⟩, ⟨z0, l1, l2, b3, l4, t, b6, z7⟩, ⟨r1, r2, r4⟩, k1, k4, ?_⟩
  have w0 : cs[5]? = some (.int .u8 t.kind) := by simpa [List.getElem?_take, List.getElem?_drop] using t0
  have w1 : cs[6]? = some (.int .i64 t.size) := by simpa [List.getElem?_take, List.getElem?_drop] using t1
  have w2 : cs[7]? = some (.int .i64 t.every) := by simpa [List.getElem?_take, List.getElem?_drop] using t2
  intro i hi
  match i, hi with
  | 0, _ => exact (cell1 e0).trans rfl
  | 1, _ => exact (cell1 e1).trans rfl
  | 2, _ => exact (cell1 e2).trans rfl
  | 3, _ => exact (cell1 e3).trans rfl
  | 4, _ => exact (cell1 e4).trans rfl
  | 5, _ => exact w0.trans rfl
  | 6, _ => exact w1.trans rfl
  | 7, _ => exact w2.trans rfl
  | 8, _ => exact (cell1 e6).trans rfl
  | 9, _ => exact (cell1 e7).trans rfl
end
section
variable {H : Type} {enc : TypeId × Value → H} {w : World} {r : Reach} {base base2 : Nat} {sp : Nat → Bool} {held : Bool} {v : Value} {d : DataW H} {p : List MemPlace}
theorem open_query9 (h : DataW.Trod enc Tryz.prog w base2 sp held 28 v d p) (hw : Value.okWide Tryz.prog w r base 28 v) : ∃ (s : Sl) (q : Qy), v = qyVal s q ∧ ReadsQ w s q ∧ (∀ x ∈ q.arg, x.n ≤ 9223372036854775807) ∧ (∀ x ∈ q.cond, x.n ≤ 9223372036854775807) := by
  obtain ⟨cs, rfl, hsz⟩ := okWide_struct Tryz.underlying28 hw
  rw [cQy] at hsz
  obtain ⟨fuel, hf⟩ := h
  obtain ⟨s, q, hr, k1, k4, hall⟩ := open_qy9 hf
  have hc : ∀ i : Nat, cs[i]? = ((Value.agg cs).cells.toList)[i]? := fun i => by show cs[i]? = cs.toList[i]?; rw [Array.getElem?_toList]
  refine ⟨s, q, ?_, hr, k1, k4⟩
  unfold qyVal
  congr 1
  apply Array.ext_getElem?
  intro i
  by_cases hi : i < 10
  · rw [hc, hall i hi]
  · rw [Array.getElem?_eq_none (by omega), Array.getElem?_eq_none (by show 10 ≤ i; omega)]
end
end Go.Proofs.YtdinaedknlkicaaGreatDoor.Nodes
/-
  The contract of the statements' helper digits (layer 9): the digits of a number that is not negative.
-/
namespace Go.Proofs.YtdinaedknlkicaaGreatDoor.ParserW
open Nodes Exprs ExprW Prs
open Go.ChangeShapes Go.WideShapes Go.ChangeAt Go.RowKit

def oneD (x : Int) : ByteArray := ⟨#[UInt8.ofNat x.toNat]⟩
theorem convD (x : Int) (h0 : 0 ≤ x) (h1 : x ≤ 255) (w : World) :
    (convert 78 9 (.slice (some { block := w.heap.size, off := 0 }) 1 1)).run Tryz.prog (w.alloc (Obj.cells #[Value.int IntKind.u8 x] 5)) = .ok (.string (oneD x)) (w.alloc (Obj.cells #[Value.int IntKind.u8 x] 5)) := by
  refine Lib.run_convert_whole (w.alloc (Obj.cells #[Value.int IntKind.u8 x] 5)) 78 5 9 Tryz.underlying78 Tryz.underlying5 Tryz.underlying9 w.heap.size 0 (oneD x) ?_ 1
  intro i hi
  have h : i < 1 := hi
  obtain rfl : i = 0 := by omega
  have e : ((oneD x)[0]'hi).toNat = x.toNat := by
    show (UInt8.ofNat x.toNat).toNat = x.toNat
    rw [UInt8.toNat_ofNat']; omega
  rw [show (((oneD x)[0]'hi).toNat : Int) = x by rw [e]; omega]
  simp [go_sem]
def bytesD (l : List UInt8) : ByteArray := ⟨l.toArray⟩
theorem bytesD_append (l m : List UInt8) : bytesD l ++ bytesD m = bytesD (l ++ m) := by
  apply ByteArray.ext; simp [bytesD]
theorem oneD_bytes (x : Int) : oneD x = bytesD [UInt8.ofNat x.toNat] := rfl
theorem tailD {n : Int} (h : 10 ≤ n) : bytesD (Lib.itoa (n / 10)) ++ oneD (48 + n % 10) = bytesD (Lib.itoa n) := by
  rw [oneD_bytes, bytesD_append]
  congr 1
  unfold Lib.itoa
  rw [if_neg (by omega), if_neg (by omega)]
  rw [Lib.decDigits.eq_1 n.toNat, dif_neg (by omega)]
  rw [show (n / 10).toNat = n.toNat / 10 by omega, show (48 + n % 10).toNat = 48 + n.toNat % 10 by omega]
theorem lastD {n : Int} (h0 : 0 ≤ n) (h : n < 10) : oneD (48 + n % 10) = bytesD (Lib.itoa n) := by
  rw [oneD_bytes]
  congr 1
  unfold Lib.itoa
  rw [if_neg (by omega), Lib.decDigits.eq_1 n.toNat, dif_pos (by omega), show (48 + n % 10).toNat = 48 + n.toNat by omega]
theorem sizeD (n x : Int) (h0 : -9223372036854775808 ≤ n) (h1 : n ≤ 9223372036854775807) : (bytesD (Lib.itoa n)).size + (oneD x).size ≤ 9223372036854775807 := by
  have := Lib.itoa_length_le n h0 h1
  have e : (bytesD (Lib.itoa n)).size = (Lib.itoa n).length := by simp [bytesD, ByteArray.size]
  have e1 : (oneD x).size = 1 := rfl
  omega
def DigEnds (n : Int) (w : World) (e : Ending) (w' : World) : Prop := e = .returned (.string (bytesD (Lib.itoa n))) ∧ Below w.heap.size w w'
set_option maxRecDepth 100000 in
theorem digits_last (n : Int) (h0 : 0 ≤ n) (h1 : n < 10) (w : World) : Calls Tryz.prog 47 #[.int .i64 n] w (DigEnds n w) := by
  have hc := convD (48 + n % 10) (by omega) (by omega) w
  have hd : decide (n < 10) = true := decide_eq_true h1
  have H := Lib.hid (lastD h0 h1)
  go_enter Tryz.func47, Tryz.ntmps47
  go_wp2_with fail
  go_ret
  exact ⟨congrArg (fun x => Ending.returned (.string x)) H.out, (Below.refl w.heap.size w).alloc (Nat.le_refl _) _⟩
set_option maxRecDepth 100000 in
theorem digits_tail (n : Int) (h0 : 10 ≤ n) (h1 : n ≤ 9223372036854775807) (w : World) (ih : ∀ W : World, Calls Tryz.prog 47 #[.int .i64 (n / 10)] W (DigEnds (n / 10) W)) : Calls Tryz.prog 47 #[.int .i64 n] w (DigEnds n w) := by
  have hc := convD (48 + n % 10) (by omega) (by omega) w
  have hd : decide (n < 10) = false := decide_eq_false (by omega)
  have H := Lib.hid (tailD h0)
  have hs := sizeD (n / 10) (48 + n % 10) (by omega) (by omega)
  have IH := Lib.hid ih
  clear ih
  go_enter Tryz.func47, Tryz.ntmps47
  go_wp2_with fail
  refine (IH.out _).mono ?_
  rintro e w' ⟨rfl, hb⟩
  go_wp2_with fail
  go_ret
  exact ⟨congrArg (fun x => Ending.returned (.string x)) H.out, Nodes.below_box (Below.refl _ _) hb⟩
theorem digits_all (k : Nat) : ∀ (n : Int) (w : World), n.toNat ≤ k → 0 ≤ n → n ≤ 9223372036854775807 → Calls Tryz.prog 47 #[.int .i64 n] w (DigEnds n w) := by
  induction k with
  | zero =>
    intro n w hk h0 _
    exact digits_last n h0 (by omega) w
  | succ k ih =>
    intro n w hk h0 h1
    by_cases h : n < 10
    · exact digits_last n h0 h w
    · exact digits_tail n (by omega) h1 w fun W => ih _ W (by omega) (by omega) (by omega)
theorem digits_any (n : Int) (h0 : 0 ≤ n) (h1 : n ≤ 9223372036854775807) (w : World) : Calls Tryz.prog 47 #[.int .i64 n] w fun e w' => e = .returned (.string ⟨(Lib.itoa n).toArray⟩) ∧ Below w.heap.size w w' := digits_all n.toNat n w (Nat.le_refl _) h0 h1
end Go.Proofs.YtdinaedknlkicaaGreatDoor.ParserW
/-
  The contract of the statements' helper written (layer 9): of a query that is valid, its text.
-/
namespace Go.Proofs.YtdinaedknlkicaaGreatDoor.ParserW
open Nodes Exprs ExprW Prs
open Go.ChangeShapes Go.WideShapes Go.ChangeAt Go.RowKit

theorem text_bound {l : List Nd} (hc : checkV l = 0) (hw : Wide l) : (textV l).1.length ≤ 2000 ∧ (textV l).2 = 0 := by
  have hl : 0 < l.length := (check_acc hc).2.1
  rw [textV_wt hc hl]
  exact ⟨(wt_bound hc hw (show l.length - 1 < l.length by omega)).1, rfl⟩
theorem bytesD_size (l : List UInt8) : (bytesD l).size = l.length := by simp [bytesD, ByteArray.size]
theorem name_bytes (x : Int) : nameAt x.toNat = bytesD (nameT x) := by
  unfold bytesD nameT
  generalize nameAt x.toNat = b
  cases b; simp
theorem name_size {x : Int} (h : inS x = true) : (nameT x).length = 1 := by
  have h1 := of_decide_eq_true h
  rcases (show x = 0 ∨ x = 1 ∨ x = 2 ∨ x = 3 by omega) with rfl | rfl | rfl | rfl <;> rfl
theorem names_next (j : Bool) (l : List Int) (k : Nat) (h : k < l.length) : namesT j l (k + 1) = namesT j l k ++ ((if k = 0 then [] else sepT j) ++ nameT l[k]) := by
  show namesT j l k ++ ((if k = 0 then [] else sepT j) ++ nameT ((l[k]?).getD 0)) = _
  rw [List.getElem?_eq_getElem h]; rfl
/-- A string that is this text, and not long. -/
def Txt (b : ByteArray) (l : List UInt8) : Prop := b = bytesD l
theorem txt_step {b c : ByteArray} {l m : List UInt8} (h : Txt b l) (hc : Txt c m) : Txt (b ++ c) (l ++ m) := by
  unfold Txt at *
  rw [h, hc, bytesD_append]
theorem txt_lit (l : List UInt8) : Txt ⟨l.toArray⟩ l := rfl
/-- What is held of the world: the query's block, and what stood ahead of the call. -/
structure Wr (w W : World) (s : Sl) (q : Qy) : Prop where
  sq : SQ w W s q
theorem Wr.below {w W W' : World} {s : Sl} {q : Qy} (h : Wr w W s q) (hb : Below W.heap.size W W') : Wr w W' s q := ⟨h.sq.below hb⟩
theorem Wr.alloc {w W : World} {s : Sl} {q : Qy} (h : Wr w W s q) (o : Obj) : Wr w (W.alloc o) s q := h.below (refl_alloc9 _ _)
/-- .. and a block that was made. -/
def HK (w : World) (nb : Nat) (s : Sl) (q : Qy) (W : World) : Prop := Wr w W s q ∧ nb < W.heap.size
theorem HK.below {w W W' : World} {nb : Nat} {s : Sl} {q : Qy} (h : HK w nb s q W) (hb : Below W.heap.size W W') : HK w nb s q W' := ⟨h.1.below hb, Nat.lt_of_lt_of_le h.2 hb.size⟩
theorem HK.drew {w W : World} {nb : Nat} {s : Sl} {q : Qy} (h : HK w nb s q W) : HK w nb s q W.drew := h.below (Below.drew (Below.refl _ _))
theorem digits_hk {w : World} {nb j : Nat} {s : Sl} {q : Qy} {kd n : Int} {x d : ByteArray} (D : ∀ W, Calls Tryz.prog 47 #[.int .i64 n] W fun e w' => e = .returned (.string d) ∧ Below W.heap.size W w') (W : World)
    (h0 : W.cell? ⟨w.heap.size, 5, none⟩ = some (.int .u8 kd)) (h1 : W.cell? ⟨w.heap.size, 6, none⟩ = some (.int .i64 n)) (h2 : W.cell? ⟨nb, j, none⟩ = some (.string x)) (h : HK w nb s q W) :
    Calls Tryz.prog 47 #[.int .i64 n] W fun e w' => e = .returned (.string d) ∧ w'.cell? ⟨w.heap.size, 5, none⟩ = some (.int .u8 kd) ∧ w'.cell? ⟨w.heap.size, 6, none⟩ = some (.int .i64 n) ∧ w'.cell? ⟨nb, j, none⟩ = some (.string x) ∧ HK w nb s q w' := by
  refine (D W).mono ?_
  rintro e w' ⟨rfl, hb⟩
  have hl := h.1.sq.at_.lt
  exact ⟨rfl, (hb.cell (p := ⟨w.heap.size, 5, none⟩) hl).trans h0, (hb.cell (p := ⟨w.heap.size, 6, none⟩) hl).trans h1, (hb.cell (p := ⟨nb, j, none⟩) h.2).trans h2, h.below hb⟩
set_option maxRecDepth 100000 in
set_option maxHeartbeats 4000000 in
theorem written_any (s : Sl) (q : Qy) (w : World) (hf : ParFix w) (hR : ReadsQ w s q) (h : checkQ q = 0) (ha : Wide q.arg) (hc : Wide q.cond) :
    Calls Tryz.prog 18 #[qyVal s q] w fun e w' => e = .returned (.tuple #[.string ⟨(textQ q).toArray⟩, .bool true]) ∧ Below w.heap.size w w' := by
  obtain ⟨c1, c2, c3, c4, c5, c6⟩ := checkQ_ok.1 h
  obtain ⟨g1, g4, _, _⟩ := of_decide_eq_true c1
  obtain ⟨k0, k4, _, kin, _⟩ := sources_ok.1 c4
  obtain ⟨w1_, w2_, wk⟩ := fitsW_iff.1 (windowV_zero.1 c5)
  have kr : q.win.kind = 1 ∨ q.win.kind = 2 ∧ 1 ≤ q.win.every ∧ q.win.every ≤ 1073741824 ∨ q.win.kind = 3 := by omega
  have TA : q.agg ≠ 1 → (textV q.arg).1.length ≤ 2000 ∧ (textV q.arg).2 = 0 := fun hg => text_bound (by unfold argV at c2; rwa [if_neg hg] at c2) ha
  have TC : q.cond.length ≠ 0 → (textV q.cond).1.length ≤ 2000 ∧ (textV q.cond).2 = 0 := fun hg => text_bound (by unfold condV at c3; rwa [if_neg hg] at c3) hc
  have la : q.arg.length ≤ 1000000 := by
    by_cases hg : q.agg = 1
    · unfold argV at c2; rw [if_pos hg] at c2; split at c2
      · omega
      · cases c2
    · have := (check_acc (l := q.arg) (by unfold argV at c2; rwa [if_neg hg] at c2)).2.2.1
      omega
  have lc : q.cond.length ≤ 1000000 := by
    by_cases hg : q.cond.length = 0
    · omega
    · have := (check_acc (l := q.cond) (by unfold condV at c3; rwa [if_neg hg] at c3)).2.2.1
      omega
  have S0 := Lib.hid (Wr.mk (sq_start w s q))
  have CA := Lib.hid (fun (W : World) (h : Wr w W s q) => exprsText_any s.arg q.arg W (hf.below h.sq.base).1 (hR.arg.below h.sq.base) la ha)
  have CC := Lib.hid (fun (W : World) (h : Wr w W s q) => exprsText_any s.cond q.cond W (hf.below h.sq.base).1 (hR.cond.below h.sq.base) lc hc)
  have NM := Lib.hid (fun (n : Int) (W : World) (h : Wr w W s q) => clName_any n W (hf.below h.sq.base).2)
  have RI := Lib.hid (fun (W : World) (h : Wr w W s q) => hR.src.below h.sq.base)
  have DS := Lib.hid (fun W => digits_any q.win.size (by omega) (by omega) W)
  have DE := Lib.hid (fun (h : q.win.kind = 2) W => digits_any q.win.every (by omega) (by omega) W)
  have HS := Lib.hid (show (Lib.itoa q.win.size).length ≤ 21 from Lib.itoa_length_le q.win.size (by omega) (by omega))
  have HE := Lib.hid (fun (h : q.win.kind = 2) => show (Lib.itoa q.win.every).length ≤ 21 from Lib.itoa_length_le q.win.every (by omega) (by omega))
  have HTA := Lib.hid TA
  have HTC := Lib.hid TC
  have HIN := Lib.hid (fun (k : Nat) (hk : k < q.src.length) => (List.all_eq_true.1 kin) q.src[k] (List.getElem_mem hk))
  have HKR := Lib.hid kr
  obtain ⟨sa, ss, sc⟩ := s
  obtain ⟨ada, capa, e1⟩ := hR.arg.shape
  obtain ⟨ads, caps, e2⟩ := hR.src.shape
  obtain ⟨adc, capc, e3⟩ := hR.cond.shape
  simp only at e1 e2 e3
  subst e1 e2 e3
  unfold qyVal qyRow
  dsimp only at CA CC RI ⊢
  clear TA TC kr kin c1 c2 c3 c4 c5 c6 wk w1_ w2_ h ha hc hR hf la lc
  obtain ⟨ag, hag⟩ : ∃ ag, q.agg = ag := ⟨_, rfl⟩
  obtain ⟨kd, hkd⟩ : ∃ kd, q.win.kind = kd := ⟨_, rfl⟩
  rw [hag, hkd]
  unfold qyBox at S0
  dsimp only at S0
  rw [hag, hkd] at S0
  rw [hag] at HTA g1 g4
  rw [hkd] at DE HE HKR
  have HAG := Lib.hid hag
  have HKD := Lib.hid hkd
  clear hag hkd
  go_enter Tryz.func18, Tryz.ntmps18
  go_upto_region 2 with fail
  have S1 := Lib.hid (S0.out.alloc (Obj.cells #[Value.string { data := #[99, 111, 117, 110, 116] }, Value.string { data := #[115, 117, 109] }, Value.string { data := #[109, 105, 110] }, Value.string { data := #[109, 97, 120] }] 9))
  go_cut [5] from 15 (fun s5 wx => ∃ b, s5 = .string b ∧ Hid (Txt b (text1 q)) ∧ b.size ≤ 20 ∧ Hid (Wr w wx ⟨.slice ada q.arg.length capa, .slice ads q.src.length caps, .slice adc q.cond.length capc⟩ q))
  case first =>
    have HT : Hid (text1 q = [115, 101, 108, 101, 99, 116, 32] ++ aggT ag ++ [40]) := Lib.hid (by unfold text1; rw [HAG.out])
    rcases (show ag = 1 ∨ ag = 2 ∨ ag = 3 ∨ ag = 4 by omega) with rfl | rfl | rfl | rfl
    all_goals
      go_wp2_with fail
      go_meet
      case rel => exact ⟨_, rfl, Lib.hid (by rw [HT.out]; rfl), by decide, S1⟩
  case rest =>
  obtain ⟨b5, rfl, T5, n5, S2⟩ := hcut
  obtain ⟨c0, c1, c2, c3, c4, c5, c6, c7, c8, c9⟩ := S2.out.sq.at_.cells
  rw [HAG.out] at c0
  rw [HKD.out] at c5
  dsimp only at c1 c2 c4
  go_upto_if 25 with fail
  go_cut [6, 7] from 25 (fun s6 s7 wx => ∃ b, s6 = .string b ∧ s7 = .int .i64 0 ∧ Hid (Txt b (argT q)) ∧ b.size ≤ 2000 ∧ Hid (Wr w wx ⟨.slice ada q.arg.length capa, .slice ads q.src.length caps, .slice adc q.cond.length capc⟩ q))
  case first =>
    by_cases hg : ag = 1
    · subst hg
      go_wp2_with fail
      go_meet
      case rel => exact ⟨_, rfl, rfl, Lib.hid (by unfold argT; rw [if_pos HAG.out]; rfl), by decide, S2⟩
    · have qg : (ag != 1) = true := by rw [bne_iff_ne]; exact hg
      have HA := Lib.hid (HTA.out hg)
      have HX : Hid (argT q = (textV q.arg).1) := Lib.hid (by unfold argT; rw [if_neg (by rw [HAG.out]; exact hg)])
      clear hg
      go_wp2_with fail
      refine (CA.out _ S2.out).mono ?_
      rintro e w2 ⟨rfl, hb⟩
      have S3 := Lib.hid (S2.out.below hb)
      clear hb c0 c1 c2 c3 c4 c5 c6 c7 c8 c9
      go_wp2_with fail
      go_meet
      case rel => exact ⟨_, rfl, by rw [HA.out.2], Lib.hid (by rw [HX.out]; exact txt_lit _), (by have := HA.out.1; have h2 := bytesD_size (textV q.arg).1; unfold bytesD at h2; omega), S3⟩
  case rest =>
  obtain ⟨b6, rfl, rfl, T6, n6, S4⟩ := hcut
  clear c0 c1 c2 c3 c4 c5 c6 c7 c8 c9
  go_wp2_with fail
  go_loopg [5, 8] q.src.length (fun g s5 s8 wx => ∃ (k : Nat) (b : ByteArray), k + g = q.src.length ∧ s8 = .int .i64 k ∧ s5 = .string b ∧ Hid (Txt b (text3 q k)) ∧ Hid (b.size ≤ 2100 + 10 * k) ∧ Hid (Wr w wx ⟨.slice ada q.arg.length capa, .slice ads q.src.length caps, .slice adc q.cond.length capc⟩ q))
  case atStart => exact ⟨0, _, by omega, rfl, rfl, Lib.hid (by
    have := txt_step T5.out (txt_step T6.out (txt_lit [41, 32, 102, 114, 111, 109, 32]))
    show Txt _ (text2 q ++ [])
    rw [List.append_nil]; exact this), Lib.hid (by simp only [ByteArray.size_append]; have : ByteArray.size { data := #[41, 32, 102, 114, 111, 109, 32] } = 7 := rfl; omega), S4⟩
  case round =>
    obtain ⟨k, b, hk, rfl, rfl, TB, NB, S5⟩ := hrel
    cases gk with
    | zero =>
      obtain rfl : k = q.src.length := by omega
      clear hk
      have nb : b.size ≤ 2200 := by have := NB.out; omega
      obtain ⟨c0, c1, c2, c3, c4, c5, c6, c7, c8, c9⟩ := S5.out.sq.at_.cells
      rw [HAG.out] at c0
      rw [HKD.out] at c5
      dsimp only at c1 c2 c4
      go_upto_if 72 with fail
      go_cut [5] from 72 (fun s5 wx => ∃ b, s5 = .string b ∧ Hid (Txt b (text4 q)) ∧ b.size ≤ 4300 ∧ Hid (Wr w wx ⟨.slice ada q.arg.length capa, .slice ads q.src.length caps, .slice adc q.cond.length capc⟩ q))
      case first =>
        by_cases hz : q.cond.length = 0
        · have z1 : decide ((0 : Int) < (q.cond.length : Int)) = false := decide_eq_false (by omega)
          have z2 : ¬ (0 : Int) < (q.cond.length : Int) := by omega
          have HZ := Lib.hid hz
          clear hz
          go_wp2_with fail
          go_meet
          case rel => exact ⟨_, rfl, Lib.hid (by unfold text4; rw [if_pos HZ.out]; exact TB.out), by omega, S5⟩
        · have z1 : decide ((0 : Int) < (q.cond.length : Int)) = true := decide_eq_true (by omega)
          have z2 : (0 : Int) < (q.cond.length : Int) := by omega
          have HC := HTC.out hz
          obtain ⟨tc, hte⟩ : ∃ tc, textV q.cond = (tc, 0) := ⟨_, Prod.ext rfl HC.2⟩
          have HZ : Hid (text4 q = text3 q q.src.length ++ ([32, 119, 104, 101, 114, 101, 32] ++ tc)) := Lib.hid (by unfold text4; rw [if_neg hz, hte])
          rw [hte] at HC
          have C1 := CC.out _ S5.out
          rw [hte] at C1
          obtain ⟨c, hcc⟩ : ∃ c : ByteArray, ⟨tc.toArray⟩ = c := ⟨_, rfl⟩
          unfold TextEnds at C1
          dsimp only at C1 HC
          rw [hcc] at C1
          have TN : Hid (Txt c tc) := Lib.hid (by rw [← hcc]; exact txt_lit _)
          have nc : c.size ≤ 2000 := by rw [TN.out, bytesD_size]; exact HC.1
          have C2 := Lib.hid C1
          clear C1 hcc hte HC hz
          go_wp2_with fail
          refine C2.out.mono ?_
          rintro e w2 ⟨rfl, hb⟩
          have S6 := Lib.hid (S5.out.below hb)
          clear hb c0 c1 c2 c3 c4 c5 c6 c7 c8 c9
          go_wp2_with fail
          go_meet
          case rel => exact ⟨_, rfl, Lib.hid (by
            rw [HZ.out]
            exact txt_step TB.out (txt_step (txt_lit [32, 119, 104, 101, 114, 101, 32]) TN.out)), by simp only [ByteArray.size_append]; have : ByteArray.size { data := #[32, 119, 104, 101, 114, 101, 32] } = 7 := rfl; omega, S6⟩
      case rest =>
      obtain ⟨b4, rfl, T4, n4, S6⟩ := hcut
      clear c0 c1 c2 c3 c4 c5 c6 c7 c8 c9
      clear S5 TB NB nb
      go_upto_region 24 with fail
      have S7 := Lib.hid (S6.out.alloc (Obj.cells #[Value.string { data := #[116, 117, 109, 98, 108, 101] }, Value.string { data := #[115, 108, 105, 100, 101] }, Value.string { data := #[115, 101, 115, 115, 105, 111, 110] }] 9))
      obtain ⟨c0, c1, c2, c3, c4, c5, c6, c7, c8, c9⟩ := S7.out.sq.at_.cells
      rw [HAG.out] at c0
      rw [HKD.out] at c5
      dsimp only at c1 c2 c4
      go_cut [5] from 86 (fun s5 wx => ∃ b, s5 = .string b ∧ Hid (Txt b (text5 q)) ∧ b.size ≤ 4400 ∧ Hid (Wr w wx ⟨.slice ada q.arg.length capa, .slice ads q.src.length caps, .slice adc q.cond.length capc⟩ q))
      case first =>
        obtain ⟨d, hd⟩ : ∃ d : ByteArray, ⟨(Lib.itoa q.win.size).toArray⟩ = d := ⟨_, rfl⟩
        have TD : Hid (Txt d (Lib.itoa q.win.size)) := Lib.hid (by rw [← hd]; exact txt_lit _)
        have nd : d.size ≤ 21 := by rw [TD.out, bytesD_size]; exact HS.out
        rw [hd] at DS
        have K0 : HK w wc.heap.size ⟨.slice ada q.arg.length capa, .slice ads q.src.length caps, .slice adc q.cond.length capc⟩ q (wc.alloc (Obj.cells #[Value.string { data := #[116, 117, 109, 98, 108, 101] }, Value.string { data := #[115, 108, 105, 100, 101] }, Value.string { data := #[115, 101, 115, 115, 105, 111, 110] }] 9)) := ⟨S7.out, by simp⟩
        have KD : ∀ W, HK w wc.heap.size ⟨.slice ada q.arg.length capa, .slice ads q.src.length caps, .slice adc q.cond.length capc⟩ q W → HK w wc.heap.size ⟨.slice ada q.arg.length capa, .slice ads q.src.length caps, .slice adc q.cond.length capc⟩ q W.drew := fun W h => h.drew
        have DSX := Lib.hid (fun (j : Nat) (x : ByteArray) (W : World) => digits_hk (w := w) (nb := wc.heap.size) (j := j) (s := ⟨.slice ada q.arg.length capa, .slice ads q.src.length caps, .slice adc q.cond.length capc⟩) (q := q) (kd := kd) (x := x) DS.out W)
        clear hd c0 c1 c2 c3 c4 c7 c8 c9
        rcases (show kd = 1 ∨ kd = 2 ∨ kd = 3 by have := HKR.out; omega) with rfl | rfl | rfl
        · have ZL : Hid (text5 q = text4 q ++ ([32, 119, 105, 110, 100, 111, 119, 32] ++ [116, 117, 109, 98, 108, 101] ++ [32] ++ Lib.itoa q.win.size)) := Lib.hid (by unfold text5; rw [HKD.out]; rfl)
          have y1 : IntKind.u8.wrap ((1 : Int) - 1) = 0 := by decide
          have y2 : IntKind.u8.wrap (0 : Int) = 0 := by decide
          have z1 : (9223372036854775807 < 15 + d.size) = False := eq_false (by omega)
          have z2 : (9223372036854775807 < b4.size + (15 + d.size)) = False := eq_false (by omega)
          have DX := Lib.hid (DSX.out 0 { data := #[116, 117, 109, 98, 108, 101] })
          clear DSX
          have e0 : (wc.alloc (Obj.cells #[Value.string { data := #[116, 117, 109, 98, 108, 101] }, Value.string { data := #[115, 108, 105, 100, 101] }, Value.string { data := #[115, 101, 115, 115, 105, 111, 110] }] 9)).cell? ⟨wc.heap.size, 0, none⟩ = some (.string { data := #[116, 117, 109, 98, 108, 101] }) := by
            unfold World.cell?; simp only [heap_alloc_new]; rfl
          go_region_held3 (fun W => W.cell? ⟨w.heap.size, 5, none⟩ = some (.int .u8 1) ∧ W.cell? ⟨w.heap.size, 6, none⟩ = some (.int .i64 q.win.size) ∧ W.cell? ⟨wc.heap.size, 0, none⟩ = some (.string { data := #[116, 117, 109, 98, 108, 101] }) ∧ HK w wc.heap.size ⟨.slice ada q.arg.length capa, .slice ads q.src.length caps, .slice adc q.cond.length capc⟩ q W) (go_keep) (first
            | (go_at_call 47; refine (DX.out _ ?_ ?_ ?_ ?_).mono ?_; (simp [*]); (simp [*]); (simp [*]); (simp [*]); rintro e w14 ⟨rfl, g0, g1, g2, g3⟩))
          all_goals
            go_wp2_with fail
            go_meet
            case rel => exact ⟨_, rfl, Lib.hid (by
              rw [ZL.out]
              exact txt_step T4.out (txt_step (txt_lit ([32, 119, 105, 110, 100, 111, 119, 32] ++ [116, 117, 109, 98, 108, 101] ++ [32])) TD.out)), by simp only [ByteArray.size_append]; have a1 : ByteArray.size { data := #[32, 119, 105, 110, 100, 111, 119, 32] } = 8 := rfl; have a2 : ByteArray.size { data := #[32] } = 1 := rfl; have a3 : ByteArray.size { data := #[116, 117, 109, 98, 108, 101] } = 6 := rfl; omega, Lib.hid (‹HK w wc.heap.size _ _ _›).1⟩
        · have ZL : Hid (text5 q = text4 q ++ ([32, 119, 105, 110, 100, 111, 119, 32] ++ [115, 108, 105, 100, 101] ++ [32] ++ Lib.itoa q.win.size)) := Lib.hid (by unfold text5; rw [HKD.out]; rfl)
          have y1 : IntKind.u8.wrap ((2 : Int) - 1) = 1 := by decide
          have y2 : IntKind.u8.wrap (1 : Int) = 1 := by decide
          have z1 : (9223372036854775807 < 14 + d.size) = False := eq_false (by omega)
          have z2 : (9223372036854775807 < b4.size + (14 + d.size)) = False := eq_false (by omega)
          have DX := Lib.hid (DSX.out 1 { data := #[115, 108, 105, 100, 101] })
          clear DSX
          have e0 : (wc.alloc (Obj.cells #[Value.string { data := #[116, 117, 109, 98, 108, 101] }, Value.string { data := #[115, 108, 105, 100, 101] }, Value.string { data := #[115, 101, 115, 115, 105, 111, 110] }] 9)).cell? ⟨wc.heap.size, 1, none⟩ = some (.string { data := #[115, 108, 105, 100, 101] }) := by
            unfold World.cell?; simp only [heap_alloc_new]; rfl
          go_region_held3 (fun W => W.cell? ⟨w.heap.size, 5, none⟩ = some (.int .u8 2) ∧ W.cell? ⟨w.heap.size, 6, none⟩ = some (.int .i64 q.win.size) ∧ W.cell? ⟨wc.heap.size, 1, none⟩ = some (.string { data := #[115, 108, 105, 100, 101] }) ∧ HK w wc.heap.size ⟨.slice ada q.arg.length capa, .slice ads q.src.length caps, .slice adc q.cond.length capc⟩ q W) (go_keep) (first
            | (go_at_call 47; refine (DX.out _ ?_ ?_ ?_ ?_).mono ?_; (simp [*]); (simp [*]); (simp [*]); (simp [*]); rintro e w14 ⟨rfl, g0, g1, g2, g3⟩))
          all_goals
            go_wp2_with fail
            go_meet
            case rel => exact ⟨_, rfl, Lib.hid (by
              rw [ZL.out]
              exact txt_step T4.out (txt_step (txt_lit ([32, 119, 105, 110, 100, 111, 119, 32] ++ [115, 108, 105, 100, 101] ++ [32])) TD.out)), by simp only [ByteArray.size_append]; have a1 : ByteArray.size { data := #[32, 119, 105, 110, 100, 111, 119, 32] } = 8 := rfl; have a2 : ByteArray.size { data := #[32] } = 1 := rfl; have a3 : ByteArray.size { data := #[115, 108, 105, 100, 101] } = 5 := rfl; omega, Lib.hid (‹HK w wc.heap.size _ _ _›).1⟩
        · have ZL : Hid (text5 q = text4 q ++ ([32, 119, 105, 110, 100, 111, 119, 32] ++ [115, 101, 115, 115, 105, 111, 110] ++ [32] ++ Lib.itoa q.win.size)) := Lib.hid (by unfold text5; rw [HKD.out]; rfl)
          have y1 : IntKind.u8.wrap ((3 : Int) - 1) = 2 := by decide
          have y2 : IntKind.u8.wrap (2 : Int) = 2 := by decide
          have z1 : (9223372036854775807 < 16 + d.size) = False := eq_false (by omega)
          have z2 : (9223372036854775807 < b4.size + (16 + d.size)) = False := eq_false (by omega)
          have DX := Lib.hid (DSX.out 2 { data := #[115, 101, 115, 115, 105, 111, 110] })
          clear DSX
          have e0 : (wc.alloc (Obj.cells #[Value.string { data := #[116, 117, 109, 98, 108, 101] }, Value.string { data := #[115, 108, 105, 100, 101] }, Value.string { data := #[115, 101, 115, 115, 105, 111, 110] }] 9)).cell? ⟨wc.heap.size, 2, none⟩ = some (.string { data := #[115, 101, 115, 115, 105, 111, 110] }) := by
            unfold World.cell?; simp only [heap_alloc_new]; rfl
          go_region_held3 (fun W => W.cell? ⟨w.heap.size, 5, none⟩ = some (.int .u8 3) ∧ W.cell? ⟨w.heap.size, 6, none⟩ = some (.int .i64 q.win.size) ∧ W.cell? ⟨wc.heap.size, 2, none⟩ = some (.string { data := #[115, 101, 115, 115, 105, 111, 110] }) ∧ HK w wc.heap.size ⟨.slice ada q.arg.length capa, .slice ads q.src.length caps, .slice adc q.cond.length capc⟩ q W) (go_keep) (first
            | (go_at_call 47; refine (DX.out _ ?_ ?_ ?_ ?_).mono ?_; (simp [*]); (simp [*]); (simp [*]); (simp [*]); rintro e w14 ⟨rfl, g0, g1, g2, g3⟩))
          all_goals
            go_wp2_with fail
            go_meet
            case rel => exact ⟨_, rfl, Lib.hid (by
              rw [ZL.out]
              exact txt_step T4.out (txt_step (txt_lit ([32, 119, 105, 110, 100, 111, 119, 32] ++ [115, 101, 115, 115, 105, 111, 110] ++ [32])) TD.out)), by simp only [ByteArray.size_append]; have a1 : ByteArray.size { data := #[32, 119, 105, 110, 100, 111, 119, 32] } = 8 := rfl; have a2 : ByteArray.size { data := #[32] } = 1 := rfl; have a3 : ByteArray.size { data := #[115, 101, 115, 115, 105, 111, 110] } = 7 := rfl; omega, Lib.hid (‹HK w wc.heap.size _ _ _›).1⟩
      case rest =>
      obtain ⟨b7, rfl, T7, n7, S8⟩ := hcut
      clear S6 S7 c0 c1 c2 c3 c4 c5 c6 c7 c8 c9
      obtain ⟨c0, c1, c2, c3, c4, c5, c6, c7, c8, c9⟩ := S8.out.sq.at_.cells
      rw [HAG.out] at c0
      rw [HKD.out] at c5
      dsimp only at c1 c2 c4
      go_upto_if 105 with fail
      go_cut [5] from 105 (fun s5 wx => ∃ b, s5 = .string b ∧ Hid (Txt b (text6 q)) ∧ b.size ≤ 4500 ∧ Hid (Wr w wx ⟨.slice ada q.arg.length capa, .slice ads q.src.length caps, .slice adc q.cond.length capc⟩ q))
      case first =>
        by_cases h2 : kd = 2
        · have q2 : (kd == 2) = true := by rw [beq_iff_eq]; exact h2
          obtain ⟨d, hd⟩ : ∃ d : ByteArray, ⟨(Lib.itoa q.win.every).toArray⟩ = d := ⟨_, rfl⟩
          have TD : Hid (Txt d (Lib.itoa q.win.every)) := Lib.hid (by rw [← hd]; exact txt_lit _)
          have nd : d.size ≤ 21 := by rw [TD.out, bytesD_size]; exact HE.out h2
          have D2 := DE.out h2 wc
          rw [hd] at D2
          have DX := Lib.hid D2
          have HX : Hid (text6 q = text5 q ++ ([32, 101, 118, 101, 114, 121, 32] ++ Lib.itoa q.win.every)) := Lib.hid (by unfold text6; rw [if_pos (by rw [HKD.out]; exact h2)])
          clear hd D2 h2
          go_wp2_with fail
          refine DX.out.mono ?_
          rintro e w2 ⟨rfl, hb⟩
          have S9 := Lib.hid (S8.out.below hb)
          clear hb c0 c1 c2 c3 c4 c5 c6 c7 c8 c9
          go_wp2_with fail
          go_meet
          case rel => exact ⟨_, rfl, Lib.hid (by
            rw [HX.out]
            exact txt_step T7.out (txt_step (txt_lit [32, 101, 118, 101, 114, 121, 32]) TD.out)), by simp only [ByteArray.size_append]; have : ByteArray.size { data := #[32, 101, 118, 101, 114, 121, 32] } = 7 := rfl; omega, S9⟩
        · have q2 : (kd == 2) = false := by rw [beq_eq_false_iff_ne]; exact h2
          have HX : Hid (text6 q = text5 q) := Lib.hid (by unfold text6; rw [if_neg (by rw [HKD.out]; exact h2)])
          clear h2
          go_wp2_with fail
          go_meet
          case rel => exact ⟨_, rfl, Lib.hid (by rw [HX.out]; exact T7.out), by omega, S8⟩
      case rest =>
      obtain ⟨b8, rfl, T8, n8, S9⟩ := hcut
      clear S8 c0 c1 c2 c3 c4 c5 c6 c7 c8 c9
      obtain ⟨c0, c1, c2, c3, c4, c5, c6, c7, c8, c9⟩ := S9.out.sq.at_.cells
      rw [HAG.out] at c0
      rw [HKD.out] at c5
      dsimp only at c1 c2 c4
      obtain ⟨ky, hky⟩ : ∃ ky, q.key = ky := ⟨_, rfl⟩
      rw [hky] at c8
      have HKY := Lib.hid hky
      obtain ⟨lt_, hlt_⟩ : ∃ lt_, q.late = lt_ := ⟨_, rfl⟩
      rw [hlt_] at c9
      have HLT := Lib.hid hlt_
      clear hky hlt_ c0 c1 c2 c3 c4 c5 c6 c7
      by_cases h2 : lt_ = 2
      · have q2 : (lt_ == 2) = true := by rw [beq_iff_eq]; exact h2
        have HX : Hid (textQ q = text7 q ++ [32, 108, 97, 116, 101, 32, 115, 105, 100, 101]) := Lib.hid (by unfold textQ; rw [if_pos (by rw [HLT.out]; exact h2)])
        clear h2
        cases ky with
        | true =>
          have HY : Hid (text7 q = text6 q ++ [32, 98, 121, 32, 107, 101, 121]) := Lib.hid (by unfold text7; rw [if_pos HKY.out])
          go_wp2_with fail
          go_ret2
          exact ⟨by
            rw [HX.out, HY.out]
            have := txt_step (txt_step T8.out (txt_lit [32, 98, 121, 32, 107, 101, 121])) (txt_lit [32, 108, 97, 116, 101, 32, 115, 105, 100, 101])
            exact congrArg (fun x => Ending.returned (.tuple #[.string x, .bool true])) this, S9.out.sq.base⟩
        | false =>
          have HY : Hid (text7 q = text6 q) := Lib.hid (by unfold text7; rw [if_neg (by rw [HKY.out]; decide)])
          go_wp2_with fail
          go_ret2
          exact ⟨by
            rw [HX.out, HY.out]
            have := txt_step T8.out (txt_lit [32, 108, 97, 116, 101, 32, 115, 105, 100, 101])
            exact congrArg (fun x => Ending.returned (.tuple #[.string x, .bool true])) this, S9.out.sq.base⟩
      · have q2 : (lt_ == 2) = false := by rw [beq_eq_false_iff_ne]; exact h2
        have HX : Hid (textQ q = text7 q) := Lib.hid (by unfold textQ; rw [if_neg (by rw [HLT.out]; exact h2)])
        clear h2
        cases ky with
        | true =>
          have HY : Hid (text7 q = text6 q ++ [32, 98, 121, 32, 107, 101, 121]) := Lib.hid (by unfold text7; rw [if_pos HKY.out])
          go_wp2_with fail
          go_ret2
          exact ⟨by
            rw [HX.out, HY.out]
            have := txt_step T8.out (txt_lit [32, 98, 121, 32, 107, 101, 121])
            exact congrArg (fun x => Ending.returned (.tuple #[.string x, .bool true])) this, S9.out.sq.base⟩
        | false =>
          have HY : Hid (text7 q = text6 q) := Lib.hid (by unfold text7; rw [if_neg (by rw [HKY.out]; decide)])
          go_wp2_with fail
          go_ret2
          exact ⟨by
            rw [HX.out, HY.out]
            exact congrArg (fun x => Ending.returned (.tuple #[.string x, .bool true])) T8.out, S9.out.sq.base⟩
    | succ g =>
      have hlt : k < q.src.length := by omega
      have HTN := Lib.hid (names_next q.join q.src k hlt)
      have HI := Lib.hid (HIN.out k hlt)
      obtain ⟨c0, c1, c2, c3, c4, c5, c6, c7, c8, c9⟩ := S5.out.sq.at_.cells
      dsimp only at c2
      obtain ⟨bb, bo, bcap, hvv, _, d0⟩ := (RI.out _ S5.out).num k hlt
      obtain ⟨n, hn⟩ : ∃ n, q.src[k] = n := ⟨_, rfl⟩
      rw [hn] at d0 HI HTN
      obtain ⟨c, hc⟩ : ∃ c, nameAt n.toNat = c := ⟨_, rfl⟩
      have NV : Hid (nameV n = (c, 0)) := Lib.hid (by rw [← hc]; exact if_pos (of_decide_eq_true HI.out))
      have TN : Hid (Txt c (nameT n)) := Lib.hid (by rw [← hc]; exact name_bytes n)
      have nc : c.size ≤ 1 := by rw [TN.out, bytesD_size, name_size HI.out]; omega
      have nb : b.size ≤ 2200 := by have := NB.out; omega
      have NM1 := Lib.hid (NM.out n _ S5.out)
      rw [NV.out] at NM1
      clear c0 c1 c4 c5 c6 c7 c8 c9 hn hc
      cases hvv
      have l1 : (k : Int) < q.src.length := by omega
      by_cases hk0 : k = 0
      · have z1 : decide ((0 : Int) < (k : Int)) = false := decide_eq_false (by omega)
        have z2 : ¬ (0 : Int) < (k : Int) := by omega
        have HK0 := Lib.hid hk0
        clear hk0
        go_wp2_with fail
        refine NM1.out.mono ?_
        rintro e w2 ⟨rfl, rfl⟩
        go_wp2_with fail
        go_roundg g
        case measure => omega
        case rel => exact ⟨k + 1, _, by omega, by go_num, rfl, Lib.hid (by
          show Txt _ (text2 q ++ namesT q.join q.src (k + 1))
          rw [HTN.out, if_pos HK0.out, ← List.append_assoc]
          exact txt_step TB.out TN.out), Lib.hid (by rw [ByteArray.size_append]; have := NB.out; omega), S5⟩
      · have z1 : decide ((0 : Int) < (k : Int)) = true := decide_eq_true (by omega)
        have z2 : (0 : Int) < (k : Int) := by omega
        have HK0 := Lib.hid hk0
        clear hk0
        obtain ⟨j, hj⟩ : ∃ j, q.join = j := ⟨_, rfl⟩
        rw [hj] at c3
        have HJ := Lib.hid hj
        clear hj
        cases j with
        | true =>
          go_wp2_with fail
          refine NM1.out.mono ?_
          rintro e w2 ⟨rfl, rfl⟩
          go_wp2_with fail
          go_roundg g
          case measure => omega
          case rel => exact ⟨k + 1, _, by omega, by go_num, rfl, Lib.hid (by
            show Txt _ (text2 q ++ namesT q.join q.src (k + 1))
            rw [HTN.out, if_neg HK0.out, HJ.out, ← List.append_assoc, ← List.append_assoc]
            exact txt_step (txt_step (by have := TB.out; unfold text3 at this; rwa [HJ.out] at this) (txt_lit [32, 106, 111, 105, 110, 32])) TN.out), Lib.hid (by simp only [ByteArray.size_append]; have : ByteArray.size { data := #[32, 106, 111, 105, 110, 32] } = 6 := rfl; have := NB.out; omega), S5⟩
        | false =>
          go_wp2_with fail
          refine NM1.out.mono ?_
          rintro e w2 ⟨rfl, rfl⟩
          go_wp2_with fail
          go_roundg g
          case measure => omega
          case rel => exact ⟨k + 1, _, by omega, by go_num, rfl, Lib.hid (by
            show Txt _ (text2 q ++ namesT q.join q.src (k + 1))
            rw [HTN.out, if_neg HK0.out, HJ.out, ← List.append_assoc, ← List.append_assoc]
            exact txt_step (txt_step (by have := TB.out; unfold text3 at this; rwa [HJ.out] at this) (txt_lit [32, 117, 110, 105, 111, 110, 32])) TN.out), Lib.hid (by simp only [ByteArray.size_append]; have : ByteArray.size { data := #[32, 117, 110, 105, 111, 110, 32] } = 7 := rfl; have := NB.out; omega), S5⟩
end Go.Proofs.YtdinaedknlkicaaGreatDoor.ParserW
/-
  append of a slice of tokens to a row of tokens of the call's own, whatever slice it is: one law, for a walk and for a region that draws its order.
-/
namespace Go.Proofs.YtdinaedknlkicaaGreatDoor
open Go.ChangeShapes Go.WideShapes Go.ChangeAt Go.RowKit

theorem tok_info : ∃ i0, Tryz.prog.info? 40 = some i0 ∧ i0.zero = some (.agg #[.int .u8 0, .string { data := #[] }, .int .i64 0]) ∧ i0.size = 3 ∧ i0.bytes = 32 := by
  obtain ⟨i0, hi, hz0, hz1, hz2⟩ := info_parts info_tok
  exact ⟨i0, hi, hz0, hz1, hz2⟩
theorem rowCells_join (a b : List Tok) : rowCells (a ++ b) = rowCells a ++ rowCells b := by simp [rowCells, List.flatMap_append]
theorem rowCells_one (l : List Tok) : ∀ u ∈ rowCells l, u.oneCell' = true := by
  intro u hu
  unfold rowCells at hu
  rw [List.mem_flatMap] at hu
  obtain ⟨x, _, hx⟩ := hu
  simp [tokCells] at hx
  rcases hx with rfl | rfl | rfl <;> rfl
theorem toks_cells {w : World} {b o : Nat} {l : List Tok} (h : TokAt w b o l) : ∀ (j : Nat) (u : Value), (rowCells l)[j]? = some u → w.cell? ((⟨b, o, none⟩ : Addr).add j) = some u := by
  intro j u hu
  have hj : j < l.length * 3 := by
    have := (List.getElem?_eq_some_iff.1 hu).1
    rwa [rowCells_len] at this
  have hi : j / 3 < l.length := by omega
  obtain ⟨r0, r1, r2⟩ := rowCells_at l (j / 3) _ (List.getElem?_eq_getElem hi)
  obtain ⟨c0, c1, c2⟩ := h (j / 3) _ (List.getElem?_eq_getElem hi)
  rw [Addr.add_mid]
  have hm : j % 3 = 0 ∨ j % 3 = 1 ∨ j % 3 = 2 := by omega
  rcases hm with hm | hm | hm
  · rw [show j = j / 3 * 3 by omega, r0] at hu
    rw [show o + j = o + j / 3 * 3 by omega, c0, ← hu]
  · rw [show j = j / 3 * 3 + 1 by omega, r1] at hu
    rw [show o + j = o + j / 3 * 3 + 1 by omega, c1, ← hu]
  · rw [show j = j / 3 * 3 + 2 by omega, r2] at hu
    rw [show o + j = o + j / 3 * 3 + 2 by omega, c2, ← hu]
/-- Nothing is appended. -/
theorem append_none (w : World) (ty : TypeId) {base n : Nat} {v : Value} {xs : List Value} (h : w.ownsRow base 40 3 v n xs) (c : Nat) :
    (Builtin.append_ #[36, 36] ty #[v, .slice none 0 c]).run Tryz.prog w = .ok v w := by
  obtain ⟨i0, hi, hz0, hz1, hz2⟩ := tok_info
  rcases h.2 with ⟨rfl, rfl⟩ | ⟨g, cap, cur, rfl, _, _, hnc, _⟩
  · simp [Builtin.append_, run_underlying Tryz.underlying36, sizeOf, typeInfo, hi, Builtin.lenOf, Builtin.firstCells]
  · simp [Builtin.append_, run_underlying Tryz.underlying36, sizeOf, typeInfo, hi, Builtin.lenOf, Builtin.firstCells, hnc, storeCells]
theorem wp_append_toks {o : Oper} {a : Act} {w : World} {K : Act → World → Prop} {Q : Exit → Act → World → Prop} (s x : Operand) (ho : o.op = .call { callee := .builtin .append, args := #[s, x], argTypes := #[36, 36] })
    (base : Nat) (l m : List Tok) (v u : Value) (hs : a.eval s = v) (hx : a.eval x = u) (hown : w.ownsRow base 40 3 v l.length (rowCells l)) (hu : Reads w u m) (hlen : l.length + m.length ≤ 1000000) (hbase : base ≤ w.heap.size)
    (h : ∀ v' w', w'.ownsRow base 40 3 v' (l ++ m).length (rowCells (l ++ m)) → w.grownBy w' v.ownBlock → K (a.put o.dst v') w') : o.wp Tryz.prog a w K Q := by
  obtain ⟨i0, hi, hz0, hz1, hz2⟩ := tok_info
  have law : ∀ (b off c : Nat), u = .slice (some ⟨b, off, none⟩) m.length c → TokAt w b off m → o.wp Tryz.prog a w K Q := fun b off c hu ht => by
    refine wp_append_own w s x _ ho base 40 i0 (.agg #[.int .u8 0, .string { data := #[] }, .int .i64 0]) 3 32 Tryz.underlying36 hi hz0 hz1 hz2 rfl (by decide) v l.length (rowCells l) hs hown ⟨b, off, none⟩ m.length c (rowCells m) (by rw [hx, hu]) (rowCells_len m) (toks_cells ht) (rowCells_one m) (by unfold maxLen; omega) (by omega) hbase fun v' w' h1 h2 _ => h v' w' ?_ h2
    rw [rowCells_join, List.length_append]
    exact h1
  rcases hu with ⟨rfl, ad, c, rfl⟩ | ⟨b, off, c, rfl, _, ht⟩
  · have hn := append_none w o.type hown c
    cases ad with
    | none =>
      unfold Oper.wp execOp
      simp only [ho, resolve, invoke, builtin, Sem.run_bind, Sem.run_pure, Result.andThen_ok, List.map_toArray, List.map_cons, List.map_nil, hs, hx, hn]
      refine h v w ?_ ⟨rfl, rfl, rfl, Nat.le_refl _, fun _ _ _ => rfl⟩
      rw [List.append_nil]
      exact hown
    | some ad =>
      refine wp_append_own w s x _ ho base 40 i0 (.agg #[.int .u8 0, .string { data := #[] }, .int .i64 0]) 3 32 Tryz.underlying36 hi hz0 hz1 hz2 rfl (by decide) v l.length (rowCells l) hs hown ad 0 c [] (by rw [hx]) rfl (fun j u hj => by simp at hj) (fun u hu => by cases hu) (by unfold maxLen; simp at hlen; omega) (by simp at hlen; omega) hbase fun v' w' h1 h2 _ => h v' w' ?_ h2
      rw [List.append_nil] at h1 ⊢
      exact h1
  · exact law b off c rfl ht
theorem wpList_append_toks {ops : Array Oper} {rest : List Oper} {o : Oper} {a : Act} {w : World} {Q : Exit → Act → World → Prop} (hgd : o.guard = none) (s x : Operand) (ho : o.op = .call { callee := .builtin .append, args := #[s, x], argTypes := #[36, 36] })
    (base : Nat) (l m : List Tok) (v u : Value) (hs : a.eval s = v) (hx : a.eval x = u) (hown : w.ownsRow base 40 3 v l.length (rowCells l)) (hu : Reads w u m) (hlen : l.length + m.length ≤ 1000000) (hbase : base ≤ w.heap.size)
    (h : ∀ v' w', w'.ownsRow base 40 3 v' (l ++ m).length (rowCells (l ++ m)) → w.grownBy w' v.ownBlock → wpList Tryz.prog ops Q rest (a.put o.dst v') w') : wpList Tryz.prog ops Q (o :: rest) a w :=
  wpList_plain hgd fun _ hK => wp_append_toks s x ho base l m v u hs hx hown hu hlen hbase fun v' w' h2 h3 => hK _ _ (h v' w' h2 h3)
theorem step_append_toks {ops : Array Oper} {o : Oper} {a : Act} {w : World} {K : Act → World → Prop} {Q : Exit → Act → World → Prop} {E : Prop} (hw : Region.wanted o (yielded ops a.tmps) = true) (s x : Operand) (ho : o.op = .call { callee := .builtin .append, args := #[s, x], argTypes := #[36, 36] })
    (base : Nat) (l m : List Tok) (v u : Value) (hs : a.eval s = v) (hx : a.eval x = u) (hown : w.ownsRow base 40 3 v l.length (rowCells l)) (hu : Reads w u m) (hlen : l.length + m.length ≤ 1000000) (hbase : base ≤ w.heap.size)
    (h : ∀ v' w', w'.ownsRow base 40 3 v' (l ++ m).length (rowCells (l ++ m)) → w.grownBy w' v.ownBlock → K (a.put o.dst v') w') :
    if Region.wanted o (yielded ops a.tmps) = true then Oper.wp Tryz.prog o a w K Q else E := by
  rw [if_pos hw]
  exact wp_append_toks s x ho base l m v u hs hx hown hu hlen hbase h
end Go.Proofs.YtdinaedknlkicaaGreatDoor
/-
  The walk of layer 9's statement ParserExact: a query's text is parsed back, and with one token less it is another one.
-/
namespace Go.Proofs.YtdinaedknlkicaaGreatDoor.ParserW
open Nodes Exprs ExprW Prs
open Go.ChangeShapes Go.WideShapes Go.ChangeAt Go.RowKit

theorem names_len (j : Bool) (l : List Int) (h : l.all inS = true) : ∀ k, k ≤ l.length → (namesT j l k).length ≤ 8 * k := by
  intro k
  induction k with
  | zero => intro _; exact Nat.zero_le _
  | succ k ih =>
    intro hk
    rw [names_next j l k (by omega)]
    have h0 := ih (by omega)
    have h1 := name_size (List.all_eq_true.1 h l[k] (List.getElem_mem (by omega)))
    have h2 : (if k = 0 then ([] : List UInt8) else sepT j).length ≤ 7 := by
      split
      · exact Nat.zero_le _
      · cases j <;> decide
    simp only [List.length_append]
    omega
theorem text_small9 {q : Qy} (h : checkQ q = 0) (ha : Wide q.arg) (hc : Wide q.cond) : (textQ q).length ≤ 5000 := by
  obtain ⟨c1, c2, c3, c4, c5, c6⟩ := checkQ_ok.1 h
  obtain ⟨k0, k4, _, kin, _⟩ := sources_ok.1 c4
  obtain ⟨w1_, w2_, wk⟩ := fitsW_iff.1 (windowV_zero.1 c5)
  have a1 : (aggT q.agg).length ≤ 5 := by
    unfold aggT
    split
    · decide
    · split
      · decide
      · split <;> decide
  have a2 : (argT q).length ≤ 2000 := by
    unfold argT
    split
    · decide
    · rename_i hg
      exact (text_bound (by unfold argV at c2; rwa [if_neg hg] at c2) ha).1
  have a3 := names_len q.join q.src kin q.src.length (Nat.le_refl _)
  have a4 : (kindT q.win.kind).length ≤ 7 := by
    unfold kindT
    split
    · decide
    · split <;> decide
  have a5 := Lib.itoa_length_le q.win.size (by omega) (by omega)
  have a6 := Lib.itoa_length_le q.win.every (by omega) (by omega)
  have t2 : (text2 q).length ≤ 2100 := by unfold text2 text1; simp only [List.length_append, List.length_cons, List.length_nil]; omega
  have t3 : (text3 q q.src.length).length ≤ 2200 := by unfold text3; simp only [List.length_append]; omega
  have t4 : (text4 q).length ≤ 4300 := by
    unfold text4
    split
    · omega
    · rename_i hg
      have := (text_bound (l := q.cond) (by unfold condV at c3; rwa [if_neg hg] at c3) hc).1
      simp only [List.length_append, List.length_cons, List.length_nil]; omega
  have t5 : (text5 q).length ≤ 4400 := by unfold text5; simp only [List.length_append, List.length_cons, List.length_nil]; omega
  have t6 : (text6 q).length ≤ 4500 := by
    unfold text6
    split
    · simp only [List.length_append, List.length_cons, List.length_nil]; omega
    · omega
  have t7 : (text7 q).length ≤ 4600 := by
    unfold text7
    split
    · simp only [List.length_append, List.length_cons, List.length_nil]; omega
    · omega
  unfold textQ
  split
  · simp only [List.length_append, List.length_cons, List.length_nil]; omega
  · omega
theorem toks_take {w : World} {b o cap i : Nat} {ts : List Tok} (hb : b < w.heap.size) (h : TokAt w b o ts) (hi : i ≤ ts.length) : Go.Proofs.YtdinaedknlkicaaGreatDoor.Reads w (.slice (some ⟨b, o, none⟩) i cap) (ts.take i) := by
  refine .inr ⟨b, o, cap, ?_, hb, fun j t hj => ?_⟩
  · rw [List.length_take, Nat.min_eq_left hi]
  · rw [List.getElem?_take] at hj
    split at hj
    · exact h j t hj
    · cases hj
theorem toks_drop {w : World} {b o C k : Nat} {ts : List Tok} (hb : b < w.heap.size) (h : TokAt w b o ts) (hC : ts.length ≤ C) : Go.Proofs.YtdinaedknlkicaaGreatDoor.Reads w (.slice (if C = k then some ⟨b, o, none⟩ else some ⟨b, o + k * 3, none⟩) (ts.length - k) (C - k)) (ts.drop k) := by
  by_cases hk : C = k
  · rw [if_pos hk]
    have e : ts.drop k = [] := List.drop_eq_nil_of_le (by omega)
    rw [e]
    exact .inl ⟨rfl, _, _, by rw [show ts.length - k = 0 by omega]⟩
  · rw [if_neg hk]
    refine .inr ⟨b, o + k * 3, C - k, by rw [List.length_drop], hb, fun j t hj => ?_⟩
    rw [List.getElem?_drop] at hj
    have := h (k + j) t hj
    rwa [show o + (k + j) * 3 = o + k * 3 + j * 3 by omega] at this
theorem own_toks {w : World} {base : Nat} {v : Value} {ts : List Tok} (h : w.ownsRow base 40 3 v ts.length (rowCells ts)) (hp : 0 < ts.length) :
    ∃ g cap, v = .slice (some ⟨g, 0, none⟩) ts.length cap ∧ ts.length ≤ cap ∧ g < w.heap.size ∧ TokAt w g 0 ts := by
  have hr := own_reads h
  rcases h.2 with ⟨rfl, h0⟩ | ⟨g, cap, cur, rfl, hb, hg, hnc, _⟩
  · omega
  · rcases hr with ⟨h0, _⟩ | ⟨b, o, c, e, hb2, ht⟩
    · rw [h0] at hp; simp at hp
    · cases e
      exact ⟨_, _, rfl, hnc, hb2, ht⟩
theorem same_of {p q : Qy} (hp : checkQ p = 0) (hq : checkQ q = 0) (h : alikeQ p q = true) : sameQ p q = (true, 0) := by rw [sameQ_is hp hq, h]
set_option maxRecDepth 100000 in
set_option maxHeartbeats 8000000 in
theorem exact_walk (s : Sl) (q : Qy) (at_ : Int) (w : World) (hf : ParFix w) (hR : ReadsQ w s q) (ha : Wide q.arg) (hc : Wide q.cond) (h63 : at_ ≤ 9223372036854775807) :
    Calls Tryz.prog 6 #[qyVal s q, .int .i64 at_] w fun e w' => e = .returned (.bool true) ∧ Below w.heap.size w w' := by
  have F := Lib.hid hf
  have AL := Lib.hid (fun W (h : Below w.heap.size w W) => alive_any W (F.out.below h))
  have S0 := Lib.hid ((SL.nil w).box w.heap.size rfl s q)
  have GR := Lib.hid (fun (W : World) (h : Below w.heap.size w W) => refGreat_any s q W (hR.below h))
  obtain ⟨gq, hgq⟩ : ∃ gq, greatQ q = gq := ⟨_, rfl⟩
  rw [hgq] at GR
  have hR0 := Lib.hid hR
  obtain ⟨sa, ss, sc⟩ := s
  obtain ⟨ada, capa, e1⟩ := hR.arg.shape
  obtain ⟨ads, caps, e2⟩ := hR.src.shape
  obtain ⟨adc, capc, e3⟩ := hR.cond.shape
  simp only at e1 e2 e3
  subst e1 e2 e3
  unfold qyVal qyRow at GR ⊢
  dsimp only at GR ⊢
  clear hR
  obtain ⟨c0, c1, c2, c3, c4, c5, c6, c7, c8, c9⟩ := S0.out.at0.cells
  dsimp only at c1 c2 c4
  by_cases hg : gq = true
  · subst hg
    clear hgq
    clear c0 c1 c2 c3 c4 c5 c6 c7 c8 c9
    go_enter Tryz.func6, Tryz.ntmps6
    go_wp2_with fail
    refine (GR.out _ S0.out.base).mono ?_
    rintro e w1 ⟨rfl, hb⟩
    have S1 := Lib.hid (S0.out.below hb)
    clear hb
    go_wp2_with fail
    refine (AL.out _ S1.out.base).mono ?_
    rintro e w2 ⟨rfl, hb⟩
    have B2 := Lib.hid (below_step S1.out.base hb)
    clear hb
    go_wp2_with fail
    go_ret
    exact ⟨rfl, B2.out⟩
  obtain rfl : gq = false := by simpa using hg
  obtain ⟨n1, n2, n3⟩ := great_small hgq
  have CK := Lib.hid (fun (W : World) (h : Below w.heap.size w W) => refCheckQ_any _ q W (hR0.out.below h) (by omega) (by omega) (by omega))
  unfold qyVal qyRow at CK
  dsimp only at CK
  obtain ⟨ck, hck⟩ : ∃ ck, checkQ q = ck := ⟨_, rfl⟩
  rw [hck] at CK
  clear hg hgq
  clear c0 c1 c2 c3 c4 c5 c6 c7 c8 c9
  by_cases h0 : ck = 0
  case neg =>
    have q1 : (ck != 0) = true := by rw [bne_iff_ne]; exact h0
    clear hck h0
    go_enter Tryz.func6, Tryz.ntmps6
    go_wp2_with fail
    refine (GR.out _ S0.out.base).mono ?_
    rintro e w1 ⟨rfl, hb⟩
    have S1 := Lib.hid (S0.out.below hb)
    clear hb
    obtain ⟨c0, c1, c2, c3, c4, c5, c6, c7, c8, c9⟩ := S1.out.at0.cells
    dsimp only at c1 c2 c4
    go_wp2_with fail
    refine (CK.out _ S1.out.base).mono ?_
    rintro e w2 ⟨rfl, hb⟩
    have S2 := Lib.hid (S1.out.below hb)
    clear hb c0 c1 c2 c3 c4 c5 c6 c7 c8 c9
    go_wp2_with fail
    refine (AL.out _ S2.out.base).mono ?_
    rintro e w3 ⟨rfl, hb⟩
    have B2 := Lib.hid (below_step S2.out.base hb)
    clear hb
    go_wp2_with fail
    go_ret
    exact ⟨rfl, B2.out⟩
  subst h0
  by_cases hneg : at_ < 0
  · have d1 : decide (at_ < 0) = true := decide_eq_true hneg
    clear hck
    go_enter Tryz.func6, Tryz.ntmps6
    go_wp2_with fail
    refine (GR.out _ S0.out.base).mono ?_
    rintro e w1 ⟨rfl, hb⟩
    have S1 := Lib.hid (S0.out.below hb)
    clear hb
    obtain ⟨c0, c1, c2, c3, c4, c5, c6, c7, c8, c9⟩ := S1.out.at0.cells
    dsimp only at c1 c2 c4
    go_wp2_with fail
    refine (CK.out _ S1.out.base).mono ?_
    rintro e w2 ⟨rfl, hb⟩
    have S2 := Lib.hid (S1.out.below hb)
    clear hb c0 c1 c2 c3 c4 c5 c6 c7 c8 c9
    go_wp2_with fail
    refine (AL.out _ S2.out.base).mono ?_
    rintro e w3 ⟨rfl, hb⟩
    have B2 := Lib.hid (below_step S2.out.base hb)
    clear hb
    go_wp2_with fail
    go_ret
    exact ⟨rfl, B2.out⟩
  have d1 : decide (at_ < 0) = false := decide_eq_false hneg
  have LAW := exact_law hck ha hc
  have hsm := text_small9 hck ha hc
  obtain ⟨t, ht⟩ : ∃ t : ByteArray, ⟨(textQ q).toArray⟩ = t := ⟨_, rfl⟩
  have htl : t.data.toList = textQ q := by rw [← ht]
  have hts : t.size = (textQ q).length := by rw [← htl]; simp
  have WR := Lib.hid (fun (W : World) (h : Below w.heap.size w W) => written_any _ q W (F.out.below h) (hR0.out.below h) hck ha hc)
  unfold qyVal qyRow at WR
  dsimp only at WR
  rw [ht] at WR
  obtain ⟨l1, l2, l3, l4, l5, l6, _, _⟩ := LAW
  rw [← htl] at l1 l2 l3 l4 l5 l6 hsm
  have hsz : t.data.toList.length = t.size := by simp
  rw [hsz] at l1 l2 l3 hsm
  have psm := parse_small t.data.toList
  have hsh := all_short9 t.data.toList
  have hok := all_ok_ts t.data.toList
  have A := Lib.hid (fun W (hW : LexFix W) => lexAll_any t (by unfold maxLen; omega) W hW)
  obtain ⟨ts, hts2⟩ : ∃ ts, (allV t.data.toList).1 = ts := ⟨_, rfl⟩
  obtain ⟨an, han⟩ : ∃ n, (allV t.data.toList).2.1 = n := ⟨_, rfl⟩
  obtain ⟨ae, hae⟩ : ∃ e, (allV t.data.toList).2.2 = e := ⟨_, rfl⟩
  obtain ⟨p, pn, pe, hp⟩ : ∃ p n e, parseP t.data.toList = (p, n, e) := ⟨_, _, _, rfl⟩
  have hbad := parseP_bad (s := t.data.toList)
  have P := Lib.hid (fun W (hW : ParFix W) => parse_out t (by unfold maxLen; omega) p pn pe hp W hW)
  unfold AllEnds at A
  rw [hts2, han, hae] at A
  rw [hp] at l3 l4 psm hbad
  rw [hts2] at hsh hok
  rw [han, hae] at hbad
  simp only [hts2, hae] at l2 l3 l4 l5 l6
  simp only at psm
  obtain ⟨m1, m2, m3⟩ := psm
  have L1 : Hid (400 < t.size → (parseP t.data.toList).2 = (0, 4) ∧ (parseP t.data.toList).1.src.length = 0) := Lib.hid (fun h => by
    have e := l1 h
    have := parseP_bad (s := t.data.toList) (by rw [e]; decide)
    rw [this, e]
    exact ⟨rfl, rfl⟩)
  have L2 : Hid (t.size ≤ 400 → ae = 4 ∨ ae = 0) := Lib.hid l2
  have LB : Hid (ae ≠ 0 → (parseP t.data.toList).2 = ((an : Int), ae) ∧ (parseP t.data.toList).1.src.length = 0) := Lib.hid (fun h => by
    have := hbad h
    rw [hp, this]
    exact ⟨rfl, rfl⟩)
  have L3 := Lib.hid l3
  have L4 := Lib.hid l4
  have L5 := Lib.hid l5
  have L6 := Lib.hid l6
  have HOK := Lib.hid hok
  have HCK := Lib.hid hck
  have HSM := Lib.hid hsm
  have hle3 := hsh.1
  have HSH := Lib.hid hsh.2
  clear l1 l2 l3 l4 l5 l6 hbad hp han hae hts2 htl ht hts hck hok hf hsz hsm hsh ha hc
  go_enter Tryz.func6, Tryz.ntmps6
  go_wp2_with fail
  refine (GR.out _ S0.out.base).mono ?_
  rintro e w1 ⟨rfl, hb⟩
  have S1 := Lib.hid (S0.out.below hb)
  clear hb
  obtain ⟨c0, c1, c2, c3, c4, c5, c6, c7, c8, c9⟩ := S1.out.at0.cells
  dsimp only at c1 c2 c4
  go_wp2_with fail
  refine (CK.out _ S1.out.base).mono ?_
  rintro e w2 ⟨rfl, hb⟩
  have S2 := Lib.hid (S1.out.below hb)
  clear hb c0 c1 c2 c3 c4 c5 c6 c7 c8 c9
  obtain ⟨c0, c1, c2, c3, c4, c5, c6, c7, c8, c9⟩ := S2.out.at0.cells
  dsimp only at c1 c2 c4
  go_wp2_with fail
  refine (WR.out _ S2.out.base).mono ?_
  rintro e w3 ⟨rfl, hb⟩
  have S3 := Lib.hid (S2.out.below hb)
  clear hb c0 c1 c2 c3 c4 c5 c6 c7 c8 c9
  by_cases hlong : 400 < t.size
  · have z1 : decide ((400 : Int) < (t.size : Int)) = true := decide_eq_true (by omega)
    have z2 : (400 : Int) < (t.size : Int) := by omega
    have FL := Lib.hid (fails_is t 0 4 (by have := HSM.out; omega) (L1.out hlong) w3 (F.out.below S3.out.base))
    clear hlong
    go_wp2_with fail
    refine FL.out.mono ?_
    rintro e w4 ⟨rfl, hb⟩
    have S4 := Lib.hid (S3.out.below hb)
    clear hb
    go_wp2_with fail
    refine (AL.out _ S4.out.base).mono ?_
    rintro e w5 ⟨rfl, hb⟩
    have B5 := Lib.hid (below_step S4.out.base hb)
    clear hb
    go_wp2_with fail
    go_ret
    exact ⟨rfl, B5.out⟩
  have z1 : decide ((400 : Int) < (t.size : Int)) = false := decide_eq_false (by omega)
  have z2 : ¬ (400 : Int) < (t.size : Int) := by omega
  have z3 : t.size ≤ 400 := by omega
  clear hlong
  go_wp2_with fail
  refine (A.out _ (F.out.below S3.out.base).1.1).mono ?_
  rintro e w4 ⟨v, rfl, ho, hb, _⟩
  obtain ⟨av, acap, rfl⟩ := own_shape ho
  have S4 := Lib.hid (S3.out.below hb)
  clear hb
  rcases L2.out z3 with rfl | rfl
  · have FL := Lib.hid (fails_is t an 4 (by have := HSM.out; omega) (LB.out (by decide)) w4 (F.out.below S4.out.base))
    clear ho
    go_wp2_with fail
    refine FL.out.mono ?_
    rintro e w5 ⟨rfl, hb⟩
    have S5 := Lib.hid (S4.out.below hb)
    clear hb
    go_wp2_with fail
    refine (AL.out _ S5.out.base).mono ?_
    rintro e w6 ⟨rfl, hb⟩
    have B6 := Lib.hid (below_step S5.out.base hb)
    clear hb
    go_wp2_with fail
    go_ret
    exact ⟨rfl, B6.out⟩
  have h4 := L5.out rfl
  obtain ⟨g, cap, ev, hcap, hgl, htk⟩ := own_toks ho (by omega)
  have TK : Hid (∀ W, Below w4.heap.size w4 W → g < W.heap.size ∧ TokAt W g 0 ts) := Lib.hid (fun W h => ⟨Nat.lt_of_lt_of_le hgl h.size, htk.below hgl h⟩)
  cases ev
  clear ho htk hgl
  obtain ⟨r3, r4⟩ := L3.out rfl
  obtain ⟨r5, r6⟩ := L4.out rfl

  subst r3 r4
  have R5 := Lib.hid r5
  have R6 := Lib.hid r6
  clear r5 r6
  go_wp2_with fail
  refine (P.out _ (F.out.below S4.out.base)).mono ?_
  rintro e w5 ⟨x1, y1, x2, y2, x3, y3, rfl, hr, hb⟩
  have S5 := Lib.hid ((S4.out.below hb).box w5.heap.size rfl ⟨.slice x1 p.arg.length y1, .slice x2 p.src.length y2, .slice x3 p.cond.length y3⟩ p)
  have B45 := Lib.hid (hb.alloc hb.size (qyBox ⟨.slice x1 p.arg.length y1, .slice x2 p.src.length y2, .slice x3 p.cond.length y3⟩ p))
  have RP := Lib.hid (hr.below (refl_alloc9 w5 (qyBox ⟨.slice x1 p.arg.length y1, .slice x2 p.src.length y2, .slice x3 p.cond.length y3⟩ p)))
  have SA0 := clSame_any _ _ p q _ (F.out.below S5.out.base).2 RP.out (hR0.out.below S5.out.base) (by omega) (by omega) (by omega) (by omega) (by omega) (by omega)
  rw [same_of R6.out HCK.out R5.out] at SA0
  have SA := Lib.hid SA0
  clear hr hb SA0
  obtain ⟨d0, d1_, d2, d3, d4, d5, d6, d7, d8, d9⟩ := S5.out.at0.cells
  obtain ⟨c0, c1, c2, c3, c4, c5, c6, c7, c8, c9⟩ := S5.out.at1.cells
  dsimp only at c1 c2 c4 d1_ d2 d4
  unfold qyVal qyRow at SA
  dsimp only at SA
  have q3 : ((ts.length : Int) == 0) = false := by rw [beq_eq_false_iff_ne]; omega
  have hn0 : ¬ (ts.length : Int) = 0 := by omega
  obtain ⟨i, hi⟩ : ∃ i : Nat, at_ % (ts.length : Int) = i := ⟨(at_ % (ts.length : Int)).toNat, by have := Int.emod_nonneg at_ hn0; omega⟩
  have hiN : i < ts.length := by have := Int.emod_lt_of_pos at_ (show (0 : Int) < ts.length by omega); omega
  go_wp2_with fail
  refine SA.out.mono ?_
  rintro e w6 ⟨rfl, hb⟩
  have S6 := Lib.hid (S5.out.below hb)
  have RP6 := Lib.hid (RP.out.below hb)
  have B46 := Lib.hid (below_step B45.out hb)
  clear hb c0 c1 c2 c3 c4 c5 c6 c7 c8 c9 d0 d1_ d2 d3 d4 d5 d6 d7 d8 d9
  go_upto_region 18 with fail
  rw [hi]
  obtain ⟨k, hk⟩ : ∃ k, i + 1 = k := ⟨_, rfl⟩
  have wk : IntKind.i64.wrap ((i : Int) + 1) = (k : Int) := by rw [IntKind.wrap_i64]; omega
  have b1 : (0 : Int) ≤ (i : Int) := by omega
  have b2 : (i : Int) ≤ (acap : Int) := by omega
  have b3 : (0 : Int) ≤ (k : Int) := by omega
  have b4 : (k : Int) ≤ (ts.length : Int) := by omega
  have b5 : (ts.length : Int) ≤ (acap : Int) := by omega
  have b6 : i ≤ acap := by omega
  have b7 : k ≤ ts.length := by omega
  have b8 : k ≤ acap := by omega
  have b9 : (k : Int) ≤ (acap : Int) := by omega
  obtain ⟨M, hM⟩ : ∃ M, ts.take i ++ ts.drop k = M := ⟨_, rfl⟩
  have hMl : M.length ≤ 200 := by rw [← hM, List.length_append, List.length_take, List.length_drop]; omega
  have hMv : ∀ t ∈ M, validT t = true ∧ t.text.length ≤ 281474976710656 := fun t htm => by
    rw [← hM] at htm
    rcases List.mem_append.1 htm with h | h
    · exact ⟨(HOK.out.2 t (List.mem_of_mem_take h)).1, HSH.out t (List.mem_of_mem_take h)⟩
    · exact ⟨(HOK.out.2 t (List.mem_of_mem_drop h)).1, HSH.out t (List.mem_of_mem_drop h)⟩
  have hless := L6.out trivial i hiN
  rw [hk, hM] at hless
  obtain ⟨jl, je, hj⟩ : ∃ jl je, joinV M = (jl, je) := ⟨_, _, rfl⟩
  have hjok : je = 0 → (allV jl).2.2 = 0 := fun h => by
    have := (join_ok (ts := M) (fun t ht => (hMv t ht).1) (by rw [hj]; exact h)).1
    rwa [hj] at this
  rw [hj] at hless
  simp only at hless
  have JN := Lib.hid (fun (v : Value) (W : World) (h : Below w4.heap.size w4 W) (hr : Go.Proofs.YtdinaedknlkicaaGreatDoor.Reads W v M) => lexJoin_any v M W ((F.out.below S4.out.base).1.1.below h) hr (by omega) (fun t ht => (hMv t ht).2))
  unfold JoinEnds at JN
  rw [hj] at JN
  dsimp only at JN
  obtain ⟨ju, hju⟩ : ∃ ju : ByteArray, ⟨jl.toArray⟩ = ju := ⟨_, rfl⟩
  have hjl : ju.data.toList = jl := by rw [← hju]
  rw [hju] at JN
  have HLS := Lib.hid hless
  have HJK := Lib.hid hjok
  have HJL := Lib.hid hjl
  have HM := Lib.hid hM
  clear hless hjok hjl hM hj hju hMv
  obtain ⟨hgb, htk6⟩ := TK.out _ B46.out
  have U0 : Hid (Below w6.heap.size w6 (w6.alloc (Obj.cells #[] 40)).drew) := Lib.hid (Below.drew (refl_alloc9 _ _))
  have O0 : Hid ((w6.alloc (Obj.cells #[] 40)).drew.ownsRow w6.heap.size 40 3 (.slice (some ⟨w6.heap.size, 0, none⟩) 0 0) 0 []) := Lib.hid (World.ownsRow_made (base := w6.heap.size) (size := 3) (e := 40) w6 #[] 0 (Nat.le_refl _) (Nat.zero_le _) rfl).drew
  have RT : Hid (∀ W, Below w6.heap.size w6 W → Go.Proofs.YtdinaedknlkicaaGreatDoor.Reads W (.slice (some ⟨g, 0, none⟩) i acap) (ts.take i)) := Lib.hid (fun W h => (toks_take hgb htk6 (by omega)).below h)
  have RD : Hid (∀ W, Below w6.heap.size w6 W → Go.Proofs.YtdinaedknlkicaaGreatDoor.Reads W (.slice (if acap = k then some ⟨g, 0, none⟩ else some ⟨g, 0 + k * 3, none⟩) (ts.length - k) (acap - k)) (ts.drop k)) := Lib.hid (fun W h => (toks_drop hgb htk6 hcap).below h)
  have HT1 : Hid ((ts.take i).length ≤ 200 ∧ (ts.drop k).length ≤ 200) := Lib.hid (by rw [List.length_take, List.length_drop]; omega)
  clear hgb htk6 hi
  go_cut [16, 17] from 101 (fun s16 s17 wx => s16 = .string ju ∧ s17 = .int .i64 je ∧ Hid (Below w6.heap.size w6 wx))
  case first =>
    have HK := Lib.hid hk
    clear hk
    by_cases hx : acap = k
    · subst hx
      have RE : Hid (∀ (W : World) (ad : Option Addr) (c : Nat), Go.Proofs.YtdinaedknlkicaaGreatDoor.Reads W (.slice ad 0 c) (ts.drop acap)) := Lib.hid (fun W ad c => .inl ⟨List.drop_eq_nil_of_le (by omega), _, _, rfl⟩)
      go_region_law (first
        | (refine step_append_toks (by rfl) (.tmp 102) (.tmp 105) rfl w6.heap.size [] (ts.take i) (.slice (some ⟨w6.heap.size, 0, none⟩) 0 0) _ rfl rfl O0.out (RT.out _ U0.out) (by have := HT1.out; simp only [List.length_nil]; omega) U0.out.size ?_; intro v1 w7 own1 grow1; have U1 := Lib.hid (grown_own_below O0.out U0.out grow1); have O1 : Hid (w7.ownsRow w6.heap.size 40 3 v1 (ts.take i).length (rowCells (ts.take i))) := Lib.hid own1; clear own1 grow1)
        | (refine step_append_toks (by rfl) (.tmp 106) (.tmp 110) rfl w6.heap.size (ts.take i) (ts.drop acap) v1 _ rfl rfl O1.out (RE.out _ _ _) (by have := HT1.out; omega) U1.out.size ?_; intro v2 w8 own2 grow2; have U2 := Lib.hid (grown_own_below O1.out U1.out grow2); rw [HM.out] at own2; have RM := Lib.hid (own_reads own2); clear own2 grow2)
        | (go_simp; go_at_call 16; refine (JN.out _ _ (below_step B46.out U2.out) RM.out).mono ?_; rintro e w9 ⟨rfl, hb⟩))
      all_goals
        have U3 := Lib.hid (below_step U2.out hb)
        clear hb
        go_wp2_with fail
        go_meet
        case rel => exact ⟨rfl, rfl, U3⟩
    · rw [if_neg hx, Nat.zero_add] at RD
      go_region_law (first
        | (refine step_append_toks (by rfl) (.tmp 102) (.tmp 105) rfl w6.heap.size [] (ts.take i) (.slice (some ⟨w6.heap.size, 0, none⟩) 0 0) _ rfl rfl O0.out (RT.out _ U0.out) (by have := HT1.out; simp only [List.length_nil]; omega) U0.out.size ?_; intro v1 w7 own1 grow1; have U1 := Lib.hid (grown_own_below O0.out U0.out grow1); have O1 : Hid (w7.ownsRow w6.heap.size 40 3 v1 (ts.take i).length (rowCells (ts.take i))) := Lib.hid own1; clear own1 grow1)
        | (refine step_append_toks (by rfl) (.tmp 106) (.tmp 110) rfl w6.heap.size (ts.take i) (ts.drop k) v1 _ rfl rfl O1.out (RD.out _ U1.out) (by have := HT1.out; omega) U1.out.size ?_; intro v2 w8 own2 grow2; have U2 := Lib.hid (grown_own_below O1.out U1.out grow2); rw [HM.out] at own2; have RM := Lib.hid (own_reads own2); clear own2 grow2)
        | (go_simp; go_at_call 16; refine (JN.out _ _ (below_step B46.out U2.out) RM.out).mono ?_; rintro e w9 ⟨rfl, hb⟩))
      all_goals
        have U3 := Lib.hid (below_step U2.out hb)
        clear hb
        go_wp2_with fail
        go_meet
        case rel => exact ⟨rfl, rfl, U3⟩
  case rest =>
  obtain ⟨rfl, rfl, U3⟩ := hcut
  have S7 := Lib.hid (S6.out.below U3.out)
  clear RT RD O0 U0 hk
  rcases HLS.out with rfl | ⟨rfl, hl⟩
  · go_wp2_with fail
    refine (AL.out _ S7.out.base).mono ?_
    rintro e w8 ⟨rfl, hb⟩
    have B8 := Lib.hid (below_step S7.out.base hb)
    clear hb
    go_wp2_with fail
    go_ret
    exact ⟨rfl, B8.out⟩
  obtain ⟨r, rn, re, hr⟩ : ∃ r n e, parseP jl = (r, n, e) := ⟨_, _, _, rfl⟩
  have hjs : ju.size ≤ 400 := by
    have := all_len (HJK.out rfl)
    rw [← HJL.out] at this
    simpa using this
  have P2 := Lib.hid (fun W (hW : ParFix W) => parse_out ju (by unfold maxLen; omega) r rn re (by rw [HJL.out]; exact hr) W hW)
  have rsm := parse_small jl
  rw [hr] at hl rsm
  simp only at hl rsm
  obtain ⟨o1, o2, o3⟩ := rsm
  have HL := Lib.hid hl
  clear hr hl HLS
  go_wp2_with fail
  refine (P2.out _ (F.out.below S7.out.base)).mono ?_
  rintro e w8 ⟨u1, z1_, u2, z2_, u3, z3_, rfl, hr, hb⟩
  have S8 := Lib.hid ((S7.out.below hb).box w8.heap.size rfl ⟨.slice u1 r.arg.length z1_, .slice u2 r.src.length z2_, .slice u3 r.cond.length z3_⟩ r)
  have RR := Lib.hid (hr.below (refl_alloc9 w8 (qyBox ⟨.slice u1 r.arg.length z1_, .slice u2 r.src.length z2_, .slice u3 r.cond.length z3_⟩ r)))
  have EA0 := refAlikeQ_any _ _ r q _ RR.out (hR0.out.below S8.out.base) (by omega) (by omega) (by omega)
  unfold qyVal qyRow at EA0
  dsimp only at EA0
  obtain ⟨d0, d1_, d2, d3, d4, d5, d6, d7, d8, d9⟩ := S8.out.at0.cells
  obtain ⟨c0, c1, c2, c3, c4, c5, c6, c7, c8, c9⟩ := S8.out.at2.cells
  dsimp only at c1 c2 c4 d1_ d2 d4
  clear hr hb
  by_cases he2 : re = 0
  · have HF : alikeQ r q = false := by
      rcases HL.out with h | h
      · exact absurd he2 h
      · exact h
    rw [HF] at EA0
    have EA := Lib.hid EA0
    have q9 : (re != 0) = false := by rw [bne_eq_false_iff_eq]; exact he2
    clear he2 EA0 HF
    go_wp2_with fail
    refine EA.out.mono ?_
    rintro e w9 ⟨rfl, hb⟩
    have B9 := Lib.hid (below_step S8.out.base hb)
    clear hb
    go_wp2_with fail
    refine (AL.out _ B9.out).mono ?_
    rintro e w10 ⟨rfl, hb⟩
    have B10 := Lib.hid (below_step B9.out hb)
    clear hb
    go_wp2_with fail
    go_ret
    exact ⟨rfl, B10.out⟩
  · have q9 : (re != 0) = true := by rw [bne_iff_ne]; exact he2
    clear he2 EA0
    go_wp2_with fail
    refine (AL.out _ S8.out.base).mono ?_
    rintro e w9 ⟨rfl, hb⟩
    have B9 := Lib.hid (below_step S8.out.base hb)
    clear hb
    go_wp2_with fail
    go_ret
    exact ⟨rfl, B9.out⟩
end Go.Proofs.YtdinaedknlkicaaGreatDoor.ParserW
/-
  The walk of layer 9's statement ParserExact from its arguments' readings.
-/
namespace Go.Proofs.YtdinaedknlkicaaGreatDoor.ParserW
open Nodes Exprs ExprW Prs
open Go.ChangeShapes Go.WideShapes Go.ChangeAt Go.RowKit Go.Deep

set_option maxRecDepth 100000 in
theorem exact_from {H : Type} {enc : TypeId × Value → H} {w : World} {r : Reach} {base base2 : Nat} {sp : Nat → Bool} {held : Bool} {v0 : Value} {d0 : DataW H} {p0 : List MemPlace} (hf : ParFix w) (hw0 : Value.okWide Tryz.prog w r base 28 v0) (h0 : DataW.Trod enc Tryz.prog w base2 sp held 28 v0 d0 p0) (at_ : Int) (hat : at_ ≤ 9223372036854775807) :
    Calls Tryz.prog 6 #[v0, .int .i64 at_] w fun e w' => e = .returned (.bool true) ∧ Below w.heap.size w w' := by
  obtain ⟨s0, q0, rfl, r0, k0, k1⟩ := open_query9 h0 hw0
  exact exact_walk s0 q0 at_ w hf r0 k0 k1 hat
end Go.Proofs.YtdinaedknlkicaaGreatDoor.ParserW

/-
  Arguments opened: a list of tokens, a list of truth values, as the walks of layer 3's statements read them.
-/
import Derived.Test.YtighmcooilcmfaaDoorRefToks
import Derived.Deep.Slices
import Derived.Deep.Fields
namespace Go.Proofs.YtighmcooilcmfaaDoor
open Go.ChangeShapes Go.WideShapes Go.ChangeAt Go.RowKit Go.Deep

theorem spot_none {w : World} {a : Addr} {v : Value} (h : w.cell? a = some v) : a.spot = none := by
  unfold World.cell? at h
  split at h
  · split at h
    · cases h
    · rename_i hs
      cases hq : a.spot with
      | none => rfl
      | some x => rw [hq] at hs; simp at hs
  · cases h
theorem block_of_cell {w : World} {a : Addr} {v : Value} (h : w.cell? a = some v) : a.block < w.heap.size := by
  rcases Nat.lt_or_ge a.block w.heap.size with h' | h'
  · exact h'
  · unfold World.cell? at h
    rw [Array.getElem?_eq_none h'] at h
    cases h
theorem cTok : Tryd.prog.cellsOf 30 = 3 := by kernel_rfl
theorem cU8 : Tryd.prog.cellsOf 5 = 1 := by kernel_rfl
theorem cInt : Tryd.prog.cellsOf 3 = 1 := by kernel_rfl
theorem cText : Tryd.prog.cellsOf 9 = 1 := by kernel_rfl
theorem cBool : Tryd.prog.cellsOf 4 = 1 := by kernel_rfl
/-- Three cells that read as a token hold one. -/
theorem open_tok {H : Type} {enc : TypeId × Value → H} {w : World} {base n : Nat} {sp : Nat → Bool} {held : Bool} {cs : List Value} {x : DataW H × List MemPlace} (h : DataW.trod enc Tryd.prog w base sp held n 30 cs = some x) :
    ∃ t : Tok, cs[0]? = some (.int .u8 t.kind) ∧ cs[1]? = some (.string ⟨t.text.toArray⟩) ∧ cs[2]? = some (.int .i64 t.at_) := by
  obtain ⟨ys, m, _, _, hl, hyl, hf⟩ := DataW.trod_struct Tryd.underlying30 h
  have h0 : DataW.trod enc Tryd.prog w base sp held m 5 ((cs.drop 0).take (Tryd.prog.cellsOf 5)) = ys[0]? := hf 0 _ rfl
  have h1 : DataW.trod enc Tryd.prog w base sp held m 9 ((cs.drop 1).take (Tryd.prog.cellsOf 9)) = ys[1]? := hf 1 _ rfl
  have h2 : DataW.trod enc Tryd.prog w base sp held m 3 ((cs.drop 2).take (Tryd.prog.cellsOf 3)) = ys[2]? := hf 2 _ rfl
  have hlen : ys.length = 3 := hyl
  rw [List.getElem?_eq_getElem (by omega)] at h0 h1 h2
  rw [cU8] at h0
  rw [cText] at h1
  rw [cInt] at h2
  obtain ⟨z, e0, _⟩ := DataW.trod_int Tryd.underlying5 h0
  obtain ⟨s, e1, _⟩ := DataW.trod_string Tryd.underlying9 h1
  obtain ⟨q, e2, _⟩ := DataW.trod_int Tryd.underlying3 h2
  refine ⟨⟨z, q, s.data.toList⟩, ?_, ?_, ?_⟩
  · have := congrArg (·[0]?) e0
    simpa [List.getElem?_take, List.getElem?_drop] using this
  · have hs : (⟨s.data.toList.toArray⟩ : ByteArray) = s := by
      apply ByteArray.ext
      simp
    show cs[1]? = some (.string ⟨s.data.toList.toArray⟩)
    rw [hs]
    have := congrArg (·[0]?) e1
    simpa [List.getElem?_take, List.getElem?_drop] using this
  · have := congrArg (·[0]?) e2
    simpa [List.getElem?_take, List.getElem?_drop] using this
theorem add_at (a : Addr) (hs : a.spot = none) (k : Nat) : a.add k = ⟨a.block, a.off + k, none⟩ := by
  unfold Addr.add
  split
  · rename_i h; subst h; cases a; simp at hs; subst hs; rfl
  · rfl
set_option maxRecDepth 100000 in
/-- A list of tokens. -/
theorem open_toks {H : Type} {enc : TypeId × Value → H} {w : World} {r : Reach} {base base2 : Nat} {sp : Nat → Bool} {held : Bool} {v : Value} {d : DataW H} {p : List MemPlace} (hw : Value.okWide Tryd.prog w r base 28 v) (h : DataW.Trod enc Tryd.prog w base2 sp held 28 v d p) :
    ∃ ts, Reads w v ts ∧ ts.length ≤ 9223372036854775807 := by
  obtain ⟨ad, len, cap, rfl⟩ := okWide_slice Tryd.underlying28 hw
  obtain ⟨fuel, hf⟩ := h
  rcases open_slice Tryd.underlying28 hf with ⟨h0, _⟩ | ⟨a, len', cap', m, n, D, Pl, hcs, hb, hlc, hcm, hm, _, hi⟩
  · have e : ad = none ∧ len = 0 ∧ cap = 0 := by simpa [Value.cells] using h0
    obtain ⟨rfl, rfl, rfl⟩ := e
    exact ⟨[], .inl ⟨rfl, _, _, rfl⟩, Nat.zero_le _⟩
  · have e : ad = some a ∧ len = len' ∧ cap = cap' := by simpa [Value.cells] using hcs
    obtain ⟨rfl, rfl, rfl⟩ := e
    have hlm : len ≤ m := by rw [hm]; split <;> omega
    have hcells : ∀ i, i < len → ∃ t : Tok, w.cell? ((a.add (i * 3)).add 0) = some (.int .u8 t.kind) ∧ w.cell? ((a.add (i * 3)).add 1) = some (.string ⟨t.text.toArray⟩) ∧ w.cell? ((a.add (i * 3)).add 2) = some (.int .i64 t.at_) := by
      intro i hil
      obtain ⟨cs', hc, ht⟩ := hi i (by omega)
      rw [cTok] at hc
      obtain ⟨_, hlen, hat⟩ := World.cells?_some hc
      obtain ⟨t, t0, t1, t2⟩ := open_tok ht
      exact ⟨t, (hat 0 (by omega)).trans t0, (hat 1 (by omega)).trans t1, (hat 2 (by omega)).trans t2⟩
    rcases Nat.eq_zero_or_pos len with rfl | hpos
    · exact ⟨[], .inl ⟨rfl, _, _, rfl⟩, Nat.zero_le _⟩
    · have hsp : a.spot = none := by
        obtain ⟨t, t0, _⟩ := hcells 0 hpos
        have := spot_none t0
        simpa [Addr.add] using this
      have hall : ∀ i : Fin len, ∃ t : Tok, w.cell? ⟨a.block, a.off + i.val * 3, none⟩ = some (.int .u8 t.kind) ∧ w.cell? ⟨a.block, a.off + i.val * 3 + 1, none⟩ = some (.string ⟨t.text.toArray⟩) ∧ w.cell? ⟨a.block, a.off + i.val * 3 + 2, none⟩ = some (.int .i64 t.at_) := by
        intro i
        obtain ⟨t, t0, t1, t2⟩ := hcells i.val i.isLt
        rw [add_at a hsp, add_at _ rfl] at t0 t1 t2
        exact ⟨t, t0, t1, t2⟩
      obtain ⟨f, hfx⟩ := Classical.axiomOfChoice hall
      refine ⟨List.ofFn f, .inr ⟨a.block, a.off, cap, ?_, ?_, ?_⟩, ?_⟩
      · have ha : a = ⟨a.block, a.off, none⟩ := by cases a; simp at hsp; subst hsp; rfl
        rw [List.length_ofFn, ← ha]
      · have := (hfx ⟨0, hpos⟩).1
        exact block_of_cell (a := ⟨a.block, a.off + 0 * 3, none⟩) this
      · intro i t ht
        rw [List.getElem?_ofFn] at ht
        split at ht
        · rename_i hil
          simp at ht
          subst ht
          exact hfx ⟨i, hil⟩
        · cases ht
      · rw [List.length_ofFn]
        have : maxLen = 9223372036854775807 := rfl
        omega
set_option maxRecDepth 100000 in
/-- A list of truth values: its cells. -/
theorem open_bits {H : Type} {enc : TypeId × Value → H} {w : World} {r : Reach} {base base2 : Nat} {sp : Nat → Bool} {held : Bool} {v : Value} {d : DataW H} {p : List MemPlace} (hw : Value.okWide Tryd.prog w r base 42 v) (h : DataW.Trod enc Tryd.prog w base2 sp held 42 v d p) :
    ∃ bs : List Bool, bs.length ≤ 9223372036854775807 ∧ ((bs = [] ∧ ∃ ad cap, v = .slice ad 0 cap) ∨ ∃ b o cap, v = .slice (some ⟨b, o, none⟩) bs.length cap ∧ b < w.heap.size ∧ ∀ i x, bs[i]? = some x → w.cell? ⟨b, o + i, none⟩ = some (.bool x)) := by
  obtain ⟨ad, len, cap, rfl⟩ := okWide_slice Tryd.underlying42 hw
  obtain ⟨fuel, hf⟩ := h
  rcases open_slice Tryd.underlying42 hf with ⟨h0, _⟩ | ⟨a, len', cap', m, n, D, Pl, hcs, hb, hlc, hcm, hm, _, hi⟩
  · have e : ad = none ∧ len = 0 ∧ cap = 0 := by simpa [Value.cells] using h0
    obtain ⟨rfl, rfl, rfl⟩ := e
    exact ⟨[], Nat.zero_le _, .inl ⟨rfl, _, _, rfl⟩⟩
  · have e : ad = some a ∧ len = len' ∧ cap = cap' := by simpa [Value.cells] using hcs
    obtain ⟨rfl, rfl, rfl⟩ := e
    have hlm : len ≤ m := by rw [hm]; split <;> omega
    have hcells : ∀ i, i < len → ∃ x : Bool, w.cell? ((a.add i).add 0) = some (.bool x) := by
      intro i hil
      obtain ⟨cs', hc, ht⟩ := hi i (by omega)
      rw [cBool, Nat.mul_one] at hc
      obtain ⟨_, hlen, hat⟩ := World.cells?_some hc
      obtain ⟨x, t0, _⟩ := DataW.trod_bool Tryd.underlying4 ht
      exact ⟨x, (hat 0 (by omega)).trans (by rw [t0]; rfl)⟩
    rcases Nat.eq_zero_or_pos len with rfl | hpos
    · exact ⟨[], Nat.zero_le _, .inl ⟨rfl, _, _, rfl⟩⟩
    · have hsp : a.spot = none := by
        obtain ⟨t, t0⟩ := hcells 0 hpos
        have := spot_none t0
        simpa [Addr.add] using this
      have hall : ∀ i : Fin len, ∃ x : Bool, w.cell? ⟨a.block, a.off + i.val, none⟩ = some (.bool x) := by
        intro i
        obtain ⟨t, t0⟩ := hcells i.val i.isLt
        rw [add_at a hsp, add_at _ rfl] at t0
        exact ⟨t, t0⟩
      obtain ⟨f, hfx⟩ := Classical.axiomOfChoice hall
      refine ⟨List.ofFn f, ?_, .inr ⟨a.block, a.off, cap, ?_, ?_, ?_⟩⟩
      · rw [List.length_ofFn]
        have : maxLen = 9223372036854775807 := rfl
        omega
      · have ha : a = ⟨a.block, a.off, none⟩ := by cases a; simp at hsp; subst hsp; rfl
        rw [List.length_ofFn, ← ha]
      · have := hfx ⟨0, hpos⟩
        exact block_of_cell (a := ⟨a.block, a.off + 0, none⟩) this
      · intro i t ht
        rw [List.getElem?_ofFn] at ht
        split at ht
        · rename_i hil
          simp at ht
          subst ht
          exact hfx ⟨i, hil⟩
        · cases ht
end Go.Proofs.YtighmcooilcmfaaDoor

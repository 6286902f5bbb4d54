/-
  Arguments opened: a list of tokens, as the walks of the statements read it.
-/
import Derived.Test.YtgmfelikmjclbaaGreatDoorTokRows
import Derived.ShutString
import Derived.Deep.Slices
import Derived.Deep.Fields
import Derived.SizedLaws
namespace Go.Proofs.YtgmfelikmjclbaaGreatDoor
open Go.ChangeShapes Go.WideShapes Go.ChangeAt Go.RowKit Go.Deep

theorem spot_none {w : World} {a : Addr} {v : Value} (h : w.cell? a = some v) : a.spot = none := by
  unfold World.cell? at h
  split at h
  · split at h
    · cases h
    · rename_i hs
      cases hq : a.spot with
      | none => rfl
      | some x => rw [hq] at hs; simp at hs
  · cases h
theorem block_of_cell {w : World} {a : Addr} {v : Value} (h : w.cell? a = some v) : a.block < w.heap.size := by
  rcases Nat.lt_or_ge a.block w.heap.size with h' | h'
  · exact h'
  · unfold World.cell? at h
    rw [Array.getElem?_eq_none h'] at h
    cases h
theorem cTok : Tryz.prog.cellsOf 28 = 3 := by kernel_rfl
theorem cU8 : Tryz.prog.cellsOf 5 = 1 := by kernel_rfl
theorem cInt : Tryz.prog.cellsOf 3 = 1 := by kernel_rfl
theorem cText : Tryz.prog.cellsOf 9 = 1 := by kernel_rfl
/-- Three cells that read as a token hold one. -/
theorem open_tok {H : Type} {enc : TypeId × Value → H} {w : World} {base n : Nat} {sp : Nat → Bool} {held : Bool} {cs : List Value} {x : DataW H × List MemPlace} (h : DataW.trod enc Tryz.prog w base sp held n 28 cs = some x) :
    ∃ t : Tok, cs[0]? = some (.int .u8 t.kind) ∧ cs[1]? = some (.string ⟨t.text.toArray⟩) ∧ cs[2]? = some (.int .i64 t.at_) ∧ t.text.length ∈ x.1.weights Tryz.prog 28 := by
  obtain ⟨ys, m, _, hxe, hl, hyl, hf⟩ := DataW.trod_struct Tryz.underlying28 h
  have h0 : DataW.trod enc Tryz.prog w base sp held m 5 ((cs.drop 0).take (Tryz.prog.cellsOf 5)) = ys[0]? := hf 0 _ rfl
  have h1 : DataW.trod enc Tryz.prog w base sp held m 9 ((cs.drop 1).take (Tryz.prog.cellsOf 9)) = ys[1]? := hf 1 _ rfl
  have h2 : DataW.trod enc Tryz.prog w base sp held m 3 ((cs.drop 2).take (Tryz.prog.cellsOf 3)) = ys[2]? := hf 2 _ rfl
  have hlen : ys.length = 3 := hyl
  rw [List.getElem?_eq_getElem (by omega)] at h0 h1 h2
  rw [cU8] at h0
  rw [cText] at h1
  rw [cInt] at h2
  obtain ⟨z, e0, _⟩ := DataW.trod_int Tryz.underlying5 h0
  obtain ⟨s, e1, f1, _⟩ := DataW.trod_string Tryz.underlying9 h1
  obtain ⟨q, e2, _⟩ := DataW.trod_int Tryz.underlying3 h2
  refine ⟨⟨z, q, s.data.toList⟩, ?_, ?_, ?_, ?_⟩
  · have := congrArg (·[0]?) e0
    simpa [List.getElem?_take, List.getElem?_drop] using this
  · have hs : (⟨s.data.toList.toArray⟩ : ByteArray) = s := by
      apply ByteArray.ext
      simp
    show cs[1]? = some (.string ⟨s.data.toList.toArray⟩)
    rw [hs]
    have := congrArg (·[0]?) e1
    simpa [List.getElem?_take, List.getElem?_drop] using this
  · have := congrArg (·[0]?) e2
    simpa [List.getElem?_take, List.getElem?_drop] using this
  · have hd : (ys.map (·.1))[1]? = some (.lit (.string s.data.toList)) := by
      rw [List.getElem?_map, List.getElem?_eq_getElem (by omega), f1]; rfl
    have hw := DataW.weights_mem_each (P := Tryz.prog) (ts := [5, 9, 3]) (j := 1) rfl hd s.data.toList.length (by simp [DataW.weights])
    rw [hxe]
    unfold DataW.weights
    rw [Tryz.underlying28]
    exact hw
theorem add_at (a : Addr) (hs : a.spot = none) (k : Nat) : a.add k = ⟨a.block, a.off + k, none⟩ := by
  unfold Addr.add
  split
  · rename_i h; subst h; cases a; simp at hs; subst hs; rfl
  · rfl
theorem weights_all {H : Type} {P : Program} {e : TypeId} {l : List (DataW H)} {d : DataW H} (h : d ∈ l) {n : Nat} (hn : n ∈ d.weights P e) : n ∈ DataW.weightsAll P e l := by
  induction l with
  | nil => cases h
  | cons x l ih =>
    unfold DataW.weightsAll
    rcases List.mem_cons.1 h with rfl | h
    · exact List.mem_append_left _ hn
    · exact List.mem_append_right _ (ih h)
set_option maxRecDepth 100000 in
/-- A list of tokens, and how long their texts are. -/
theorem open_toks_sized {H : Type} {enc : TypeId × Value → H} {w : World} {r : Reach} {base base2 : Nat} {sp : Nat → Bool} {held : Bool} {v : Value} {d : DataW H} {p : List MemPlace} (hw : Value.okWide Tryz.prog w r base 23 v) (h : DataW.Trod enc Tryz.prog w base2 sp held 23 v d p) (L : Nat) (hL : ∀ n ∈ d.weights Tryz.prog 23, n ≤ L) :
    ∃ ts, Reads w v ts ∧ ts.length ≤ 9223372036854775807 ∧ ∀ t ∈ ts, t.text.length ≤ L := by
  obtain ⟨ad, len, cap, rfl⟩ := okWide_slice Tryz.underlying23 hw
  obtain ⟨fuel, hf⟩ := h
  rcases open_slice Tryz.underlying23 hf with ⟨h0, _⟩ | ⟨a, len', cap', m, n, D, Pl, hcs, hb, hlc, hcm, hm, hdd, hi⟩
  · have e : ad = none ∧ len = 0 ∧ cap = 0 := by simpa [Value.cells] using h0
    obtain ⟨rfl, rfl, rfl⟩ := e
    exact ⟨[], .inl ⟨rfl, _, _, rfl⟩, Nat.zero_le _, fun t ht => by cases ht⟩
  · have e : ad = some a ∧ len = len' ∧ cap = cap' := by simpa [Value.cells] using hcs
    obtain ⟨rfl, rfl, rfl⟩ := e
    have hlm : len ≤ m := by rw [hm]; split <;> omega
    have hwt : ∀ i, i < len → ∀ n ∈ (D i).weights Tryz.prog 28, n ≤ L := fun i hil n hn => by
      refine hL n ?_
      have hd0 := congrArg Prod.fst hdd
      simp only at hd0
      rw [hd0]
      unfold DataW.weights
      rw [Tryz.underlying23]
      refine List.mem_cons_of_mem _ (List.mem_append_left _ (weights_all ?_ hn))
      exact List.mem_map.2 ⟨i, List.mem_range.2 hil, rfl⟩
    have hcells : ∀ i, i < len → ∃ t : Tok, w.cell? ((a.add (i * 3)).add 0) = some (.int .u8 t.kind) ∧ w.cell? ((a.add (i * 3)).add 1) = some (.string ⟨t.text.toArray⟩) ∧ w.cell? ((a.add (i * 3)).add 2) = some (.int .i64 t.at_) ∧ t.text.length ≤ L := by
      intro i hil
      obtain ⟨cs', hc, ht⟩ := hi i (by omega)
      rw [cTok] at hc
      obtain ⟨_, hlen, hat⟩ := World.cells?_some hc
      obtain ⟨t, t0, t1, t2, t3⟩ := open_tok ht
      exact ⟨t, (hat 0 (by omega)).trans t0, (hat 1 (by omega)).trans t1, (hat 2 (by omega)).trans t2, hwt i hil _ t3⟩
    rcases Nat.eq_zero_or_pos len with rfl | hpos
    · exact ⟨[], .inl ⟨rfl, _, _, rfl⟩, Nat.zero_le _, fun t ht => by cases ht⟩
    · have hsp : a.spot = none := by
        obtain ⟨t, t0, _⟩ := hcells 0 hpos
        have := spot_none t0
        simpa [Addr.add] using this
      have hall : ∀ i : Fin len, ∃ t : Tok, w.cell? ⟨a.block, a.off + i.val * 3, none⟩ = some (.int .u8 t.kind) ∧ w.cell? ⟨a.block, a.off + i.val * 3 + 1, none⟩ = some (.string ⟨t.text.toArray⟩) ∧ w.cell? ⟨a.block, a.off + i.val * 3 + 2, none⟩ = some (.int .i64 t.at_) ∧ t.text.length ≤ L := by
        intro i
        obtain ⟨t, t0, t1, t2, t3⟩ := hcells i.val i.isLt
        rw [add_at a hsp, add_at _ rfl] at t0 t1 t2
        exact ⟨t, t0, t1, t2, t3⟩
      obtain ⟨f, hfx⟩ := Classical.axiomOfChoice hall
      refine ⟨List.ofFn f, .inr ⟨a.block, a.off, cap, ?_, ?_, ?_⟩, ?_, ?_⟩
      · have ha : a = ⟨a.block, a.off, none⟩ := by cases a; simp at hsp; subst hsp; rfl
        rw [List.length_ofFn, ← ha]
      · have := (hfx ⟨0, hpos⟩).1
        exact block_of_cell (a := ⟨a.block, a.off + 0 * 3, none⟩) this
      · intro i t ht
        rw [List.getElem?_ofFn] at ht
        split at ht
        · rename_i hil
          simp at ht
          subst ht
          obtain ⟨x0, x1, x2, _⟩ := hfx ⟨i, hil⟩
          exact ⟨x0, x1, x2⟩
        · cases ht
      · rw [List.length_ofFn]
        have : maxLen = 9223372036854775807 := rfl
        omega
      · intro t ht
        obtain ⟨i, hi2, rfl⟩ := List.mem_iff_getElem.1 ht
        rw [List.getElem_ofFn]
        exact (hfx _).2.2.2
theorem weight_bound {H : Type} {P : Program} {e : TypeId} (d : DataW H) : ∃ L, ∀ n ∈ d.weights P e, n ≤ L := by
  generalize d.weights P e = l
  induction l with
  | nil => exact ⟨0, fun n h => by cases h⟩
  | cons x l ih =>
    obtain ⟨L, hL⟩ := ih
    refine ⟨max x L, fun n h => ?_⟩
    rcases List.mem_cons.1 h with rfl | h
    · omega
    · have := hL n h; omega
set_option maxRecDepth 100000 in
/-- A list of tokens. -/
theorem open_toks {H : Type} {enc : TypeId × Value → H} {w : World} {r : Reach} {base base2 : Nat} {sp : Nat → Bool} {held : Bool} {v : Value} {d : DataW H} {p : List MemPlace} (hw : Value.okWide Tryz.prog w r base 23 v) (h : DataW.Trod enc Tryz.prog w base2 sp held 23 v d p) :
    ∃ ts, Reads w v ts ∧ ts.length ≤ 9223372036854775807 := by
  obtain ⟨L, hL⟩ := weight_bound (P := Tryz.prog) (e := 23) d
  obtain ⟨ts, h1, h2, _⟩ := open_toks_sized hw h L hL
  exact ⟨ts, h1, h2⟩
set_option maxRecDepth 100000 in
/-- A token that is handed over by itself. -/
theorem open_token {H : Type} {enc : TypeId × Value → H} {w : World} {r : Reach} {base base2 : Nat} {sp : Nat → Bool} {held : Bool} {v : Value} {d : DataW H} {p : List MemPlace} (hw : Value.okWide Tryz.prog w r base 28 v) (h : DataW.Trod enc Tryz.prog w base2 sp held 28 v d p) (L : Nat) (hL : ∀ n ∈ d.weights Tryz.prog 28, n ≤ L) :
    ∃ t : Tok, v = .agg #[.int .u8 t.kind, .string ⟨t.text.toArray⟩, .int .i64 t.at_] ∧ t.text.length ≤ L := by
  obtain ⟨cs, rfl, hsz⟩ := okWide_struct Tryz.underlying28 hw
  rw [cTok] at hsz
  obtain ⟨fuel, hf⟩ := h
  obtain ⟨t, t0, t1, t2, t3⟩ := open_tok hf
  refine ⟨t, ?_, hL _ t3⟩
  congr 1
  have hc : ∀ i : Nat, cs[i]? = ((Value.agg cs).cells.toList)[i]? := fun i => by show cs[i]? = cs.toList[i]?; rw [Array.getElem?_toList]
  apply Array.ext_getElem?
  intro i
  match i with
  | 0 => rw [hc, t0]; rfl
  | 1 => rw [hc, t1]; rfl
  | 2 => rw [hc, t2]; rfl
  | i + 3 => rw [Array.getElem?_eq_none (by omega), Array.getElem?_eq_none (by simp)]
end Go.Proofs.YtgmfelikmjclbaaGreatDoor

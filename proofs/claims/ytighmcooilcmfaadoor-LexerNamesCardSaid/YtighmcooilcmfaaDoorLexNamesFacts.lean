/-
  Facts for the walk of layer 3's statement LexerNames: rows of tokens that are laid, answers at given texts and tokens.
-/
import Derived.Test.YtighmcooilcmfaaDoorLexErrWalk
import Derived.Outline
namespace Go.Proofs.YtighmcooilcmfaaDoor
open Go.ChangeShapes Go.WideShapes Go.ChangeAt Go.RowKit

def zeroTok : Tok := ⟨0, 0, []⟩
def wordTok : Tok := ⟨2, 0, [97]⟩
def oddToks : List Tok := [⟨0, 0, []⟩, ⟨1, 0, []⟩, ⟨1, 0, [97]⟩, ⟨2, 0, [49]⟩, ⟨2, 0, [101]⟩, ⟨3, 0, [33]⟩, ⟨3, 0, [60, 61, 61]⟩, ⟨4, 0, [97]⟩, ⟨3, 0, []⟩, ⟨1, 0, [32, 49]⟩, ⟨1, 0, [57, 50, 50, 51, 51, 55, 50, 48, 51, 54, 56, 53, 52, 55, 55, 53, 56, 48, 56]⟩]
theorem odd_bad : ∀ k : Fin 11, joinV [oddToks[k]] = ([], 8) := by decide +kernel
theorem full_ok : (joinV (List.replicate 200 wordTok)).1.length = 399 ∧ (joinV (List.replicate 200 wordTok)).2 = 0 := by decide +kernel
theorem full_err : joinV (⟨2, 0, [99, 111, 117, 110, 116]⟩ :: List.replicate 199 wordTok) = ([], 18) := by decide +kernel
theorem zeros_err : joinV (List.replicate 201 zeroTok) = ([], 4) := by decide +kernel
def manyA : ByteArray := ⟨(rep [97] 401).toArray⟩
def manyB : ByteArray := ⟨(rep [49, 32] 199).toArray⟩
theorem manyA_all : allV manyA.data.toList = ([], 0, 4) := by
  unfold allV
  rw [if_pos (by decide +kernel)]
theorem manyB_all : (allV (manyB ++ { data := #[40, 40] } : ByteArray).data.toList).2 = (399, 4) := by decide +kernel

def rowVals (ts : List Tok) : Array Value := (rowCells ts).toArray
theorem made_row (n : Nat) : (madeCells (Value.agg #[.int .u8 0, .string { data := #[] }, .int .i64 0]).cells (n * 3)).toList = rowCells (List.replicate n zeroTok) := by
  apply List.ext_getElem
  · rw [Array.length_toList, size_madeCells, rowCells_len, List.length_replicate]
  · intro j h1 h2
    rw [Array.length_toList, size_madeCells] at h1
    have hq : j / 3 < n := by omega
    obtain ⟨c0, c1, c2⟩ := rowCells_at (List.replicate n zeroTok) (j / 3) zeroTok (by rw [List.getElem?_replicate, if_pos hq])
    have hj : (madeCells (Value.agg #[.int .u8 0, .string { data := #[] }, .int .i64 0]).cells (n * 3)).toList[j] = #[Value.int .u8 0, .string { data := #[] }, .int .i64 0][j % 3]! := by
      simp only [madeCells, Array.toList_map, List.getElem_map, Array.toList_range, List.getElem_range]
      rfl
    rw [hj]
    have hr : j % 3 = 0 ∨ j % 3 = 1 ∨ j % 3 = 2 := by omega
    apply Option.some.inj
    rw [← List.getElem?_eq_getElem h2]
    rcases hr with hr | hr | hr
    · rw [hr, show j = j / 3 * 3 by omega, c0]; rfl
    · rw [hr, show j = j / 3 * 3 + 1 by omega, c1]; rfl
    · rw [hr, show j = j / 3 * 3 + 2 by omega, c2]; rfl
/-- make([]api.Token, n): n tokens that are zero, in a new block. -/
theorem make_toks (w : World) (n : Nat) (hn : n ≤ 1000) : ∃ w1, (Instr.makeSlice 28 (.int .i64 (n : Int)) (.int .i64 (n : Int))).run Tryd.prog w = .ok (.slice (some ⟨w.heap.size, 0, none⟩) n n) w1 ∧
    w1.ownsRow w.heap.size 30 3 (.slice (some ⟨w.heap.size, 0, none⟩) n n) n (rowCells (List.replicate n zeroTok)) ∧ Below w.heap.size w w1 := by
  obtain ⟨i0, hi, hz0, hz1, hz2⟩ := info_parts info_tok
  obtain ⟨w1, h1, h2, h3⟩ := run_make_full (P := Tryd.prog) (w := w) w.heap.size 28 30 i0 _ 3 Tryd.underlying28 hi hz0 hz1 .i64 .i64 n (by rw [hz2]; omega) (by unfold maxLen; omega) (Nat.le_refl _)
  rw [made_row n] at h2
  exact ⟨w1, h1, h2, (Below.refl _ _).grown h3 (Nat.le_refl _) (by simp)⟩
theorem rowCells_set (ts : List Tok) (i : Nat) (t : Tok) : rowCells (ts.set i t) = (((rowCells ts).set (i * 3) (.int .u8 t.kind)).set (i * 3 + 1) (.string ⟨t.text.toArray⟩)).set (i * 3 + 2) (.int .i64 t.at_) := by
  induction ts generalizing i with
  | nil => rfl
  | cons u ts ih =>
    cases i with
    | zero => rfl
    | succ i =>
      show tokCells u ++ rowCells (ts.set i t) = _
      rw [ih i, show (i + 1) * 3 = i * 3 + 3 by omega]
      rfl
def fullN : Nat → List Tok
  | 0 => List.replicate 200 zeroTok
  | i + 1 => (fullN i).set i wordTok
theorem fullN_len (i : Nat) : (fullN i).length = 200 := by
  induction i with
  | zero => rfl
  | succ i ih => show ((fullN i).set i wordTok).length = 200; rw [List.length_set, ih]
theorem fullN_all : fullN 200 = List.replicate 200 wordTok := by kernel_rfl
theorem fullN_count : (List.replicate 200 wordTok).set 0 ⟨2, 0, [99, 111, 117, 110, 116]⟩ = ⟨2, 0, [99, 111, 117, 110, 116]⟩ :: List.replicate 199 wordTok := by kernel_rfl
/-- The cells of a row that was laid. -/
theorem row_cells {w w1 : World} {ts : List Tok} (h : w.alloc (.cells (rowVals ts) 30) = w1) : TokAt w1 w.heap.size 0 ts ∧ w.heap.size < w1.heap.size := by
  subst h
  refine ⟨fun i t ht => ?_, by simp⟩
  obtain ⟨h0, h1, h2⟩ := rowCells_at ts i t ht
  have e : ∀ j, (rowVals ts)[j]? = (rowCells ts)[j]? := fun j => by unfold rowVals; rw [List.getElem?_toArray]
  refine ⟨?_, ?_, ?_⟩
  · rw [World.cell?_alloc_at _ _ _ _ rfl, e, Nat.zero_add]; exact h0
  · rw [World.cell?_alloc_at _ _ _ _ rfl, e, Nat.zero_add]; exact h1
  · rw [World.cell?_alloc_at _ _ _ _ rfl, e, Nat.zero_add]; exact h2

/-- The tokens from a place of a row on, as a slice of it. -/
theorem sub_reads {w : World} {b : Nat} {ts : List Tok} (h : TokAt w b 0 ts) (hb : b < w.heap.size) (i : Nat) (hi : i < ts.length) (cap : Nat) : Reads w (.slice (some ⟨b, i * 3, none⟩) 1 cap) [ts[i]] := by
  refine .inr ⟨b, i * 3, cap, rfl, hb, fun j t ht => ?_⟩
  cases j with
  | zero =>
    simp at ht
    subst ht
    obtain ⟨h0, h1, h2⟩ := h i _ (List.getElem?_eq_getElem hi)
    simp only [Nat.zero_add, Nat.zero_mul, Nat.add_zero] at h0 h1 h2 ⊢
    exact ⟨h0, h1, h2⟩
  | succ j => simp at ht
/-- Join of tokens whose answer is known. -/
theorem join_is (v : Value) (ts : List Tok) (t : ByteArray) (er : Int) (h : joinV ts = (t.data.toList, er)) (hn : ts.length ≤ 9223372036854775807) (hx : ∀ t ∈ ts, t.text.length ≤ 1000000) (w : World) (hf : LexFix w) (hR : Reads w v ts) :
    Calls Tryd.prog 12 #[v] w fun e w' => e = .returned (.tuple #[.string t, .int .i64 er]) ∧ Below w.heap.size w w' := by
  refine (lexJoin_any v ts w hf hR hn hx).mono ?_
  rintro e w' ⟨rfl, hb⟩
  rw [h]
  exact ⟨rfl, hb⟩
theorem many_A (w : World) : Calls Tryd.prog 11 #[.string { data := #[97] }, .int .i64 401] w fun e w' => e = .returned (.string manyA) ∧ w = w' :=
  many_is { data := #[97] } manyA 401 (by omega) (by decide) (by kernel_rfl) w
theorem many_B (w : World) : Calls Tryd.prog 11 #[.string { data := #[49, 32] }, .int .i64 199] w fun e w' => e = .returned (.string manyB) ∧ w = w' :=
  many_is { data := #[49, 32] } manyB 199 (by omega) (by decide) (by kernel_rfl) w
theorem manyA_size : manyA.size ≤ 1000000 := by decide +kernel
theorem manyB_size : manyB.size ≤ 1000 := by decide +kernel
theorem manyB_size2 : (manyB ++ { data := #[40, 40] } : ByteArray).size ≤ 1000000 := by rw [ByteArray.size_append]; have := manyB_size; have : ({ data := #[40, 40] } : ByteArray).size = 2 := rfl; omega
theorem fails_A (w : World) (hf : LexFix w) : Calls Tryd.prog 10 #[.string manyA, .int .i64 0, .int .i64 4] w fun e w' => e = .returned (.bool true) ∧ Below w.heap.size w w' :=
  fails_is manyA 0 4 ⟨manyA_size, congrArg (fun x : List Tok × Nat × Int => (x.2.1 : Int)) manyA_all, congrArg (fun x : List Tok × Nat × Int => x.2.2) manyA_all, by decide⟩ w hf
theorem manyB_n : ((allV (manyB ++ { data := #[40, 40] } : ByteArray).data.toList).2.1 : Int) = 399 := by
  have h : (allV (manyB ++ { data := #[40, 40] } : ByteArray).data.toList).2.1 = 399 := congrArg Prod.fst manyB_all
  omega
theorem manyB_e : (allV (manyB ++ { data := #[40, 40] } : ByteArray).data.toList).2.2 = 4 := congrArg Prod.snd manyB_all
theorem fails_any (s : ByteArray) (at_ want : Int) (h0 : s.size ≤ 1000000) (h1 : ((allV s.data.toList).2.1 : Int) = at_) (h2 : (allV s.data.toList).2.2 = want) (h3 : want ≠ 0) (w : World) (hf : LexFix w) :
    Calls Tryd.prog 10 #[.string s, .int .i64 at_, .int .i64 want] w fun e w' => e = .returned (.bool true) ∧ Below w.heap.size w w' := fails_is s at_ want ⟨h0, h1, h2, h3⟩ w hf
theorem fails_B (w : World) (hf : LexFix w) : Calls Tryd.prog 10 #[.string (manyB ++ { data := #[40, 40] }), .int .i64 399, .int .i64 4] w fun e w' => e = .returned (.bool true) ∧ Below w.heap.size w w' :=
  fails_any _ _ _ manyB_size2 manyB_n manyB_e (by decide) w hf
theorem make_at (w : World) (n : Nat) (m : Int) (e : m = n) (hn : n ≤ 1000) : ∃ w1, (Instr.makeSlice 28 (.int .i64 m) (.int .i64 m)).run Tryd.prog w = .ok (.slice (some ⟨w.heap.size, 0, none⟩) n n) w1 ∧
    w1.ownsRow w.heap.size 30 3 (.slice (some ⟨w.heap.size, 0, none⟩) n n) n (rowCells (List.replicate n zeroTok)) ∧ Below w.heap.size w w1 := by
  subst e
  exact make_toks w n hn
theorem make_201 (w : World) : ∃ w1, (Instr.makeSlice 28 (.int .i64 201) (.int .i64 201)).run Tryd.prog w = .ok (.slice (some ⟨w.heap.size, 0, none⟩) 201 201) w1 ∧
    w1.ownsRow w.heap.size 30 3 (.slice (some ⟨w.heap.size, 0, none⟩) 201 201) 201 (rowCells (List.replicate 201 zeroTok)) ∧ Below w.heap.size w w1 := make_at w 201 201 (by omega) (by omega)
theorem make_200 (w : World) : ∃ w1, (Instr.makeSlice 28 (.int .i64 200) (.int .i64 200)).run Tryd.prog w = .ok (.slice (some ⟨w.heap.size, 0, none⟩) 200 200) w1 ∧
    w1.ownsRow w.heap.size 30 3 (.slice (some ⟨w.heap.size, 0, none⟩) 200 200) 200 (rowCells (fullN 0)) ∧ Below w.heap.size w w1 := by
  rw [show fullN 0 = List.replicate 200 zeroTok from rfl]
  exact make_at w 200 200 (by omega) (by omega)
theorem row_reads {w : World} {base n : Nat} {v : Value} {ts : List Tok} (h : w.ownsRow base 30 3 v n (rowCells ts)) (hl : ts.length = n) : Reads w v ts := by
  subst hl
  exact own_reads h
theorem short_texts {ts : List Tok} (h : ts.all (fun t => decide (t.text.length ≤ 1000000)) = true) : ∀ t ∈ ts, t.text.length ≤ 1000000 := fun t ht => by
  have := List.all_eq_true.1 h t ht
  simpa using this
theorem zeros_short : ∀ t ∈ List.replicate 201 zeroTok, t.text.length ≤ 1000000 := fun t ht => by
  rw [List.mem_replicate] at ht
  rw [ht.2]; decide
theorem odd_short : ∀ t ∈ oddToks, t.text.length ≤ 1000000 := short_texts (by decide +kernel)
theorem full_short : ∀ t ∈ List.replicate 200 wordTok, t.text.length ≤ 1000000 := fun t ht => by
  rw [List.mem_replicate] at ht
  rw [ht.2]; decide
theorem count_short : ∀ t ∈ (⟨2, 0, [99, 111, 117, 110, 116]⟩ : Tok) :: List.replicate 199 wordTok, t.text.length ≤ 1000000 := fun t ht => by
  rcases List.mem_cons.1 ht with rfl | ht
  · decide
  · rw [List.mem_replicate] at ht
    rw [ht.2]; decide
def fullText : ByteArray := ⟨(joinV (List.replicate 200 wordTok)).1.toArray⟩
theorem fullText_size : fullText.size = 399 := by
  have := full_ok.1
  show (joinV (List.replicate 200 wordTok)).1.toArray.size = 399
  rw [List.size_toArray]; exact this
theorem text_of (l : List UInt8) : (⟨l.toArray⟩ : ByteArray).data.toList = l := by simp
theorem pair_of (l : List Tok) {er : Int} (h : (joinV l).2 = er) : joinV l = ((⟨(joinV l).1.toArray⟩ : ByteArray).data.toList, er) := by rw [text_of, ← h]
theorem full_join : joinV (List.replicate 200 wordTok) = (fullText.data.toList, 0) := by
  unfold fullText
  exact pair_of (List.replicate 200 wordTok) full_ok.2
/-- A token stored in a row of the call's own. -/
theorem store_tok {w : World} {base b cap n : Nat} {ts : List Tok} (h : w.ownsRow base 30 3 (.slice (some ⟨b, 0, none⟩) n cap) n (rowCells ts)) (i : Nat) (t : Tok) :
    (((w.setCell ⟨b, i * 3, none⟩ (.int .u8 t.kind)).setCell ⟨b, i * 3 + 1, none⟩ (.string ⟨t.text.toArray⟩)).setCell ⟨b, i * 3 + 2, none⟩ (.int .i64 t.at_)).ownsRow base 30 3 (.slice (some ⟨b, 0, none⟩) n cap) n (rowCells (ts.set i t)) := by
  rw [rowCells_set]
  exact (((h.stored (i * 3) _).1.stored (i * 3 + 1) _).1.stored (i * 3 + 2) _).1
theorem store_below {w0 w : World} {b : Nat} (h : Below w0.heap.size w0 w) (hb : w0.heap.size ≤ b) (i j k : Nat) (x y z : Value) :
    Below w0.heap.size w0 (((w.setCell ⟨b, i, none⟩ x).setCell ⟨b, j, none⟩ y).setCell ⟨b, k, none⟩ z) := ((h.setCell hb _).setCell hb _).setCell hb _
theorem rowCells_text (ts : List Tok) (i : Nat) (t u : Tok) (h : ts[i]? = some u) (hk : t.kind = u.kind) (ha : t.at_ = u.at_) : rowCells (ts.set i t) = (rowCells ts).set (i * 3 + 1) (.string ⟨t.text.toArray⟩) := by
  induction ts generalizing i with
  | nil => simp at h
  | cons x ts ih =>
    cases i with
    | zero =>
      simp at h
      subst h
      show tokCells t ++ rowCells ts = _
      unfold tokCells
      rw [hk, ha]
      rfl
    | succ i =>
      show tokCells x ++ rowCells (ts.set i t) = _
      rw [ih i (by simpa using h), show (i + 1) * 3 + 1 = i * 3 + 1 + 3 by omega]
      rfl
theorem count_cells : (rowCells (List.replicate 200 wordTok)).set 1 (.string { data := #[99, 111, 117, 110, 116] }) = rowCells (⟨2, 0, [99, 111, 117, 110, 116]⟩ :: List.replicate 199 wordTok) := by
  have h := rowCells_text (List.replicate 200 wordTok) 0 ⟨2, 0, [99, 111, 117, 110, 116]⟩ wordTok (by rw [List.getElem?_replicate, if_pos (by omega)]) rfl rfl
  rw [fullN_count, Nat.zero_mul, Nat.zero_add] at h
  exact h.symm
theorem store_one {w0 w : World} (h : Below w0.heap.size w0 w) (j : Nat) (x : Value) : Below w0.heap.size w0 (w.setCell ⟨w0.heap.size, j, none⟩ x) := h.setCell (Nat.le_refl _) _
theorem word_cell : (rowCells (List.replicate 200 wordTok))[1]? = some (.string { data := #[97] }) := (rowCells_at (List.replicate 200 wordTok) 0 wordTok (by rw [List.getElem?_replicate, if_pos (by omega)])).2.1
theorem full_len : (List.replicate 200 wordTok).length ≤ 9223372036854775807 := by rw [List.length_replicate]; omega
theorem count_len : ((⟨2, 0, [99, 111, 117, 110, 116]⟩ : Tok) :: List.replicate 199 wordTok).length = 200 := by rw [List.length_cons, List.length_replicate]
end Go.Proofs.YtighmcooilcmfaaDoor

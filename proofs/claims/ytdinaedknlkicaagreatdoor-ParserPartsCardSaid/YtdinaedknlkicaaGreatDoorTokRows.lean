/-
  Tokens in memory (layer 3): three cells for each; what All returns; a slice that reads as tokens; small helpers of the lexer's contracts.
-/
import Derived.Test.YtdinaedknlkicaaGreatDoorDraws
import Derived.Test.YtdinaedknlkicaaGreatDoorLexMath
import Derived.Test.YtdinaedknlkicaaGreatDoorChecked
import Derived.WalkKit
import Derived.ProofKit
import Derived.OpenShut
import Derived.RowKit3
import Derived.WalkLawsBesides
import Derived.WalkSpells
import Derived.Lib.Hide
import Derived.LoopTactic
import Derived.Laws.ResultCell
import Derived.OwnWalk
import Derived.Deep.MidRow
import Derived.Deep.LoopGhost
namespace Go.Proofs.YtdinaedknlkicaaGreatDoor
open Go.ChangeShapes Go.WideShapes Go.ChangeAt Go.RowKit

theorem u8_bounds (a : UInt8) : 0 ≤ (a.toNat : Int) ∧ (a.toNat : Int) ≤ 255 := by
  have := a.toNat_lt
  omega
theorem drop_cons (s : ByteArray) (j : Nat) (h : j < s.size) : s.data.toList.drop j = s[j] :: s.data.toList.drop (j + 1) := by
  rw [List.drop_eq_getElem_cons (by simpa using h)]; rfl
theorem kind_not {k : Int} {c : UInt8} (h : (kindV (c.toNat : Int) == k) = false) : isKind k c = false := by
  unfold isKind; rw [decide_eq_false_iff_not]; simpa using h
theorem kind_yes {k : Int} {c : UInt8} (h : (kindV (c.toNat : Int) == k) = true) : isKind k c = true := by
  unfold isKind; rw [decide_eq_true_iff]; simpa using h
theorem ext_eq (s : ByteArray) (a n : Nat) : s.extract a (a + n) = ⟨((s.data.toList.drop a).take n).toArray⟩ := by
  apply ByteArray.ext
  apply Array.toList_inj.1
  rw [ByteArray.data_extract, Array.toList_extract, List.extract_eq_take_drop]
  simp
/-- A token in three cells of a block, read as a result. -/
theorem tok_range {w : World} {b o : Nat} {k : Int} {t : ByteArray} {q : Int} (h0 : w.cell? ⟨b, o, none⟩ = some (.int .u8 k)) (h1 : w.cell? ⟨b, o + 1, none⟩ = some (.string t)) (h2 : w.cell? ⟨b, o + 2, none⟩ = some (.int .i64 q)) :
    w.rangeAt b o [.int .u8 k, .string t, .int .i64 q] := fun j v hv => by
  match j with
  | 0 => simp at hv; subst hv; exact h0
  | 1 => simp at hv; subst hv; exact h1
  | 2 => simp at hv; subst hv; exact h2
  | j + 3 => simp at hv
theorem iTok : (Tryz.prog.info? 40).map (·.size) = some 3 := by kernel_rfl
theorem ret_tok {fn : Func} {p u : Tmp} (h : fn.results = #[.cell p 40, .tmp u]) (tmps : Array Value) (w : World) (b : Nat) (k : Int) (t : ByteArray) (q : Int) (hp : tmps.getD p undef = .pointer (some ⟨b, 0, none⟩))
    (h0 : w.cell? ⟨b, 0, none⟩ = some (.int .u8 k)) (h1 : w.cell? ⟨b, 1, none⟩ = some (.string t)) (h2 : w.cell? ⟨b, 2, none⟩ = some (.int .i64 q)) :
    (results fn tmps).run Tryz.prog w = .ok (.tuple #[.agg #[.int .u8 k, .string t, .int .i64 q], tmps.getD u undef]) w := by
  have hl := run_loadVar_mid (P := Tryz.prog) w b 0 40 [.int .u8 k, .string t, .int .i64 q] _ (tok_range h0 h1 h2) Tryz.underlying40 rfl iTok
  rw [results_cell_tmp h, hp]
  simp only [asAddr, Sem.run_pure, Result.andThen_ok, hl]
theorem blk_cells {w w2 : World} {x y z : Value} {T : TypeId} (hb : Below (w.alloc (Obj.cells #[x, y, z] T)).heap.size (w.alloc (Obj.cells #[x, y, z] T)) w2) :
    (w2.cell? ⟨w.heap.size, 0, none⟩ = some x ∧ w2.cell? ⟨w.heap.size, 1, none⟩ = some y ∧ w2.cell? ⟨w.heap.size, 2, none⟩ = some z) ∧
    (w2.frozen? ⟨w.heap.size, 0, none⟩ = false ∧ w2.frozen? ⟨w.heap.size, 1, none⟩ = false ∧ w2.frozen? ⟨w.heap.size, 2, none⟩ = false) := by
  refine ⟨⟨?_, ?_, ?_⟩, ?_, ?_, ?_⟩
  · exact (hb.cell (p := ⟨w.heap.size, 0, none⟩) (by simp)).trans (by simp [go_sem])
  · exact (hb.cell (p := ⟨w.heap.size, 1, none⟩) (by simp)).trans (by simp [go_sem])
  · exact (hb.cell (p := ⟨w.heap.size, 2, none⟩) (by simp)).trans (by simp [go_sem])
  · exact (hb.frozen (p := ⟨w.heap.size, 0, none⟩) (by simp)).trans (by simp [go_sem])
  · exact (hb.frozen (p := ⟨w.heap.size, 1, none⟩) (by simp)).trans (by simp [go_sem])
  · exact (hb.frozen (p := ⟨w.heap.size, 2, none⟩) (by simp)).trans (by simp [go_sem])
theorem below_one {w w2 : World} {c : Array Value} {T : TypeId} (hb : Below (w.alloc (Obj.cells c T)).heap.size (w.alloc (Obj.cells c T)) w2) : Below w.heap.size w w2 :=
  ((Below.refl w.heap.size w).alloc (Nat.le_refl _) _).trans (hb.mono (by simp))

def tokCells (t : Tok) : List Value := [.int .u8 t.kind, .string ⟨t.text.toArray⟩, .int .i64 t.at_]
def rowCells (ts : List Tok) : List Value := ts.flatMap tokCells
theorem rowCells_add (ts : List Tok) (t : Tok) : rowCells (ts ++ [t]) = rowCells ts ++ tokCells t := by
  simp [rowCells, List.flatMap_append]
theorem rowCells_len (ts : List Tok) : (rowCells ts).length = ts.length * 3 := by
  induction ts with
  | nil => rfl
  | cons t ts ih => simp only [rowCells, List.flatMap_cons, List.length_append, List.length_cons] at ih ⊢; rw [ih]; simp [tokCells]; omega
theorem below_step {w w1 w2 : World} (h : Below w.heap.size w w1) (h2 : Below w1.heap.size w1 w2) : Below w.heap.size w w2 := h.trans (h2.mono h.size)
/-- What is returned: the tokens in the call's own memory, a place, an error; with an error no tokens. -/
def AllEnds (l : List UInt8) (w : World) (e : Ending) (w' : World) : Prop :=
  ∃ v, e = .returned (.tuple #[v, .int .i64 (allV l).2.1, .int .i64 (allV l).2.2]) ∧ w'.ownsRow w.heap.size 40 3 v (allV l).1.length (rowCells (allV l).1) ∧ Below w.heap.size w w' ∧ ((allV l).2.2 ≠ 0 → v = .slice none 0 0)
theorem own_shape {w : World} {base n : Nat} {e : TypeId} {size : Nat} {v : Value} {xs : List Value} (h : w.ownsRow base e size v n xs) : ∃ ad cap, v = .slice ad n cap := by
  rcases h.2 with ⟨rfl, rfl⟩ | ⟨g, cap, _, rfl, _⟩
  · exact ⟨_, _, rfl⟩
  · exact ⟨_, _, rfl⟩
theorem info_tok : (Tryz.prog.info? 40).map (fun i => (i.zero, i.size, i.bytes)) = some (some (.agg #[.int .u8 0, .string { data := #[] }, .int .i64 0]), 3, 32) := by kernel_rfl

theorem keeps_own {w w' : World} {base n : Nat} {e : TypeId} {size : Nat} {v : Value} {xs : List Value} (h : w.ownsRow base e size v n xs) (hb : Below w.heap.size w w') : w'.ownsRow base e size v n xs :=
  h.kept (row := none) ⟨hb.os, hb.tape, hb.output, hb.size, fun k hk _ => hb.block k hk⟩ (Classical.em _)
/-- Behind an append to a slice of the call's own: what lies in a block that was made behind it is as it was. -/
theorem grown_cell {w w1 w2 : World} {base n : Nat} {e : TypeId} {size : Nat} {v : Value} {xs : List Value} {b o : Nat} {u : Value} (h : w.ownsRow base e size v n xs) (hg : w1.grownBy w2 v.ownBlock) (hb : w.heap.size ≤ b)
    (hc : w1.cell? ⟨b, o, none⟩ = some u) : w2.cell? ⟨b, o, none⟩ = some u :=
  hg.cell hc (fun hr => by have := (h.lt b hr.symm).2; omega)
theorem grown_own_below {w0 w w1 w2 : World} {n : Nat} {e : TypeId} {size : Nat} {v : Value} {xs : List Value} (h : w.ownsRow w0.heap.size e size v n xs) (hb : Below w0.heap.size w0 w1) (hg : w1.grownBy w2 v.ownBlock) : Below w0.heap.size w0 w2 :=
  hb.grown hg hb.size (fun k hk => (h.lt k hk).1)
/-- Three cells for each token, from an offset of a block on. -/
def TokAt (w : World) (b o : Nat) (ts : List Tok) : Prop :=
  ∀ i t, ts[i]? = some t → w.cell? ⟨b, o + i * 3, none⟩ = some (.int .u8 t.kind) ∧ w.cell? ⟨b, o + i * 3 + 1, none⟩ = some (.string ⟨t.text.toArray⟩) ∧ w.cell? ⟨b, o + i * 3 + 2, none⟩ = some (.int .i64 t.at_)
/-- A slice that reads as these tokens: an empty one, at whatever address, or one whose cells hold them. -/
def Reads (w : World) (v : Value) (ts : List Tok) : Prop :=
  (ts = [] ∧ ∃ ad cap, v = .slice ad 0 cap) ∨ ∃ b o cap, v = .slice (some ⟨b, o, none⟩) ts.length cap ∧ b < w.heap.size ∧ TokAt w b o ts
theorem TokAt.below {w w' : World} {b o : Nat} {ts : List Tok} (h : TokAt w b o ts) (hb : b < w.heap.size) (hw : Below w.heap.size w w') : TokAt w' b o ts := fun i t ht => by
  obtain ⟨h0, h1, h2⟩ := h i t ht
  exact ⟨(hw.cell (p := ⟨b, _, none⟩) hb).trans h0, (hw.cell (p := ⟨b, _, none⟩) hb).trans h1, (hw.cell (p := ⟨b, _, none⟩) hb).trans h2⟩
theorem Reads.below {w w' : World} {v : Value} {ts : List Tok} (h : Reads w v ts) (hw : Below w.heap.size w w') : Reads w' v ts := by
  rcases h with h | ⟨b, o, cap, rfl, hb, ht⟩
  · exact .inl h
  · exact .inr ⟨b, o, cap, rfl, Nat.lt_of_lt_of_le hb hw.size, ht.below hb hw⟩
theorem Reads.shape {w : World} {v : Value} {ts : List Tok} (h : Reads w v ts) : ∃ ad cap, v = .slice ad ts.length cap := by
  rcases h with ⟨rfl, ad, cap, rfl⟩ | ⟨b, o, cap, rfl, _⟩
  · exact ⟨ad, cap, rfl⟩
  · exact ⟨_, cap, rfl⟩
theorem rowCells_at (ts : List Tok) (i : Nat) (t : Tok) (h : ts[i]? = some t) : (rowCells ts)[i * 3]? = some (.int .u8 t.kind) ∧ (rowCells ts)[i * 3 + 1]? = some (.string ⟨t.text.toArray⟩) ∧ (rowCells ts)[i * 3 + 2]? = some (.int .i64 t.at_) := by
  induction ts generalizing i with
  | nil => simp at h
  | cons u ts ih =>
    cases i with
    | zero =>
      simp at h; subst h
      exact ⟨rfl, rfl, rfl⟩
    | succ i =>
      have := ih i (by simpa using h)
      rw [show (i + 1) * 3 = i * 3 + 3 by omega]
      exact this
/-- What All returns reads as its tokens. -/
theorem own_reads {w : World} {base : Nat} {v : Value} {ts : List Tok} (h : w.ownsRow base 40 3 v ts.length (rowCells ts)) : Reads w v ts := by
  rcases h.2 with ⟨rfl, h0⟩ | ⟨g, cap, cur, rfl, hb, hg, _⟩
  · rw [List.length_eq_zero_iff] at h0
    subst h0
    exact .inl ⟨rfl, _, _, rfl⟩
  · refine .inr ⟨g, 0, cap, rfl, (Array.getElem?_eq_some_iff.1 hg).1, fun i t ht => ?_⟩
    have hcc := h.cells (g := g) rfl
    obtain ⟨h0, h1, h2⟩ := rowCells_at ts i t ht
    have e : ∀ j, (⟨g, 0, none⟩ : Addr).add j = ⟨g, 0 + j, none⟩ := fun j => Addr.add_mid g 0 j
    refine ⟨?_, ?_, ?_⟩
    · have := hcc _ _ h0; rwa [e] at this
    · have := hcc _ _ h1; rwa [e] at this
    · have := hcc _ _ h2; rwa [e] at this

/-- The token at a place of a slice. -/
theorem Reads.tok {w : World} {v : Value} {ts : List Tok} (h : Reads w v ts) (k : Nat) (hk : k < ts.length) :
    ∃ b o cap x, v = .slice (some ⟨b, o, none⟩) ts.length cap ∧ x.data.toList = ts[k].text ∧ b < w.heap.size ∧ w.cell? ⟨b, o + k * 3, none⟩ = some (.int .u8 ts[k].kind) ∧ w.cell? ⟨b, o + k * 3 + 1, none⟩ = some (.string x) ∧ w.cell? ⟨b, o + k * 3 + 2, none⟩ = some (.int .i64 ts[k].at_) := by
  rcases h with ⟨rfl, _⟩ | ⟨b, o, cap, rfl, hb, ht⟩
  · simp at hk
  · obtain ⟨h0, h1, h2⟩ := ht k _ (List.getElem?_eq_getElem hk)
    exact ⟨b, o, cap, ⟨ts[k].text.toArray⟩, rfl, rfl, hb, h0, h1, h2⟩
end Go.Proofs.YtdinaedknlkicaaGreatDoor

/-
  Facts for the walk of layer 5's statement ExprsNames: answers at given texts and tokens, rows of tokens that are laid.
-/
import Derived.Test.YtbhipjinoammjaaDoorPackE1
import Derived.Laws.OwnMore
import Derived.Outline
namespace Go.Proofs.YtbhipjinoammjaaDoor.ExprW
open Nodes Exprs
open Go.ChangeShapes Go.WideShapes Go.ChangeAt Go.RowKit

def vTok : Tok := ⟨2, 0, [118]⟩
def zeroTok : Tok := ⟨0, 0, []⟩
def wrongs : List (List UInt8) := [[], [41], [40], [40, 118], [40, 41], [118, 32, 118], [45, 32], [110, 111, 116], [118, 32, 43, 32, 110, 111, 116, 32, 107], [45, 110, 111, 116, 32, 118], [118, 32, 42], [115, 101, 108, 101, 99, 116], [60, 32, 49], [118, 32, 60, 32, 110, 111, 116, 32, 107], [61, 32, 118], [107, 32, 97, 110, 100], [49, 32, 50]]
def wats : List Int := [0, 0, 1, 2, 1, -1, 1, 1, 2, 1, 2, 0, 0, 2, 0, 2, -1]
def wrongB (k : Nat) : Bool := decide ((allV (wrongs.getD k [])).2.2 = 0) && (if 0 ≤ wats.getD k 0 then decide ((parseV (allV (wrongs.getD k [])).1 0).2 = (wats.getD k 0, 12)) else decide ((parseV (allV (wrongs.getD k [])).1 0).2 = (1, 0)))
theorem wrong_all : ∀ k : Fin 17, wrongB k.val = true := by decide +kernel
/-- v + v + .. -/
def sumT : Nat → List Tok
  | 0 => [vTok]
  | i + 1 => sumT i ++ [⟨3, (i : Int) + 1, [43]⟩, vTok]
theorem sum_is : (parseV (sumT 20) 0).1.length = 0 ∧ (parseV (sumT 20) 0).2 = (39, 34) := by decide +kernel
def minusT : Tok := ⟨3, 0, [45]⟩
def leftT : Tok := ⟨3, 0, [40]⟩
def rightT : Tok := ⟨3, 0, [41]⟩
theorem signs_is : (parseV (List.replicate 20 minusT ++ [vTok]) 0).1.length = 0 ∧ (parseV (List.replicate 20 minusT ++ [vTok]) 0).2 = (0, 34) := by decide +kernel
theorem brackets_is : (parseV (List.replicate 60 leftT ++ [vTok] ++ List.replicate 60 rightT) 0).1.length = 1 ∧ (parseV (List.replicate 60 leftT ++ [vTok] ++ List.replicate 60 rightT) 0).2 = (121, 0) := by decide +kernel
theorem many_is : (parseV (List.replicate 201 zeroTok) 0).1.length = 0 ∧ (parseV (List.replicate 201 zeroTok) 0).2 = (0, 4) := by decide +kernel
theorem zero_is : (parseV [zeroTok] 9).1.length = 0 ∧ (parseV [zeroTok] 9).2 = (0, 8) := by decide +kernel
theorem far_is : (parseV [⟨2, 401, [118]⟩] 0).1.length = 0 ∧ (parseV [⟨2, 401, [118]⟩] 0).2 = (0, 8) := by decide +kernel
theorem two_is : (parseV [vTok] 2).1.length = 0 ∧ (parseV [vTok] 2).2 = (0, 2) := by decide +kernel
theorem one_is : (parseV [vTok] 1).1.length = 0 ∧ (parseV [vTok] 1).2 = (1, 12) := by decide +kernel
theorem nil_is : textV [] = ([], 8) := by decide +kernel
theorem texts_are : readsB [48, 48, 55] [55] = true ∧ readsB [116] [116] = true := by decide +kernel
/-! ### The texts that are no expressions, and where -/
theorem wrong_short : ∀ k : Fin 17, (wrongs.getD k.val []).length ≤ 20 := by decide
def wrongVals : Array Value := (wrongs.map fun x => Value.string ⟨x.toArray⟩).toArray
def watVals : Array Value := (wats.map fun n => Value.int .i64 n).toArray
def WrongAt (nb : Nat) (W : World) : Prop := nb + 1 < W.heap.size ∧ ∀ k : Nat, k < 17 → W.cell? ⟨nb, k, none⟩ = some (.string ⟨(wrongs.getD k []).toArray⟩) ∧ W.cell? ⟨nb + 1, k, none⟩ = some (.int .i64 (wats.getD k 0))
theorem wrongVals_at : ∀ k : Nat, k < 17 → wrongVals[k]? = some (.string ⟨(wrongs.getD k []).toArray⟩) ∧ watVals[k]? = some (.int .i64 (wats.getD k 0))
  | 0, _ => ⟨rfl, rfl⟩
  | 1, _ => ⟨rfl, rfl⟩
  | 2, _ => ⟨rfl, rfl⟩
  | 3, _ => ⟨rfl, rfl⟩
  | 4, _ => ⟨rfl, rfl⟩
  | 5, _ => ⟨rfl, rfl⟩
  | 6, _ => ⟨rfl, rfl⟩
  | 7, _ => ⟨rfl, rfl⟩
  | 8, _ => ⟨rfl, rfl⟩
  | 9, _ => ⟨rfl, rfl⟩
  | 10, _ => ⟨rfl, rfl⟩
  | 11, _ => ⟨rfl, rfl⟩
  | 12, _ => ⟨rfl, rfl⟩
  | 13, _ => ⟨rfl, rfl⟩
  | 14, _ => ⟨rfl, rfl⟩
  | 15, _ => ⟨rfl, rfl⟩
  | 16, _ => ⟨rfl, rfl⟩
  | _ + 17, h => absurd h (by omega)
theorem wrong_start (w : World) : WrongAt w.heap.size ((w.alloc (.cells wrongVals 9)).alloc (.cells watVals 3)) := by
  refine ⟨by simp, fun k hk => ?_⟩
  obtain ⟨h1, h2⟩ := wrongVals_at k hk
  refine ⟨?_, ?_⟩
  · rw [World.cell?_alloc_lt _ _ _ (by simp), World.cell?_alloc_at _ _ _ _ rfl, h1]
  · rw [World.cell?_alloc_at _ _ _ _ (by simp), h2]
theorem WrongAt.below {nb : Nat} {W W' : World} (h : WrongAt nb W) (hb : Below W.heap.size W W') : WrongAt nb W' :=
  ⟨Nat.lt_of_lt_of_le h.1 hb.size, fun k hk => ⟨(hb.cell (p := ⟨nb, k, none⟩) (show nb < W.heap.size by have := h.1; omega)).trans (h.2 k hk).1, (hb.cell (p := ⟨_, _, none⟩) h.1).trans (h.2 k hk).2⟩⟩
/-! ### The token "v", in a variable; rows that grow -/
def vCells : Array Value := #[.int .u8 2, .string { data := #[118] }, .int .i64 0]
def VAt (vb : Nat) (W : World) : Prop := vb < W.heap.size ∧ W.cell? ⟨vb, 0, none⟩ = some (.int .u8 2) ∧ W.cell? ⟨vb, 1, none⟩ = some (.string { data := #[118] }) ∧ W.cell? ⟨vb, 2, none⟩ = some (.int .i64 0)
theorem VAt.start (W : World) : VAt W.heap.size (W.alloc (.cells vCells 33)) := by
  refine ⟨by simp, ?_, ?_, ?_⟩ <;> rw [World.cell?_alloc_at _ _ _ _ rfl] <;> rfl
theorem VAt.below {vb : Nat} {W W' : World} (h : VAt vb W) (hb : Below W.heap.size W W') : VAt vb W' :=
  ⟨Nat.lt_of_lt_of_le h.1 hb.size, (hb.cell (p := ⟨vb, 0, none⟩) h.1).trans h.2.1, (hb.cell (p := ⟨vb, 1, none⟩) h.1).trans h.2.2.1, (hb.cell (p := ⟨vb, 2, none⟩) h.1).trans h.2.2.2⟩
theorem rowCells_join (a b : List Tok) : rowCells (a ++ b) = rowCells a ++ rowCells b := by simp [rowCells, List.flatMap_append]
theorem sumT_len (k : Nat) : (sumT k).length = 2 * k + 1 := by
  induction k with
  | zero => rfl
  | succ k ih => show (sumT k ++ [_, _]).length = _; rw [List.length_append, ih]; rfl
theorem own_more {w : World} {base : Nat} {v : Value} {a b c : List Tok} {news : List Value} {n m : Nat} (h : w.ownsRow base 33 3 v (n + m) (rowCells a ++ news)) (hc : c = a ++ b) (hn : a.length = n) (hm : b.length = m) (hr : rowCells b = news) : w.ownsRow base 33 3 v c.length (rowCells c) := by
  subst hc hn hm hr
  rw [rowCells_join, List.length_append]
  exact h
theorem own_tok (W : World) (t : Tok) (cs : Array Value) (h : (rowCells [t]).toArray = cs) : (W.alloc (.cells cs 33)).ownsRow W.heap.size 33 3 (.slice (some ⟨W.heap.size, 0, none⟩) 1 1) 1 (rowCells [t]) := by
  subst h
  have := World.ownsRow_lit (base := W.heap.size) (e := 33) (size := 3) W (rowCells [t]).toArray 1 (Nat.le_refl _) (by unfold maxLen; omega) (by rw [List.size_toArray, rowCells_len]; rfl)
  rwa [List.toList_toArray] at this
theorem tok_info : ∃ i0, Tryd.prog.info? 33 = some i0 ∧ i0.zero = some (.agg #[.int .u8 0, .string { data := #[] }, .int .i64 0]) ∧ i0.size = 3 ∧ i0.bytes = 32 := by
  obtain ⟨i0, hi, hz0, hz1, hz2⟩ := info_parts info_tok
  exact ⟨i0, hi, hz0, hz1, hz2⟩
/-! ### make -/
theorem made_row (n : Nat) : (madeCells (Value.agg #[.int .u8 0, .string { data := #[] }, .int .i64 0]).cells (n * 3)).toList = rowCells (List.replicate n zeroTok) := by
  apply List.ext_getElem
  · rw [Array.length_toList, size_madeCells, rowCells_len, List.length_replicate]
  · intro j h1 h2
    rw [Array.length_toList, size_madeCells] at h1
    have hq : j / 3 < n := by omega
    obtain ⟨c0, c1, c2⟩ := rowCells_at (List.replicate n zeroTok) (j / 3) zeroTok (by rw [List.getElem?_replicate, if_pos hq])
    have hj : (madeCells (Value.agg #[.int .u8 0, .string { data := #[] }, .int .i64 0]).cells (n * 3)).toList[j] = #[Value.int .u8 0, .string { data := #[] }, .int .i64 0][j % 3]! := by
      simp only [madeCells, Array.toList_map, List.getElem_map, Array.toList_range, List.getElem_range]
      rfl
    rw [hj]
    have hr : j % 3 = 0 ∨ j % 3 = 1 ∨ j % 3 = 2 := by omega
    apply Option.some.inj
    rw [← List.getElem?_eq_getElem h2]
    rcases hr with hr | hr | hr
    · rw [hr, show j = j / 3 * 3 by omega, c0]; rfl
    · rw [hr, show j = j / 3 * 3 + 1 by omega, c1]; rfl
    · rw [hr, show j = j / 3 * 3 + 2 by omega, c2]; rfl
/-- make([]api.Token, n): n tokens that are zero, in a new block. -/
theorem make_toks (w : World) (n : Nat) (hn : n ≤ 1000) : ∃ w1, (Instr.makeSlice 25 (.int .i64 (n : Int)) (.int .i64 (n : Int))).run Tryd.prog w = .ok (.slice (some ⟨w.heap.size, 0, none⟩) n n) w1 ∧
    w1.ownsRow w.heap.size 33 3 (.slice (some ⟨w.heap.size, 0, none⟩) n n) n (rowCells (List.replicate n zeroTok)) ∧ Below w.heap.size w w1 := by
  obtain ⟨i0, hi, hz0, hz1, hz2⟩ := info_parts info_tok
  obtain ⟨w1, h1, h2, h3⟩ := run_make_full (P := Tryd.prog) (w := w) w.heap.size 25 33 i0 _ 3 Tryd.underlying25 hi hz0 hz1 .i64 .i64 n (by rw [hz2]; omega) (by unfold maxLen; omega) (Nat.le_refl _)
  rw [made_row n] at h2
  exact ⟨w1, h1, h2, (Below.refl _ _).grown h3 (Nat.le_refl _) (by simp)⟩
theorem make_at (w : World) (n : Nat) (m : Int) (e : m = n) (hn : n ≤ 1000) : ∃ w1, (Instr.makeSlice 25 (.int .i64 m) (.int .i64 m)).run Tryd.prog w = .ok (.slice (some ⟨w.heap.size, 0, none⟩) n n) w1 ∧
    w1.ownsRow w.heap.size 33 3 (.slice (some ⟨w.heap.size, 0, none⟩) n n) n (rowCells (List.replicate n zeroTok)) ∧ Below w.heap.size w w1 := by
  subst e
  exact make_toks w n hn
theorem make_201 (w : World) : ∃ w1, (Instr.makeSlice 25 (.int .i64 201) (.int .i64 201)).run Tryd.prog w = .ok (.slice (some ⟨w.heap.size, 0, none⟩) 201 201) w1 ∧
    w1.ownsRow w.heap.size 33 3 (.slice (some ⟨w.heap.size, 0, none⟩) 201 201) 201 (rowCells (List.replicate 201 zeroTok)) ∧ Below w.heap.size w w1 := make_at w 201 201 (by omega) (by omega)
/-- Signs; brackets to the left; brackets to the left, a token, brackets to the right. -/
def minT (k : Nat) : List Tok := List.replicate k minusT
def lefT (k : Nat) : List Tok := List.replicate k leftT
def braT (k : Nat) : List Tok := List.replicate 60 leftT ++ [vTok] ++ List.replicate k rightT
theorem minT_len (k : Nat) : (minT k).length = k := List.length_replicate
theorem lefT_len (k : Nat) : (lefT k).length = k := List.length_replicate
theorem braT_len (k : Nat) : (braT k).length = 61 + k := by unfold braT; rw [List.length_append, List.length_append, List.length_replicate, List.length_replicate]; rfl
theorem rep_more (t : Tok) (k : Nat) : List.replicate (k + 1) t = List.replicate k t ++ [t] := List.replicate_succ'
theorem minT_more (k : Nat) : minT (k + 1) = minT k ++ [minusT] := rep_more minusT k
theorem lefT_more (k : Nat) : lefT (k + 1) = lefT k ++ [leftT] := rep_more leftT k
theorem braT_more (k : Nat) : braT (k + 1) = braT k ++ [rightT] := by unfold braT; rw [rep_more rightT k, ← List.append_assoc]
theorem braT_zero : braT 0 = lefT 60 ++ [vTok] := by unfold braT lefT; rw [List.replicate_zero, List.append_nil]
/-- A row behind an append to another one, which lies below it. -/
theorem own_other {w w' : World} {base2 n : Nat} {u v : Value} {xs : List Value} (h : w.ownsRow base2 33 3 v n xs) (hn : 0 < n) (hu : ∀ k, u.ownBlock = some k → k < base2) (hg : w.grownBy w' u.ownBlock) : w'.ownsRow base2 33 3 v n xs := by
  refine h.kept (row := u.ownBlock) hg (.inr fun he => ?_)
  rcases h.2 with ⟨_, h0⟩ | ⟨g, cap, cur, rfl, hb, _⟩
  · omega
  · have : u.ownBlock = some g := he.symm
    have := hu g this
    omega
theorem row_reads {w : World} {base n : Nat} {v : Value} {ts : List Tok} (h : w.ownsRow base 33 3 v n (rowCells ts)) (hl : ts.length = n) : Go.Proofs.YtbhipjinoammjaaDoor.Reads w v ts := by
  subst hl
  exact own_reads h
theorem nil_reads (w : World) : ReadsN w (.slice none 0 0) [] := .inl ⟨rfl, _, _, rfl⟩
theorem nil_wide : Wide [] := fun x h => by cases h
theorem zeros_short : ∀ t ∈ List.replicate 201 zeroTok, t.text.length ≤ 281474976710656 := fun t ht => by rw [(List.mem_replicate.1 ht).2]; decide
end Go.Proofs.YtbhipjinoammjaaDoor.ExprW

/-
  Lists of numbers, windows and queries in memory (layer 8); what the calls read of the package's names; the look-up in a map of truth values that a call makes.
-/
import Derived.Test.YtfmobnlnedljeaaDoorClauseMath
import Derived.Test.YtfmobnlnedljeaaDoorNodeReads
import Derived.Maps.OwnSet
import Derived.Maps.OwnOps
namespace Go.Proofs.YtfmobnlnedljeaaDoor.Nodes
open Go.ChangeShapes Go.WideShapes Go.ChangeAt Go.RowKit

/-! ### Numbers -/
def IntsAt (w : World) (b o : Nat) (l : List Int) : Prop := ∀ i x, l[i]? = some x → w.cell? ⟨b, o + i, none⟩ = some (.int .i64 x)
/-- A slice that reads as these numbers. -/
def ReadsI (w : World) (v : Value) (l : List Int) : Prop :=
  (l = [] ∧ ∃ ad cap, v = .slice ad 0 cap) ∨ ∃ b o more, v = .slice (some ⟨b, o, none⟩) l.length (l.length + more) ∧ b < w.heap.size ∧ IntsAt w b o l
theorem ReadsI.below {w w' : World} {v : Value} {l : List Int} (h : ReadsI w v l) (hw : Below w.heap.size w w') : ReadsI w' v l := by
  rcases h with h | ⟨b, o, cap, rfl, hb, ht⟩
  · exact .inl h
  · exact .inr ⟨b, o, cap, rfl, Nat.lt_of_lt_of_le hb hw.size, fun i x hx => (hw.cell (p := ⟨b, _, none⟩) hb).trans (ht i x hx)⟩
theorem ReadsI.shape {w : World} {v : Value} {l : List Int} (h : ReadsI w v l) : ∃ ad cap, v = .slice ad l.length cap := by
  rcases h with ⟨rfl, ad, cap, rfl⟩ | ⟨b, o, cap, rfl, _⟩
  · exact ⟨ad, cap, rfl⟩
  · exact ⟨_, _, rfl⟩
/-- The number at a place. -/
theorem ReadsI.num {w : World} {v : Value} {l : List Int} (h : ReadsI w v l) (k : Nat) (hk : k < l.length) :
    ∃ b o cap, v = .slice (some ⟨b, o, none⟩) l.length cap ∧ b < w.heap.size ∧ w.cell? ⟨b, o + k, none⟩ = some (.int .i64 l[k]) := by
  rcases h with ⟨rfl, _⟩ | ⟨b, o, cap, rfl, hb, ht⟩
  · simp at hk
  · exact ⟨b, o, _, rfl, hb, ht k _ (List.getElem?_eq_getElem hk)⟩
theorem ReadsN.nil (w : World) (ad : Option Addr) (cap : Nat) : ReadsN w (.slice ad 0 cap) [] := .inl ⟨rfl, _, _, rfl⟩
theorem ReadsI.nil (w : World) (ad : Option Addr) (cap : Nat) : ReadsI w (.slice ad 0 cap) [] := .inl ⟨rfl, _, _, rfl⟩

/-! ### Windows and queries -/
def winCells (x : Wn) : List Value := [.int .u8 x.kind, .int .i64 x.size, .int .i64 x.every]
def winVal (x : Wn) : Value := .agg #[.int .u8 x.kind, .int .i64 x.size, .int .i64 x.every]
abbrev winBox (x : Wn) : Obj := .cells #[.int .u8 x.kind, .int .i64 x.size, .int .i64 x.every] 23
/-- The slices of a query. -/
structure Sl where
  arg : Value
  src : Value
  cond : Value
def qyRow (s : Sl) (q : Qy) : Array Value := #[.int .u8 q.agg, s.arg, s.src, .bool q.join, s.cond, .int .u8 q.win.kind, .int .i64 q.win.size, .int .i64 q.win.every, .bool q.key, .int .u8 q.late]
def qyVal (s : Sl) (q : Qy) : Value := .agg (qyRow s q)
abbrev qyBox (s : Sl) (q : Qy) : Obj := .cells #[.int .u8 q.agg, s.arg, s.src, .bool q.join, s.cond, .int .u8 q.win.kind, .int .i64 q.win.size, .int .i64 q.win.every, .bool q.key, .int .u8 q.late] 32
/-- A query's slices read as its lists. -/
structure ReadsQ (w : World) (s : Sl) (q : Qy) : Prop where
  arg : ReadsN w s.arg q.arg
  src : ReadsI w s.src q.src
  cond : ReadsN w s.cond q.cond
theorem ReadsQ.below {w w' : World} {s : Sl} {q : Qy} (h : ReadsQ w s q) (hw : Below w.heap.size w w') : ReadsQ w' s q := ⟨h.arg.below hw, h.src.below hw, h.cond.below hw⟩
/-- A query in a block of its own. -/
def QyAt (w : World) (b : Nat) (s : Sl) (q : Qy) : Prop := w.heap[b]? = some (qyBox s q)
theorem QyAt.lt {w : World} {b : Nat} {s : Sl} {q : Qy} (h : QyAt w b s q) : b < w.heap.size := (Array.getElem?_eq_some_iff.1 h).1
theorem QyAt.below {w w' : World} {b : Nat} {s : Sl} {q : Qy} (h : QyAt w b s q) (hb : Below w.heap.size w w') : QyAt w' b s q := (hb.block _ h.lt).trans h
theorem QyAt.cells {w : World} {b : Nat} {s : Sl} {q : Qy} (h : QyAt w b s q) : w.cell? ⟨b, 0, none⟩ = some (.int .u8 q.agg) ∧ w.cell? ⟨b, 1, none⟩ = some s.arg ∧ w.cell? ⟨b, 2, none⟩ = some s.src ∧ w.cell? ⟨b, 3, none⟩ = some (.bool q.join) ∧ w.cell? ⟨b, 4, none⟩ = some s.cond ∧
    w.cell? ⟨b, 5, none⟩ = some (.int .u8 q.win.kind) ∧ w.cell? ⟨b, 6, none⟩ = some (.int .i64 q.win.size) ∧ w.cell? ⟨b, 7, none⟩ = some (.int .i64 q.win.every) ∧ w.cell? ⟨b, 8, none⟩ = some (.bool q.key) ∧ w.cell? ⟨b, 9, none⟩ = some (.int .u8 q.late) := by
  unfold QyAt at h
  unfold World.cell?
  simp only [h]
  exact ⟨rfl, rfl, rfl, rfl, rfl, rfl, rfl, rfl, rfl, rfl⟩
theorem qy_at (w : World) (s : Sl) (q : Qy) : QyAt (w.alloc (qyBox s q)) w.heap.size s q := heap_alloc_new _ _
def WinAt (w : World) (b : Nat) (x : Wn) : Prop := w.heap[b]? = some (winBox x)
theorem WinAt.lt {w : World} {b : Nat} {x : Wn} (h : WinAt w b x) : b < w.heap.size := (Array.getElem?_eq_some_iff.1 h).1
theorem WinAt.below {w w' : World} {b : Nat} {x : Wn} (h : WinAt w b x) (hb : Below w.heap.size w w') : WinAt w' b x := (hb.block _ h.lt).trans h
theorem WinAt.cells {w : World} {b : Nat} {x : Wn} (h : WinAt w b x) : w.cell? ⟨b, 0, none⟩ = some (.int .u8 x.kind) ∧ w.cell? ⟨b, 1, none⟩ = some (.int .i64 x.size) ∧ w.cell? ⟨b, 2, none⟩ = some (.int .i64 x.every) := by
  unfold WinAt at h
  unfold World.cell?
  simp only [h]
  exact ⟨rfl, rfl, rfl⟩
theorem win_at (w : World) (x : Wn) : WinAt (w.alloc (winBox x)) w.heap.size x := heap_alloc_new _ _

/-! ### Names -/
def nameRow : Array Value := #[.string ⟨#[97]⟩, .string ⟨#[98]⟩, .string ⟨#[99]⟩, .string ⟨#[100]⟩]
theorem gName : Tryd.prog.globalNamed "tailwater/clauses.names" = some 0 := by kernel_rfl
/-- What the calls read: the names. -/
def NameFix (w : World) : Prop := w.var? Tryd.prog "tailwater/clauses.names" = some nameRow
theorem NameFix.lt {w : World} (h : NameFix w) : 0 < w.heap.size := by
  rcases Nat.lt_or_ge 0 w.heap.size with h' | h'
  · exact h'
  · unfold NameFix World.var? at h
    simp [gName, Array.getElem?_eq_none h'] at h
theorem NameFix.below {w w' : World} (h : NameFix w) (hb : Below w.heap.size w w') : NameFix w' := var?_below hb gName h.lt h
theorem NameFix.cell {w : World} (h : NameFix w) : ∀ k : Nat, k < 4 → w.cell? ⟨0, k, none⟩ = some (.string (nameAt k))
  | 0, _ => (World.var?_cell gName h 0).trans rfl
  | 1, _ => (World.var?_cell gName h 1).trans rfl
  | 2, _ => (World.var?_cell gName h 2).trans rfl
  | 3, _ => (World.var?_cell gName h 3).trans rfl
  | _ + 4, e => absurd e (by omega)
theorem NameFix.row {w : World} (h : NameFix w) : w.rangeAt 0 0 nameRow.toList := fun j v hv => by
  have := World.var?_cell gName h j
  rw [Nat.zero_add, this]; simpa using hv
theorem iName : (Tryd.prog.info? 69).map (·.size) = some nameRow.toList.length := by kernel_rfl
theorem name_index : ∀ k : Nat, k < 4 → ∀ w : World, (Instr.index 69 (.agg nameRow) (.int .i64 (k : Int))).run Tryd.prog w = .ok (.string (nameAt k)) w
  | 0, _ => fun _ => by kernel_rfl
  | 1, _ => fun _ => by kernel_rfl
  | 2, _ => fun _ => by kernel_rfl
  | 3, _ => fun _ => by kernel_rfl
  | _ + 4, h => absurd h (by omega)

/-! ### A map of truth values -/
theorem bool_elem {H : Type} {P : Program} {e : TypeId} (he : P.underlying e = some .bool) {v : Value} {z : DataW H × List MemPlace} (h : plainElem P e v = some z) : ∃ x, v = .bool x ∧ z = (.lit (.bool x), []) := by
  unfold plainElem at h
  rw [he] at h
  cases v <;> simp at h
  exact ⟨_, rfl, h.symm⟩
theorem look_bool {H : Type} {P : Program} {k t e : TypeId} {w : World} {b n : Nat} {D : DataW H} (h : w.ownsMap P k (plainElem P e) b n D) (K : Maps.Keyed P k) (ht : P.underlying t = some (.map k e)) (he : P.underlying e = some .bool) (hz : (zeroValue e).run P w = .ok (.bool false) w)
    {key : Value} {kl : Lit} (hkey : keyOf P k key = some kl) : ∃ c, (Instr.lookup t (.map (some b)) key false).run P w = .ok (.bool c) w ∧ D.atKey kl (.lit (.bool false)) = .lit (.bool c) := by
  obtain ⟨v, ps, hrun, hv⟩ := h.lookup K ht hz (plainElem_bool he false) hkey
  obtain ⟨c, rfl, hc⟩ := bool_elem he hv
  simp only [Prod.mk.injEq] at hc
  exact ⟨c, hrun, hc.1⟩
theorem wpList_look_bool {H : Type} {P : Program} (w : World) {ops : Array Oper} {rest : List Oper} {o : Oper} {a : Act} {Q : Exit → Act → World → Prop}
    (hg : o.guard = none) (m x : Operand) (t : TypeId) (hop : o.op = Op.lookup t m x false)
    (k e : TypeId) (K : Maps.Keyed P k) (ht : P.underlying t = some (.map k e)) (he : P.underlying e = some .bool) (hz : (zeroValue e).run P w = .ok (.bool false) w) (b n : Nat) (D : DataW H)
    (hm : a.eval m = .map (some b)) (hown : w.ownsMap P k (plainElem P e) b n D) (key : Value) (kl : Lit) (hx : a.eval x = key) (hkey : keyOf P k key = some kl) (c : Bool)
    (hat : D.atKey kl (.lit (.bool false)) = .lit (.bool c)) (hK : wpList P ops Q rest (a.put o.dst (.bool c)) w) :
    wpList P ops Q (o :: rest) a w := by
  refine wpList_plain hg fun K' hK' => ?_
  obtain ⟨c', hrun, hat'⟩ := look_bool hown K ht he hz hkey
  obtain rfl : c' = c := by rw [hat] at hat'; injection hat' with h1; injection h1 with h2; exact h2.symm
  unfold Oper.wp
  simp [execOp, hop, hm, hx, hrun, Result.andThen]
  exact hK' _ _ hK
/-- The map holds just the numbers of a list. -/
def Holds (D : DataW Unit) (l : List Int) : Prop := Maps.IsMap D ∧ ∀ x, D.atKey (.int .i64 x) (.lit (.bool false)) = .lit (.bool (decide (x ∈ l)))
theorem holds_nil : Holds (.map []) [] := ⟨Maps.isMap_empty, fun _ => rfl⟩
theorem holds_put {D : DataW Unit} {l : List Int} (h : Holds D l) (x : Int) : Holds (D.put (.int .i64 x) (.lit (.bool true))) (l ++ [x]) := by
  refine ⟨h.1.put _ _, fun y => ?_⟩
  by_cases e : y = x
  · subst e
    rw [Maps.atKey_put_same h.1 (show WideAt.IsKeyLit (.int .i64 y) from trivial)]
    simp
  · rw [Maps.atKey_put_other (by intro e2; injection e2 with _ e3; exact e e3), h.2]
    simp [e]
end Go.Proofs.YtfmobnlnedljeaaDoor.Nodes

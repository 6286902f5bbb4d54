/-
  Texts of this seat in one: ClauseReads; ClauseAsks; ClauseParts; ClauseWin; QyBlock; ClauseTells; ClauseHelp; QyState.
-/
import Derived.Test.YtdinaedknlkicaaGreatDoorClauseMath
import Derived.Test.YtdinaedknlkicaaGreatDoorNodeReads
import Derived.Maps.OwnSet
import Derived.Maps.OwnOps
import Derived.Test.YtdinaedknlkicaaGreatDoorNodeSame
import Derived.Test.YtdinaedknlkicaaGreatDoorNodeLand
import Derived.Outline
import Derived.Deep.QuietTactic
import Derived.BigQuiet
/-
  Lists of numbers, windows and queries in memory (layer 8); what the calls read of the package's names; the look-up in a map of truth values that a call makes.
-/
namespace Go.Proofs.YtdinaedknlkicaaGreatDoor.Nodes
open Go.ChangeShapes Go.WideShapes Go.ChangeAt Go.RowKit

/-! ### Numbers -/
def IntsAt (w : World) (b o : Nat) (l : List Int) : Prop := ∀ i x, l[i]? = some x → w.cell? ⟨b, o + i, none⟩ = some (.int .i64 x)
/-- A slice that reads as these numbers. -/
def ReadsI (w : World) (v : Value) (l : List Int) : Prop :=
  (l = [] ∧ ∃ ad cap, v = .slice ad 0 cap) ∨ ∃ b o more, v = .slice (some ⟨b, o, none⟩) l.length (l.length + more) ∧ b < w.heap.size ∧ IntsAt w b o l
theorem ReadsI.below {w w' : World} {v : Value} {l : List Int} (h : ReadsI w v l) (hw : Below w.heap.size w w') : ReadsI w' v l := by
  rcases h with h | ⟨b, o, cap, rfl, hb, ht⟩
  · exact .inl h
  · exact .inr ⟨b, o, cap, rfl, Nat.lt_of_lt_of_le hb hw.size, fun i x hx => (hw.cell (p := ⟨b, _, none⟩) hb).trans (ht i x hx)⟩
theorem ReadsI.shape {w : World} {v : Value} {l : List Int} (h : ReadsI w v l) : ∃ ad cap, v = .slice ad l.length cap := by
  rcases h with ⟨rfl, ad, cap, rfl⟩ | ⟨b, o, cap, rfl, _⟩
  · exact ⟨ad, cap, rfl⟩
  · exact ⟨_, _, rfl⟩
/-- The number at a place. -/
theorem ReadsI.num {w : World} {v : Value} {l : List Int} (h : ReadsI w v l) (k : Nat) (hk : k < l.length) :
    ∃ b o cap, v = .slice (some ⟨b, o, none⟩) l.length cap ∧ b < w.heap.size ∧ w.cell? ⟨b, o + k, none⟩ = some (.int .i64 l[k]) := by
  rcases h with ⟨rfl, _⟩ | ⟨b, o, cap, rfl, hb, ht⟩
  · simp at hk
  · exact ⟨b, o, _, rfl, hb, ht k _ (List.getElem?_eq_getElem hk)⟩
theorem ReadsN.nil (w : World) (ad : Option Addr) (cap : Nat) : ReadsN w (.slice ad 0 cap) [] := .inl ⟨rfl, _, _, rfl⟩
theorem ReadsI.nil (w : World) (ad : Option Addr) (cap : Nat) : ReadsI w (.slice ad 0 cap) [] := .inl ⟨rfl, _, _, rfl⟩

/-! ### Windows and queries -/
def winCells (x : Wn) : List Value := [.int .u8 x.kind, .int .i64 x.size, .int .i64 x.every]
def winVal (x : Wn) : Value := .agg #[.int .u8 x.kind, .int .i64 x.size, .int .i64 x.every]
abbrev winBox (x : Wn) : Obj := .cells #[.int .u8 x.kind, .int .i64 x.size, .int .i64 x.every] 26
/-- The slices of a query. -/
structure Sl where
  arg : Value
  src : Value
  cond : Value
def qyRow (s : Sl) (q : Qy) : Array Value := #[.int .u8 q.agg, s.arg, s.src, .bool q.join, s.cond, .int .u8 q.win.kind, .int .i64 q.win.size, .int .i64 q.win.every, .bool q.key, .int .u8 q.late]
def qyVal (s : Sl) (q : Qy) : Value := .agg (qyRow s q)
abbrev qyBox (s : Sl) (q : Qy) : Obj := .cells #[.int .u8 q.agg, s.arg, s.src, .bool q.join, s.cond, .int .u8 q.win.kind, .int .i64 q.win.size, .int .i64 q.win.every, .bool q.key, .int .u8 q.late] 28
/-- A query's slices read as its lists. -/
structure ReadsQ (w : World) (s : Sl) (q : Qy) : Prop where
  arg : ReadsN w s.arg q.arg
  src : ReadsI w s.src q.src
  cond : ReadsN w s.cond q.cond
theorem ReadsQ.below {w w' : World} {s : Sl} {q : Qy} (h : ReadsQ w s q) (hw : Below w.heap.size w w') : ReadsQ w' s q := ⟨h.arg.below hw, h.src.below hw, h.cond.below hw⟩
/-- A query in a block of its own. -/
def QyAt (w : World) (b : Nat) (s : Sl) (q : Qy) : Prop := w.heap[b]? = some (qyBox s q)
theorem QyAt.lt {w : World} {b : Nat} {s : Sl} {q : Qy} (h : QyAt w b s q) : b < w.heap.size := (Array.getElem?_eq_some_iff.1 h).1
theorem QyAt.below {w w' : World} {b : Nat} {s : Sl} {q : Qy} (h : QyAt w b s q) (hb : Below w.heap.size w w') : QyAt w' b s q := (hb.block _ h.lt).trans h
theorem QyAt.cells {w : World} {b : Nat} {s : Sl} {q : Qy} (h : QyAt w b s q) : w.cell? ⟨b, 0, none⟩ = some (.int .u8 q.agg) ∧ w.cell? ⟨b, 1, none⟩ = some s.arg ∧ w.cell? ⟨b, 2, none⟩ = some s.src ∧ w.cell? ⟨b, 3, none⟩ = some (.bool q.join) ∧ w.cell? ⟨b, 4, none⟩ = some s.cond ∧
    w.cell? ⟨b, 5, none⟩ = some (.int .u8 q.win.kind) ∧ w.cell? ⟨b, 6, none⟩ = some (.int .i64 q.win.size) ∧ w.cell? ⟨b, 7, none⟩ = some (.int .i64 q.win.every) ∧ w.cell? ⟨b, 8, none⟩ = some (.bool q.key) ∧ w.cell? ⟨b, 9, none⟩ = some (.int .u8 q.late) := by
  unfold QyAt at h
  unfold World.cell?
  simp only [h]
  exact ⟨rfl, rfl, rfl, rfl, rfl, rfl, rfl, rfl, rfl, rfl⟩
theorem qy_at (w : World) (s : Sl) (q : Qy) : QyAt (w.alloc (qyBox s q)) w.heap.size s q := heap_alloc_new _ _
def WinAt (w : World) (b : Nat) (x : Wn) : Prop := w.heap[b]? = some (winBox x)
theorem WinAt.lt {w : World} {b : Nat} {x : Wn} (h : WinAt w b x) : b < w.heap.size := (Array.getElem?_eq_some_iff.1 h).1
theorem WinAt.below {w w' : World} {b : Nat} {x : Wn} (h : WinAt w b x) (hb : Below w.heap.size w w') : WinAt w' b x := (hb.block _ h.lt).trans h
theorem WinAt.cells {w : World} {b : Nat} {x : Wn} (h : WinAt w b x) : w.cell? ⟨b, 0, none⟩ = some (.int .u8 x.kind) ∧ w.cell? ⟨b, 1, none⟩ = some (.int .i64 x.size) ∧ w.cell? ⟨b, 2, none⟩ = some (.int .i64 x.every) := by
  unfold WinAt at h
  unfold World.cell?
  simp only [h]
  exact ⟨rfl, rfl, rfl⟩
theorem win_at (w : World) (x : Wn) : WinAt (w.alloc (winBox x)) w.heap.size x := heap_alloc_new _ _

/-! ### Names -/
def nameRow : Array Value := #[.string ⟨#[97]⟩, .string ⟨#[98]⟩, .string ⟨#[99]⟩, .string ⟨#[100]⟩]
theorem gName : Tryz.prog.globalNamed "tailwater/clauses.names" = some 0 := by kernel_rfl
/-- What the calls read: the names. -/
def NameFix (w : World) : Prop := w.var? Tryz.prog "tailwater/clauses.names" = some nameRow
theorem NameFix.lt {w : World} (h : NameFix w) : 0 < w.heap.size := by
  rcases Nat.lt_or_ge 0 w.heap.size with h' | h'
  · exact h'
  · unfold NameFix World.var? at h
    simp [gName, Array.getElem?_eq_none h'] at h
theorem NameFix.below {w w' : World} (h : NameFix w) (hb : Below w.heap.size w w') : NameFix w' := var?_below hb gName h.lt h
theorem NameFix.cell {w : World} (h : NameFix w) : ∀ k : Nat, k < 4 → w.cell? ⟨0, k, none⟩ = some (.string (nameAt k))
  | 0, _ => (World.var?_cell gName h 0).trans rfl
  | 1, _ => (World.var?_cell gName h 1).trans rfl
  | 2, _ => (World.var?_cell gName h 2).trans rfl
  | 3, _ => (World.var?_cell gName h 3).trans rfl
  | _ + 4, e => absurd e (by omega)
theorem NameFix.row {w : World} (h : NameFix w) : w.rangeAt 0 0 nameRow.toList := fun j v hv => by
  have := World.var?_cell gName h j
  rw [Nat.zero_add, this]; simpa using hv
theorem iName : (Tryz.prog.info? 108).map (·.size) = some nameRow.toList.length := by kernel_rfl
theorem name_index : ∀ k : Nat, k < 4 → ∀ w : World, (Instr.index 108 (.agg nameRow) (.int .i64 (k : Int))).run Tryz.prog w = .ok (.string (nameAt k)) w
  | 0, _ => fun _ => by kernel_rfl
  | 1, _ => fun _ => by kernel_rfl
  | 2, _ => fun _ => by kernel_rfl
  | 3, _ => fun _ => by kernel_rfl
  | _ + 4, h => absurd h (by omega)

/-! ### A map of truth values -/
theorem bool_elem {H : Type} {P : Program} {e : TypeId} (he : P.underlying e = some .bool) {v : Value} {z : DataW H × List MemPlace} (h : plainElem P e v = some z) : ∃ x, v = .bool x ∧ z = (.lit (.bool x), []) := by
  unfold plainElem at h
  rw [he] at h
  cases v <;> simp at h
  exact ⟨_, rfl, h.symm⟩
theorem look_bool {H : Type} {P : Program} {k t e : TypeId} {w : World} {b n : Nat} {D : DataW H} (h : w.ownsMap P k (plainElem P e) b n D) (K : Maps.Keyed P k) (ht : P.underlying t = some (.map k e)) (he : P.underlying e = some .bool) (hz : (zeroValue e).run P w = .ok (.bool false) w)
    {key : Value} {kl : Lit} (hkey : keyOf P k key = some kl) : ∃ c, (Instr.lookup t (.map (some b)) key false).run P w = .ok (.bool c) w ∧ D.atKey kl (.lit (.bool false)) = .lit (.bool c) := by
  obtain ⟨v, ps, hrun, hv⟩ := h.lookup K ht hz (plainElem_bool he false) hkey
  obtain ⟨c, rfl, hc⟩ := bool_elem he hv
  simp only [Prod.mk.injEq] at hc
  exact ⟨c, hrun, hc.1⟩
theorem wpList_look_bool {H : Type} {P : Program} (w : World) {ops : Array Oper} {rest : List Oper} {o : Oper} {a : Act} {Q : Exit → Act → World → Prop}
    (hg : o.guard = none) (m x : Operand) (t : TypeId) (hop : o.op = Op.lookup t m x false)
    (k e : TypeId) (K : Maps.Keyed P k) (ht : P.underlying t = some (.map k e)) (he : P.underlying e = some .bool) (hz : (zeroValue e).run P w = .ok (.bool false) w) (b n : Nat) (D : DataW H)
    (hm : a.eval m = .map (some b)) (hown : w.ownsMap P k (plainElem P e) b n D) (key : Value) (kl : Lit) (hx : a.eval x = key) (hkey : keyOf P k key = some kl) (c : Bool)
    (hat : D.atKey kl (.lit (.bool false)) = .lit (.bool c)) (hK : wpList P ops Q rest (a.put o.dst (.bool c)) w) :
    wpList P ops Q (o :: rest) a w := by
  refine wpList_plain hg fun K' hK' => ?_
  obtain ⟨c', hrun, hat'⟩ := look_bool hown K ht he hz hkey
  obtain rfl : c' = c := by rw [hat] at hat'; injection hat' with h1; injection h1 with h2; exact h2.symm
  unfold Oper.wp
  simp [execOp, hop, hm, hx, hrun, Result.andThen]
  exact hK' _ _ hK
/-- The map holds just the numbers of a list. -/
def Holds (D : DataW Unit) (l : List Int) : Prop := Maps.IsMap D ∧ ∀ x, D.atKey (.int .i64 x) (.lit (.bool false)) = .lit (.bool (decide (x ∈ l)))
theorem holds_nil : Holds (.map []) [] := ⟨Maps.isMap_empty, fun _ => rfl⟩
theorem holds_put {D : DataW Unit} {l : List Int} (h : Holds D l) (x : Int) : Holds (D.put (.int .i64 x) (.lit (.bool true))) (l ++ [x]) := by
  refine ⟨h.1.put _ _, fun y => ?_⟩
  by_cases e : y = x
  · subst e
    rw [Maps.atKey_put_same h.1 (show WideAt.IsKeyLit (.int .i64 y) from trivial)]
    simp
  · rw [Maps.atKey_put_other (by intro e2; injection e2 with _ e3; exact e e3), h.2]
    simp [e]
end Go.Proofs.YtdinaedknlkicaaGreatDoor.Nodes
/-
  Contracts at the landed code (layer 8): clauses.argument, condition, alike; a query's block, and two.
-/
namespace Go.Proofs.YtdinaedknlkicaaGreatDoor.Nodes
open Go.ChangeShapes Go.WideShapes Go.ChangeAt Go.RowKit

theorem clArgument_any (g : Int) (v : Value) (l : List Nd) (w : World) (hR : ReadsN w v l) (hn : l.length ≤ 1000000) :
    Calls Tryz.prog 35 #[.int .u8 g, v] w fun e w' => e = .returned (.int .i64 (argV g l)) ∧ Below w.heap.size w w' := by
  obtain ⟨ad, cap, rfl⟩ := hR.shape
  by_cases h1 : g = 1
  · subst h1
    by_cases h0 : l.length = 0
    · have H : Hid (argV 1 l = 0) := Lib.hid (by unfold argV; rw [if_pos rfl, if_pos h0])
      have q : ¬ (0 : Int) < l.length := by omega
      clear hR h0
      go_enter Tryz.func35, Tryz.ntmps35
      go_wp2_with fail
      go_ret
      exact ⟨by rw [H.out]; rfl, Below.refl _ _⟩
    · have H : Hid (argV 1 l = 8) := Lib.hid (by unfold argV; rw [if_pos rfl, if_neg h0])
      have q : (0 : Int) < l.length := by omega
      clear hR h0
      go_enter Tryz.func35, Tryz.ntmps35
      go_wp2_with fail
      go_ret
      exact ⟨by rw [H.out]; rfl, Below.refl _ _⟩
  · have H : Hid (argV g l = checkV l) := Lib.hid (by unfold argV; rw [if_neg h1])
    have q : (g != 1) = true := by rw [bne_iff_ne]; exact h1
    have C := Lib.hid (nodesCheck_any _ l w hR hn)
    clear hR h1
    go_enter Tryz.func35, Tryz.ntmps35
    go_wp2_with fail
    refine C.out.mono ?_
    rintro e w1 ⟨rfl, hb⟩
    have HB := Lib.hid hb
    clear hb
    go_wp2_with fail
    go_ret
    exact ⟨by rw [H.out]; rfl, HB.out⟩
theorem clCondition_any (v : Value) (l : List Nd) (w : World) (hR : ReadsN w v l) (hn : l.length ≤ 1000000) :
    Calls Tryz.prog 36 #[v] w fun e w' => e = .returned (.int .i64 (condV l)) ∧ Below w.heap.size w w' := by
  obtain ⟨ad, cap, rfl⟩ := hR.shape
  by_cases h0 : l.length = 0
  · have H : Hid (condV l = 0) := Lib.hid (by unfold condV; rw [if_pos h0])
    have q : ((l.length : Int) == 0) = true := by rw [beq_iff_eq]; omega
    clear hR h0
    go_enter Tryz.func36, Tryz.ntmps36
    go_wp2_with fail
    go_ret
    exact ⟨by rw [H.out]; rfl, Below.refl _ _⟩
  · have H : Hid (condV l = checkV l) := Lib.hid (by unfold condV; rw [if_neg h0])
    have q : ((l.length : Int) == 0) = false := by rw [beq_eq_false_iff_ne]; omega
    have C := Lib.hid (nodesCheck_any _ l w hR hn)
    clear hR h0
    go_enter Tryz.func36, Tryz.ntmps36
    go_wp2_with fail
    refine C.out.mono ?_
    rintro e w1 ⟨rfl, hb⟩
    have HB := Lib.hid hb
    clear hb
    go_wp2_with fail
    go_ret
    exact ⟨by rw [H.out]; rfl, HB.out⟩
theorem alike_none {a b : List Nd} (h : a.length = 0 ∨ b.length = 0) : alikeB a b = decide ((a.length : Int) = b.length) := by
  refine decide_eq_decide.2 ⟨fun e => ?_, fun e => ?_⟩
  · have := congrArg List.length e
    simp only [List.length_map] at this
    omega
  · have h1 : a.length = 0 := by omega
    have h2 : b.length = 0 := by omega
    rw [List.length_eq_zero_iff] at h1 h2
    rw [h1, h2]
theorem alike_zero {a b : List Nd} (h : a.length = 0) : alikeB a b = ((0 : Int) == (b.length : Int)) := by
  rw [alike_none (.inl h), h]
  cases hq : ((0 : Int) == (b.length : Int))
  · exact decide_eq_false (by rw [beq_eq_false_iff_ne] at hq; exact hq)
  · exact decide_eq_true (by rw [beq_iff_eq] at hq; exact hq)
theorem clAlike_any (va vb : Value) (a b : List Nd) (w : World) (hA : ReadsN w va a) (hB : ReadsN w vb b) (hn : a.length ≤ 1000000) (hm : b.length ≤ 1000000) (ha : a.length = 0 ∨ checkV a = 0) (hb : b.length = 0 ∨ checkV b = 0) :
    Calls Tryz.prog 49 #[va, vb] w fun e w' => e = .returned (.bool (alikeB a b)) ∧ Below w.heap.size w w' := by
  obtain ⟨ad, cap, rfl⟩ := hA.shape
  obtain ⟨ad2, cap2, rfl⟩ := hB.shape
  by_cases h0 : a.length = 0 ∨ b.length = 0
  · by_cases ha0 : a.length = 0
    · obtain rfl := List.length_eq_zero_iff.1 ha0
      have H := Lib.hid (alike_zero (b := b) ha0)
      clear hA hB ha hb h0 ha0
      cases q : ((0 : Int) == (b.length : Int))
      · rw [q] at H
        go_enter Tryz.func49, Tryz.ntmps49
        go_wp2_with fail
        go_ret
        exact ⟨by rw [H.out]; rfl, Below.refl _ _⟩
      · rw [q] at H
        go_enter Tryz.func49, Tryz.ntmps49
        go_wp2_with fail
        go_ret
        exact ⟨by rw [H.out]; rfl, Below.refl _ _⟩
    · have hb0 : b.length = 0 := h0.resolve_left ha0
      have H : Hid (alikeB a b = false) := Lib.hid (by rw [alike_none h0]; exact decide_eq_false (by omega))
      obtain rfl := List.length_eq_zero_iff.1 hb0
      have q : ((a.length : Int) == 0) = false := by rw [beq_eq_false_iff_ne]; omega
      clear hA hB ha hb h0 ha0 hb0
      go_enter Tryz.func49, Tryz.ntmps49
      go_wp2_with fail
      go_ret
      exact ⟨by rw [H.out]; rfl, Below.refl _ _⟩
  · have hca : checkV a = 0 := ha.resolve_left (fun e => h0 (.inl e))
    have hcb : checkV b = 0 := hb.resolve_left (fun e => h0 (.inr e))
    have q : ((a.length : Int) == 0) = false := by rw [beq_eq_false_iff_ne]; omega
    have q2 : ((b.length : Int) == 0) = false := by rw [beq_eq_false_iff_ne]; omega
    have S := nodesSame_any _ _ a b w hA hB hn hm
    rw [same_is hca hcb] at S
    have HS := Lib.hid S
    clear hA hB ha hb h0 hca hcb S
    go_enter Tryz.func49, Tryz.ntmps49
    go_wp2_with fail
    refine HS.out.mono ?_
    rintro e w1 ⟨rfl, hb⟩
    have HB := Lib.hid hb
    clear hb
    go_wp2_with fail
    go_ret
    exact ⟨rfl, HB.out⟩

/-! ### A query's block, and two -/
structure SQ (w W : World) (s : Sl) (q : Qy) : Prop where
  base : Below w.heap.size w W
  at_ : QyAt W w.heap.size s q
theorem SQ.below {w W W' : World} {s : Sl} {q : Qy} (h : SQ w W s q) (hb : Below W.heap.size W W') : SQ w W' s q := ⟨below_then h.base hb, h.at_.below hb⟩
theorem sq_start (w : World) (s : Sl) (q : Qy) : SQ w (w.alloc (qyBox s q)) s q := ⟨(Below.refl _ w).alloc (Nat.le_refl _) _, qy_at w s q⟩
structure SP (w W : World) (s : Sl) (p : Qy) (t : Sl) (q : Qy) : Prop where
  base : Below w.heap.size w W
  one : QyAt W w.heap.size s p
  two : QyAt W (w.heap.size + 1) t q
theorem SP.below {w W W' : World} {s t : Sl} {p q : Qy} (h : SP w W s p t q) (hb : Below W.heap.size W W') : SP w W' s p t q := ⟨below_then h.base hb, h.one.below hb, h.two.below hb⟩
theorem sp_start (w : World) (s t : Sl) (p q : Qy) : SP w ((w.alloc (qyBox s p)).alloc (qyBox t q)) s p t q := by
  have e : (w.alloc (qyBox s p)).heap.size = w.heap.size + 1 := by simp
  refine ⟨((Below.refl _ w).alloc (Nat.le_refl _) _).alloc (by rw [e]; omega) _, (qy_at w s p).below ((Below.refl _ _).alloc (Nat.le_refl _) _), ?_⟩
  have := qy_at (w.alloc (qyBox s p)) t q
  rwa [e] at this
theorem to_sq {f : FuncId} {args : Array Value} {w W : World} {s : Sl} {q : Qy} {v : Value} (hs : SQ w W s q) (h : Calls Tryz.prog f args W fun e w' => e = .returned v ∧ Below W.heap.size W w') :
    Calls Tryz.prog f args W fun e w' => e = .returned v ∧ SQ w w' s q := h.mono (fun _ _ h' => ⟨h'.1, hs.below h'.2⟩)
theorem to_sp {f : FuncId} {args : Array Value} {w W : World} {s t : Sl} {p q : Qy} {v : Value} (hs : SP w W s p t q) (h : Calls Tryz.prog f args W fun e w' => e = .returned v ∧ Below W.heap.size W w') :
    Calls Tryz.prog f args W fun e w' => e = .returned v ∧ SP w w' s p t q := h.mono (fun _ _ h' => ⟨h'.1, hs.below h'.2⟩)
theorem by_draws {f : FuncId} {args : Array Value} {W : World} {v : Value} (h : Calls Tryz.prog f args W fun e w' => e = .returned v ∧ Draws W w') :
    Calls Tryz.prog f args W fun e w' => e = .returned v ∧ Below W.heap.size W w' := h.mono (fun _ _ h' => ⟨h'.1, h'.2.below _⟩)
theorem by_same {f : FuncId} {args : Array Value} {W : World} {v : Value} (h : Calls Tryz.prog f args W fun e w' => e = .returned v ∧ W = w') :
    Calls Tryz.prog f args W fun e w' => e = .returned v ∧ Below W.heap.size W w' := h.mono (fun _ _ h' => ⟨h'.1, h'.2 ▸ Below.refl _ _⟩)
end Go.Proofs.YtdinaedknlkicaaGreatDoor.Nodes
/-
  Contracts of package clauses at the landed code (layer 8): within, Name, Source, repeats, Sources, Window, slices.Equal.
-/
namespace Go.Proofs.YtdinaedknlkicaaGreatDoor.Nodes
open Go.ChangeShapes Go.WideShapes Go.ChangeAt Go.RowKit

theorem cwithinU_any (v a b : Int) (w : World) : Calls Tryz.prog 34 #[.int .u8 v, .int .u8 a, .int .u8 b] w fun e w' => e = .returned (.bool (inB v a b)) ∧ w = w' := by
  by_cases h1 : a ≤ v
  · by_cases h2 : v ≤ b
    · have H := Lib.hid (inB_yes h1 h2)
      go_enter Tryz.func34, Tryz.ntmps34
      go_wp2_with fail
      go_ret
      exact ⟨by rw [H.out]; rfl, rfl⟩
    · have H := Lib.hid (inB_high (a := a) h2)
      go_enter Tryz.func34, Tryz.ntmps34
      go_wp2_with fail
      go_ret
      exact ⟨by rw [H.out]; rfl, rfl⟩
  · have H := Lib.hid (inB_low (b := b) h1)
    go_enter Tryz.func34, Tryz.ntmps34
    go_wp2_with fail
    go_ret
    exact ⟨by rw [H.out]; rfl, rfl⟩
theorem cwithinI_any (v a b : Int) (w : World) : Calls Tryz.prog 69 #[.int .i64 v, .int .i64 a, .int .i64 b] w fun e w' => e = .returned (.bool (inB v a b)) ∧ w = w' := by
  by_cases h1 : a ≤ v
  · by_cases h2 : v ≤ b
    · have H := Lib.hid (inB_yes h1 h2)
      go_enter Tryz.func69, Tryz.ntmps69
      go_wp2_with fail
      go_ret
      exact ⟨by rw [H.out]; rfl, rfl⟩
    · have H := Lib.hid (inB_high (a := a) h2)
      go_enter Tryz.func69, Tryz.ntmps69
      go_wp2_with fail
      go_ret
      exact ⟨by rw [H.out]; rfl, rfl⟩
  · have H := Lib.hid (inB_low (b := b) h1)
    go_enter Tryz.func69, Tryz.ntmps69
    go_wp2_with fail
    go_ret
    exact ⟨by rw [H.out]; rfl, rfl⟩
theorem cwithinL_any (v a b : Int) (w : World) : Calls Tryz.prog 66 #[.int .i64 v, .int .i64 a, .int .i64 b] w fun e w' => e = .returned (.bool (inB v a b)) ∧ w = w' := by
  by_cases h1 : a ≤ v
  · by_cases h2 : v ≤ b
    · have H := Lib.hid (inB_yes h1 h2)
      go_enter Tryz.func66, Tryz.ntmps66
      go_wp2_with fail
      go_ret
      exact ⟨by rw [H.out]; rfl, rfl⟩
    · have H := Lib.hid (inB_high (a := a) h2)
      go_enter Tryz.func66, Tryz.ntmps66
      go_wp2_with fail
      go_ret
      exact ⟨by rw [H.out]; rfl, rfl⟩
  · have H := Lib.hid (inB_low (b := b) h1)
    go_enter Tryz.func66, Tryz.ntmps66
    go_wp2_with fail
    go_ret
    exact ⟨by rw [H.out]; rfl, rfl⟩

/-! ### Names -/
theorem clName_any (n : Int) (w : World) (hf : NameFix w) : Calls Tryz.prog 46 #[.int .i64 n] w fun e w' => e = .returned (.tuple #[.string (nameV n).1, .int .i64 (nameV n).2]) ∧ w = w' := by
  have C := Lib.hid (fun W => cwithinI_any n 0 3 W)
  cases h : inB n 0 3
  · rw [h] at C
    rw [nameV_out h]
    clear h
    go_enter Tryz.func46, Tryz.ntmps46
    go_wp2_with fail
    refine (C.out _).mono ?_
    rintro e w2 ⟨rfl, rfl⟩
    go_wp2_with fail
    go_ret2
    exact ⟨rfl, rfl⟩
  · rw [h] at C
    have hb : 0 ≤ n ∧ n ≤ 3 := of_decide_eq_true h
    obtain ⟨k, rfl⟩ : ∃ k : Nat, n = k := ⟨n.toNat, by omega⟩
    have hk : k < 4 := by omega
    have hk4 : (k : Int) < 4 := by omega
    rw [nameV_in hk]
    have hc := hf.cell k hk
    obtain ⟨s, hs⟩ : ∃ s, nameAt k = s := ⟨_, rfl⟩
    rw [hs] at hc ⊢
    clear h hb hs hf
    go_enter Tryz.func46, Tryz.ntmps46
    go_wp2_with fail
    refine (C.out _).mono ?_
    rintro e w2 ⟨rfl, rfl⟩
    go_wp2_with fail
    go_ret2
    exact ⟨rfl, rfl⟩
set_option maxRecDepth 100000 in
theorem clSource_any (s : ByteArray) (w : World) (hf : NameFix w) : Calls Tryz.prog 93 #[.string s] w fun e w' => e = .returned (.tuple #[.int .i64 (sourceV s).1, .int .i64 (sourceV s).2]) ∧ w = w' := by
  have hr := hf.row
  have hix := name_index
  clear hf
  go_enter Tryz.func93, Tryz.ntmps93
  go_wp2_with (refine wpList_load_mid rfl 108 _ rfl 0 0 rfl nameRow.toList _ hr Tryz.underlying108 rfl iName ?_)
  clear hr
  go_loop [7] (fun i => ∃ k : Nat, k ≤ 4 ∧ i = .int .i64 k ∧ Hid (∀ j, j < k → s.data.toList ≠ (nameAt j).data.toList)) (fun i => 4 - (intOf i).toNat)
  case atStart => exact ⟨0, Nat.zero_le _, rfl, Lib.hid fun j hj => absurd hj (Nat.not_lt_zero _)⟩
  case round =>
    obtain ⟨k, hk, rfl, hall⟩ := hrel
    by_cases hlt : k < 4
    · have hx := hix k hlt
      by_cases he : s.data.toList = (nameAt k).data.toList
      · have H := Lib.hid (source_hit hlt hall.out he)
        have ht : (s.toList == (nameAt k).toList) = true := by rw [beq_iff_eq, ByteArray.toList_eq, ByteArray.toList_eq]; exact he
        clear he hall hix
        go_wp2_with fail
        go_ret2
        exact ⟨by rw [H.out]; rfl, rfl⟩
      · have H : Hid (∀ j, j < k + 1 → s.data.toList ≠ (nameAt j).data.toList) := Lib.hid fun j hj => by
          rcases Nat.lt_succ_iff_lt_or_eq.1 hj with h | rfl
          · exact hall.out j h
          · exact he
        have ht : (s.toList == (nameAt k).toList) = false := by rw [beq_eq_false_iff_ne, ByteArray.toList_eq, ByteArray.toList_eq]; exact he
        clear he hall hix
        go_wp2_with fail
        go_round
        case rel => exact ⟨k + 1, by omega, by go_num, H⟩
        case measure => simp [intOf]; omega
    · obtain rfl : k = 4 := by omega
      have H := Lib.hid (source_miss hall.out)
      clear hall hix
      go_wp2_with fail
      go_ret2
      exact ⟨by rw [H.out]; rfl, rfl⟩

/-! ### Sources -/
theorem cl_law : Maps.Keyed Tryz.prog 3 := Maps.int_keyed Tryz.underlying3
theorem cl_zero (w : World) : (zeroValue 4).run Tryz.prog w = .ok (.bool false) w := by kernel_rfl
theorem inS_wf {x : Int} (h : inS x = true) : (Lit.int .i64 x).wf = true := by
  have := of_decide_eq_true h
  exact WalkArith.wf_i64 (by omega)
set_option maxRecDepth 100000 in
theorem repeats_any (v : Value) (l : List Int) (w : World) (hR : ReadsI w v l) (hS : l.all inS = true) (hn : l.length ≤ 4) :
    Calls Tryz.prog 65 #[v] w fun e w' => e = .returned (.bool (!onceB l)) ∧ Below w.heap.size w w' := by
  have hmm := @run_makeMap Tryz.prog
  obtain ⟨ad, cap, rfl⟩ := hR.shape
  have RI := Lib.hid hR
  have HS := Lib.hid hS
  clear hR hS
  go_enter Tryz.func65, Tryz.ntmps65
  go_wp2_with fail
  go_loopg [9] l.length (fun g i wx => ∃ (k : Nat) (D : DataW Unit), k + g = l.length ∧ i = .int .i64 k ∧ Hid (wx.ownsMap Tryz.prog 3 (plainElem Tryz.prog 4) w.heap.size k D) ∧ Hid (Holds D (l.take k)) ∧ Hid (l.take k).Nodup ∧ Hid (Below w.heap.size w wx))
  case atStart => exact ⟨0, .map [], by omega, rfl, Lib.hid (World.ownsMap_made _ _ _ _), Lib.hid holds_nil, Lib.hid (by simp), Lib.hid ((Below.refl _ _).alloc (Nat.le_refl _) _)⟩
  case round =>
    obtain ⟨k, D, hk, rfl, HO, HD, HN, HB⟩ := hrel
    cases gk with
    | zero =>
      obtain rfl : k = l.length := by omega
      have H := Lib.hid (once_yes HN.out)
      clear hk
      go_wp2_with fail
      go_ret
      exact ⟨by rw [H.out]; rfl, HB.out⟩
    | succ g =>
      have hlt : k < l.length := by omega
      obtain ⟨b, o, cp, e, hb, hc⟩ := (RI.out.below HB.out).num k hlt
      cases e
      obtain ⟨x, hx⟩ : ∃ x, l[k] = x := ⟨_, rfl⟩
      have hin : inS x = true := by rw [← hx]; exact List.all_eq_true.1 HS.out _ (List.getElem_mem hlt)
      have HW := Lib.hid (inS_wf hin)
      rw [hx] at hc
      by_cases hm : x ∈ l.take k
      · have hat : D.atKey (.int .i64 x) (.lit (.bool false)) = .lit (.bool true) := by rw [HD.out.2, decide_eq_true hm]
        have H := Lib.hid (once_not hlt (by rw [hx]; exact hm))
        have HA := Lib.hid hat
        clear hm hat hx hin hmm
        go_wp2_with (first
          | (at_lookup; refine wpList_look_bool _ rfl _ _ 126 rfl 3 4 cl_law Tryz.underlying126 Tryz.underlying4 (cl_zero _) w.heap.size k D rfl HO.out _ _ rfl (Maps.keyOf_int_mk Tryz.underlying3 HW.out) true HA.out ?_)
          | fail)
        go_ret
        exact ⟨by rw [H.out]; rfl, HB.out⟩
      · have hat : D.atKey (.int .i64 x) (.lit (.bool false)) = .lit (.bool false) := by rw [HD.out.2, decide_eq_false hm]
        have HA := Lib.hid hat
        have HD2 := Lib.hid (holds_put HD.out x)
        have ht : l.take k ++ [x] = l.take (k + 1) := by rw [List.take_succ_eq_append_getElem hlt, hx]
        rw [ht] at HD2
        have HN2 := Lib.hid (once_take_more hlt HN.out (by rw [hx]; exact hm))
        clear hm hat hx hin hmm ht
        go_wp2_with (first
          | (at_lookup; refine wpList_look_bool _ rfl _ _ 126 rfl 3 4 cl_law Tryz.underlying126 Tryz.underlying4 (cl_zero _) w.heap.size k D rfl HO.out _ _ rfl (Maps.keyOf_int_mk Tryz.underlying3 HW.out) false HA.out ?_)
          | (at_mapUpdate; refine wpList_mapUpdate_own _ rfl _ _ _ 126 rfl 3 4 cl_law Tryz.underlying126 (plainElem (H := Unit) Tryz.prog 4) w.heap.size k D rfl HO.out (by unfold maxLen; omega) _ _ _ rfl rfl (Maps.keyOf_int_mk Tryz.underlying3 HW.out) _ [] (plainElem_bool Tryz.underlying4 true) ?_; intro w1 hown1 hgrow1)
          | fail)
        go_roundg g
        case measure => omega
        case rel => exact ⟨k + 1, _, by omega, by go_num, Lib.hid hown1, HD2, HN2, Lib.hid (HB.out.grown hgrow1 HB.out.size (fun j hj => by cases hj; exact Nat.le_refl _))⟩
end Go.Proofs.YtdinaedknlkicaaGreatDoor.Nodes
/-
  Contracts at the landed code (layer 8): clauses.Window; slices.Equal.
-/
namespace Go.Proofs.YtdinaedknlkicaaGreatDoor.Nodes
open Go.ChangeShapes Go.WideShapes Go.ChangeAt Go.RowKit

theorem fits_slide {s e : Int} (h1 : inB e 1 s = true) (h2 : ¬ wrap64 (16 * e) < s) (h3 : inB s 1 1073741824 = true) : windowV ⟨2, s, e⟩ = 0 := by
  have a1 : 1 ≤ e ∧ e ≤ s := of_decide_eq_true h1
  have a3 : 1 ≤ s ∧ s ≤ 1073741824 := of_decide_eq_true h3
  have : wrap64 (16 * e) = 16 * e := (by unfold wrap64; omega)
  rw [this] at h2
  exact windowV_yes (fitsW_iff.2 ⟨a3.1, a3.2, .inl ⟨rfl, a1.1, a1.2, by show s ≤ 16 * e; omega⟩⟩)
theorem slide_low {s e : Int} (h1 : inB e 1 s = false) : windowV ⟨2, s, e⟩ = 8 := by
  refine windowV_no (decide_eq_false fun h => ?_)
  have a1 : ¬ (1 ≤ e ∧ e ≤ s) := of_decide_eq_false h1
  simp only at h
  omega
theorem slide_many {s e : Int} (h2 : wrap64 (16 * e) < s) : windowV ⟨2, s, e⟩ = 8 := by
  refine windowV_no (decide_eq_false fun h => ?_)
  simp only at h
  have : wrap64 (16 * e) = 16 * e := (by unfold wrap64; omega)
  rw [this] at h2
  omega
theorem size_out {k s e : Int} (h3 : inB s 1 1073741824 = false) : windowV ⟨k, s, e⟩ = 8 := by
  refine windowV_no (decide_eq_false fun h => ?_)
  have a3 : ¬ (1 ≤ s ∧ s ≤ 1073741824) := of_decide_eq_false h3
  simp only at h
  omega
theorem fits_plain {k s e : Int} (hk : k = 1 ∨ k = 3) (h1 : e = 0) (h3 : inB s 1 1073741824 = true) : windowV ⟨k, s, e⟩ = 0 := by
  have a3 : 1 ≤ s ∧ s ≤ 1073741824 := of_decide_eq_true h3
  exact windowV_yes (fitsW_iff.2 ⟨a3.1, a3.2, .inr ⟨hk, h1⟩⟩)
theorem plain_every {k s e : Int} (hk : k = 1 ∨ k = 3) (h1 : e ≠ 0) : windowV ⟨k, s, e⟩ = 8 := by
  refine windowV_no (decide_eq_false fun h => ?_)
  simp only at h
  omega
theorem kind_none {k s e : Int} (h1 : k ≠ 1) (h2 : k ≠ 2) (h3 : k ≠ 3) : windowV ⟨k, s, e⟩ = 8 := by
  refine windowV_no (decide_eq_false fun h => ?_)
  simp only at h
  omega
theorem box_below (w : World) (o : Obj) : Below w.heap.size w (w.alloc o) := (Below.refl _ w).alloc (Nat.le_refl _) o
set_option maxRecDepth 100000 in
set_option maxHeartbeats 1000000 in
theorem clWindow_any (x : Wn) (w : World) : Calls Tryz.prog 38 #[winVal x] w fun e w' => e = .returned (.int .i64 (windowV x)) ∧ Below w.heap.size w w' := by
  obtain ⟨k, s, e⟩ := x
  unfold winVal
  simp only
  have C := Lib.hid (fun a b c W => cwithinL_any a b c W)
  by_cases k2 : k = 2
  · subst k2
    have C1 := Lib.hid (C.out e 1 s)
    cases h1 : inB e 1 s
    · rw [h1] at C1
      rw [slide_low h1]
      clear h1
      go_enter Tryz.func38, Tryz.ntmps38
      go_wp2_with fail
      refine (C1.out _).mono ?_
      rintro e w2 ⟨rfl, rfl⟩
      go_wp2_with fail
      go_ret
      exact ⟨rfl, box_below _ _⟩
    · rw [h1] at C1
      by_cases h2 : wrap64 (16 * e) < s
      · rw [slide_many h2]
        clear h1
        go_enter Tryz.func38, Tryz.ntmps38
        go_wp2_with fail
        refine (C1.out _).mono ?_
        rintro e w2 ⟨rfl, rfl⟩
        go_wp2_with fail
        go_ret
        exact ⟨rfl, box_below _ _⟩
      · have C2 := Lib.hid (C.out s 1 1073741824)
        cases h3 : inB s 1 1073741824
        · rw [h3] at C2
          rw [size_out h3]
          clear h1 h3
          go_enter Tryz.func38, Tryz.ntmps38
          go_wp2_with fail
          refine (C1.out _).mono ?_
          rintro e w2 ⟨rfl, rfl⟩
          go_wp2_with fail
          refine (C2.out _).mono ?_
          rintro e w2 ⟨rfl, rfl⟩
          go_wp2_with fail
          go_ret
          exact ⟨rfl, box_below _ _⟩
        · rw [h3] at C2
          rw [fits_slide h1 h2 h3]
          clear h1 h3
          go_enter Tryz.func38, Tryz.ntmps38
          go_wp2_with fail
          refine (C1.out _).mono ?_
          rintro e w2 ⟨rfl, rfl⟩
          go_wp2_with fail
          refine (C2.out _).mono ?_
          rintro e w2 ⟨rfl, rfl⟩
          go_wp2_with fail
          go_ret
          exact ⟨rfl, box_below _ _⟩
  have plain : (k = 1 ∨ (k = 3 ∧ (k == 1) = false)) → Calls Tryz.prog 38 #[.agg #[.int .u8 k, .int .i64 s, .int .i64 e]] w fun e' w' => e' = .returned (.int .i64 (windowV ⟨k, s, e⟩)) ∧ Below w.heap.size w w' := by
    intro hk
    have hk2 : k = 1 ∨ k = 3 := hk.imp id (·.1)
    by_cases h0 : e = 0
    · have q0 : (e == 0) = true := by rw [beq_iff_eq]; exact h0
      have C2 := Lib.hid (C.out s 1 1073741824)
      cases h3 : inB s 1 1073741824
      · rw [h3] at C2
        rw [size_out h3]
        clear h3 h0 k2 hk2
        rcases hk with rfl | ⟨rfl, q3⟩
        all_goals
          go_enter Tryz.func38, Tryz.ntmps38
          go_wp2_with fail
          refine (C2.out _).mono ?_
          rintro e w2 ⟨rfl, rfl⟩
          go_wp2_with fail
          go_ret
          exact ⟨rfl, box_below _ _⟩
      · rw [h3] at C2
        rw [fits_plain hk2 h0 h3]
        clear h3 h0 k2 hk2
        rcases hk with rfl | ⟨rfl, q3⟩
        all_goals
          go_enter Tryz.func38, Tryz.ntmps38
          go_wp2_with fail
          refine (C2.out _).mono ?_
          rintro e w2 ⟨rfl, rfl⟩
          go_wp2_with fail
          go_ret
          exact ⟨rfl, box_below _ _⟩
    · have q0 : (e == 0) = false := by rw [beq_eq_false_iff_ne]; exact h0
      rw [plain_every hk2 h0]
      clear h0 k2 hk2
      rcases hk with rfl | ⟨rfl, q3⟩
      all_goals
        go_enter Tryz.func38, Tryz.ntmps38
        go_wp2_with fail
        go_ret
        exact ⟨rfl, box_below _ _⟩
  by_cases k1 : k = 1
  · exact plain (.inl k1)
  have q1 : (k == 1) = false := by rw [beq_eq_false_iff_ne]; exact k1
  by_cases k3 : k = 3
  · exact plain (.inr ⟨k3, q1⟩)
  have q2 : (k == 2) = false := by rw [beq_eq_false_iff_ne]; exact k2
  have q3 : (k == 3) = false := by rw [beq_eq_false_iff_ne]; exact k3
  rw [kind_none k1 k2 k3]
  clear k1 k2 k3 plain
  go_enter Tryz.func38, Tryz.ntmps38
  go_wp2_with fail
  go_ret
  exact ⟨rfl, box_below _ _⟩

/-! ### slices.Equal -/
theorem take_same {a b : List Int} {k : Nat} (ha : k < a.length) (hb : k < b.length) (h : a.take k = b.take k) (e : a[k] = b[k]) : a.take (k + 1) = b.take (k + 1) := by
  rw [List.take_succ_eq_append_getElem ha, List.take_succ_eq_append_getElem hb, h, e]
theorem ints_differ {a b : List Int} {k : Nat} (ha : k < a.length) (hb : k < b.length) (e : a[k] ≠ b[k]) : ¬ a = b := by
  rintro rfl; exact e rfl
set_option maxRecDepth 100000 in
set_option maxHeartbeats 1000000 in
theorem slicesEqual_any (va vb : Value) (a b : List Int) (w : World) (hA : ReadsI w va a) (hB : ReadsI w vb b) (hn : a.length ≤ 9223372036854775807) :
    Calls Tryz.prog 48 #[va, vb] w fun e w' => e = .returned (.bool (decide (a = b))) ∧ Draws w w' := by
  obtain ⟨ad, cap, rfl⟩ := hA.shape
  obtain ⟨ad2, cap2, rfl⟩ := hB.shape
  have RA := Lib.hid hA
  have RB := Lib.hid hB
  clear hA hB
  by_cases hl : a.length = b.length
  · have q0 : ((a.length : Int) != b.length) = false := by rw [bne_eq_false_iff_eq]; omega
    have HL := Lib.hid hl
    clear hl
    go_enter Tryz.func48, Tryz.ntmps48
    go_wp2_with fail
    go_loopg [13] a.length (fun g i wx => ∃ k : Nat, k + g = a.length ∧ i = .int .i64 k ∧ Hid (a.take k = b.take k) ∧ Hid (Draws w wx))
    case atStart => exact ⟨0, by omega, rfl, Lib.hid rfl, Lib.hid (Draws.refl _)⟩
    case round =>
      obtain ⟨k, hk, rfl, HK, DX⟩ := hrel
      cases gk with
      | zero =>
        obtain rfl : k = a.length := by omega
        have H : Hid (decide (a = b) = true) := Lib.hid (by
          have := HK.out
          rw [List.take_length, HL.out, List.take_length] at this
          exact decide_eq_true this)
        clear hk
        go_wp2_with fail
        go_ret
        exact ⟨by rw [H.out]; rfl, DX.out⟩
      | succ g =>
        have hlt : k < a.length := by omega
        have hlt2 : k < b.length := by have := HL.out; omega
        have hlt3 : (k : Int) < b.length := by omega
        obtain ⟨ba, oa, capa, hva, hba, c0⟩ := (RA.out.below (DX.out.below _)).num k hlt
        obtain ⟨bb, ob, capb, hvb, hbb, d0⟩ := (RB.out.below (DX.out.below _)).num k hlt2
        cases hva
        cases hvb
        by_cases hq : a[k] = b[k]
        · have H := Lib.hid (take_same hlt hlt2 HK.out hq)
          have q1 : (a[k] != b[k]) = false := by rw [bne_eq_false_iff_eq]; exact hq
          clear hq
          go_wp2_with fail
          go_quiet (fail)
          go_wp2_with fail
          go_roundg g
          case measure => omega
          case rel => exact ⟨k + 1, by omega, by go_num, H, Lib.hid (DX.out.drewN _)⟩
        · have H : Hid (decide (a = b) = false) := Lib.hid (decide_eq_false (ints_differ hlt hlt2 hq))
          have q1 : (a[k] != b[k]) = true := by rw [bne_iff_ne]; exact hq
          clear hq
          go_wp2_with fail
          go_quiet (fail)
          go_wp2_with fail
          go_ret
          exact ⟨by rw [H.out]; rfl, DX.out.drewN _⟩
  · have q0 : ((a.length : Int) != b.length) = true := by rw [bne_iff_ne]; omega
    have H : Hid (decide (a = b) = false) := Lib.hid (decide_eq_false fun e => hl (by rw [e]))
    clear hl
    go_enter Tryz.func48, Tryz.ntmps48
    go_wp2_with fail
    go_ret
    exact ⟨by rw [H.out]; rfl, Draws.refl _⟩
end Go.Proofs.YtdinaedknlkicaaGreatDoor.Nodes
/-
  A query in a block of the call's own (layer 8): stores to its fields, and of it as a whole.
-/
namespace Go.Proofs.YtdinaedknlkicaaGreatDoor.Nodes
open Go.ChangeShapes Go.WideShapes Go.ChangeAt Go.RowKit

theorem QyAt.set_arg {w : World} {b : Nat} {s : Sl} {q : Qy} (h : QyAt w b s q) (v : Value) : QyAt (w.setCell ⟨b, 1, none⟩ v) b ⟨v, s.src, s.cond⟩ q := by
  unfold QyAt at h ⊢
  show (w.heap.modify b _)[b]? = _
  rw [Array.getElem?_modify, if_pos rfl, h]
  rfl
theorem QyAt.set_cond {w : World} {b : Nat} {s : Sl} {q : Qy} (h : QyAt w b s q) (v : Value) : QyAt (w.setCell ⟨b, 4, none⟩ v) b ⟨s.arg, s.src, v⟩ q := by
  unfold QyAt at h ⊢
  show (w.heap.modify b _)[b]? = _
  rw [Array.getElem?_modify, if_pos rfl, h]
  rfl
theorem QyAt.set_src {w : World} {b : Nat} {s : Sl} {q : Qy} (h : QyAt w b s q) (v : Value) : QyAt (w.setCell ⟨b, 2, none⟩ v) b ⟨s.arg, v, s.cond⟩ q := by
  unfold QyAt at h ⊢
  show (w.heap.modify b _)[b]? = _
  rw [Array.getElem?_modify, if_pos rfl, h]
  rfl
theorem QyAt.far {w : World} {b : Nat} {s : Sl} {q : Qy} (h : QyAt w b s q) {b2 : Nat} (hb : b2 ≠ b) (j : Nat) (v : Value) : QyAt (w.setCell ⟨b2, j, none⟩ v) b s q := by
  unfold QyAt at h ⊢
  show (w.heap.modify b2 _)[b]? = _
  rw [Array.getElem?_modify, if_neg hb]
  exact h
theorem QyAt.frz {w : World} {b : Nat} {s : Sl} {q : Qy} (h : QyAt w b s q) (j : Nat) : w.frozen? ⟨b, j, none⟩ = false := by
  unfold QyAt at h
  simp [World.frozen?, h]
theorem QyAt.grown {w w' : World} {b : Nat} {s : Sl} {q : Qy} (h : QyAt w b s q) {g : Nat} (hg : w.grownBy w' (some g)) (hb : b ≠ g) : QyAt w' b s q := by
  unfold QyAt at h ⊢
  rw [hg.block b (Array.getElem?_eq_some_iff.1 h).1 (fun e => by injection e with e; exact hb e)]
  exact h
def zeroQ : Qy := ⟨0, [], [], false, [], ⟨0, 0, 0⟩, false, 0⟩
def zeroS : Sl := ⟨.slice none 0 0, .slice none 0 0, .slice none 0 0⟩
theorem set_grown (w : World) (b j : Nat) (v : Value) : w.grownBy (w.setCell ⟨b, j, none⟩ v) (some b) := by
  refine ⟨rfl, rfl, rfl, ?_, fun k _ hk => ?_⟩
  · show w.heap.size ≤ (w.heap.modify b _).size
    rw [Array.size_modify]; exact Nat.le_refl _
  · show (w.heap.modify b _)[k]? = _
    rw [Array.getElem?_modify, if_neg (fun e => hk (by rw [e]))]
theorem set_size8 (w : World) (p : Addr) (v : Value) : (w.setCell p v).heap.size = w.heap.size := by
  show (w.heap.modify _ _).size = _
  exact Array.size_modify
theorem SP.grown {w W W' : World} {s t : Sl} {p q : Qy} (h : SP w W s p t q) {g : Nat} (hg : W.grownBy W' (some g)) (h2 : w.heap.size + 1 < g) : SP w W' s p t q :=
  ⟨h.base.grown hg h.base.size (fun k e => by injection e with e; omega), h.one.grown hg (by omega), h.two.grown hg (by omega)⟩
theorem SP.set_arg {w W : World} {s t : Sl} {p q : Qy} (h : SP w W s p t q) (v : Value) : SP w (W.setCell ⟨w.heap.size, 1, none⟩ v) ⟨v, s.src, s.cond⟩ p t q :=
  ⟨h.base.setCell (Nat.le_refl _) _, h.one.set_arg v, h.two.far (by omega) _ _⟩
theorem SP.set_cond {w W : World} {s t : Sl} {p q : Qy} (h : SP w W s p t q) (v : Value) : SP w (W.setCell ⟨w.heap.size, 4, none⟩ v) ⟨s.arg, s.src, v⟩ p t q :=
  ⟨h.base.setCell (Nat.le_refl _) _, h.one.set_cond v, h.two.far (by omega) _ _⟩
theorem SP.set_src {w W : World} {s t : Sl} {p q : Qy} (h : SP w W s p t q) (v : Value) : SP w (W.setCell ⟨w.heap.size, 2, none⟩ v) ⟨s.arg, v, s.cond⟩ p t q :=
  ⟨h.base.setCell (Nat.le_refl _) _, h.one.set_src v, h.two.far (by omega) _ _⟩
theorem SP.alloc {w W : World} {s t : Sl} {p q : Qy} (h : SP w W s p t q) (o : Obj) : SP w (W.alloc o) s p t q := h.below (box_below _ _)
theorem SP.room {w W : World} {s t : Sl} {p q : Qy} (h : SP w W s p t q) : w.heap.size + 1 < W.heap.size := h.two.lt
theorem QyAt.set_agg {w : World} {b : Nat} {s : Sl} {q : Qy} (h : QyAt w b s q) (x : Int) : QyAt (w.setCell ⟨b, 0, none⟩ (.int .u8 x)) b s ⟨x, q.arg, q.src, q.join, q.cond, q.win, q.key, q.late⟩ := by
  unfold QyAt at h ⊢
  show (w.heap.modify b _)[b]? = _
  rw [Array.getElem?_modify, if_pos rfl, h]
  rfl
theorem QyAt.set_join {w : World} {b : Nat} {s : Sl} {q : Qy} (h : QyAt w b s q) (x : Bool) : QyAt (w.setCell ⟨b, 3, none⟩ (.bool x)) b s ⟨q.agg, q.arg, q.src, x, q.cond, q.win, q.key, q.late⟩ := by
  unfold QyAt at h ⊢
  show (w.heap.modify b _)[b]? = _
  rw [Array.getElem?_modify, if_pos rfl, h]
  rfl
theorem QyAt.set_wk {w : World} {b : Nat} {s : Sl} {q : Qy} (h : QyAt w b s q) (x : Int) : QyAt (w.setCell ⟨b, 5, none⟩ (.int .u8 x)) b s ⟨q.agg, q.arg, q.src, q.join, q.cond, ⟨x, q.win.size, q.win.every⟩, q.key, q.late⟩ := by
  unfold QyAt at h ⊢
  show (w.heap.modify b _)[b]? = _
  rw [Array.getElem?_modify, if_pos rfl, h]
  rfl
theorem QyAt.set_ws {w : World} {b : Nat} {s : Sl} {q : Qy} (h : QyAt w b s q) (x : Int) : QyAt (w.setCell ⟨b, 6, none⟩ (.int .i64 x)) b s ⟨q.agg, q.arg, q.src, q.join, q.cond, ⟨q.win.kind, x, q.win.every⟩, q.key, q.late⟩ := by
  unfold QyAt at h ⊢
  show (w.heap.modify b _)[b]? = _
  rw [Array.getElem?_modify, if_pos rfl, h]
  rfl
theorem QyAt.set_we {w : World} {b : Nat} {s : Sl} {q : Qy} (h : QyAt w b s q) (x : Int) : QyAt (w.setCell ⟨b, 7, none⟩ (.int .i64 x)) b s ⟨q.agg, q.arg, q.src, q.join, q.cond, ⟨q.win.kind, q.win.size, x⟩, q.key, q.late⟩ := by
  unfold QyAt at h ⊢
  show (w.heap.modify b _)[b]? = _
  rw [Array.getElem?_modify, if_pos rfl, h]
  rfl
theorem QyAt.set_key {w : World} {b : Nat} {s : Sl} {q : Qy} (h : QyAt w b s q) (x : Bool) : QyAt (w.setCell ⟨b, 8, none⟩ (.bool x)) b s ⟨q.agg, q.arg, q.src, q.join, q.cond, q.win, x, q.late⟩ := by
  unfold QyAt at h ⊢
  show (w.heap.modify b _)[b]? = _
  rw [Array.getElem?_modify, if_pos rfl, h]
  rfl
theorem QyAt.set_late {w : World} {b : Nat} {s : Sl} {q : Qy} (h : QyAt w b s q) (x : Int) : QyAt (w.setCell ⟨b, 9, none⟩ (.int .u8 x)) b s ⟨q.agg, q.arg, q.src, q.join, q.cond, q.win, q.key, x⟩ := by
  unfold QyAt at h ⊢
  show (w.heap.modify b _)[b]? = _
  rw [Array.getElem?_modify, if_pos rfl, h]
  rfl
/-- A query laid into a block as a whole. -/
def putQ (w : World) (b : Nat) (s : Sl) (q : Qy) : World :=
  (((((((((w.setCell ⟨b, 0, none⟩ (.int .u8 q.agg)).setCell ⟨b, 1, none⟩ s.arg).setCell ⟨b, 2, none⟩ s.src).setCell ⟨b, 3, none⟩ (.bool q.join)).setCell ⟨b, 4, none⟩ s.cond).setCell ⟨b, 5, none⟩ (.int .u8 q.win.kind)).setCell ⟨b, 6, none⟩ (.int .i64 q.win.size)).setCell ⟨b, 7, none⟩ (.int .i64 q.win.every)).setCell ⟨b, 8, none⟩ (.bool q.key)).setCell ⟨b, 9, none⟩ (.int .u8 q.late)
theorem putQ_at {w : World} {b : Nat} {s0 s : Sl} {q0 q : Qy} (h : QyAt w b s0 q0) : QyAt (putQ w b s q) b s q := by
  have := (((((((((h.set_agg q.agg).set_arg s.arg).set_src s.src).set_join q.join).set_cond s.cond).set_wk q.win.kind).set_ws q.win.size).set_we q.win.every).set_key q.key).set_late q.late
  exact this
theorem putQ_far {w : World} {b b2 : Nat} {s s2 : Sl} {q q2 : Qy} (h : QyAt w b s q) (hb : b2 ≠ b) : QyAt (putQ w b2 s2 q2) b s q :=
  (((((((((h.far hb _ _).far hb _ _).far hb _ _).far hb _ _).far hb _ _).far hb _ _).far hb _ _).far hb _ _).far hb _ _).far hb _ _
theorem grown_set {w w' : World} {b : Nat} (h : w.grownBy w' (some b)) (j : Nat) (v : Value) : w.grownBy (w'.setCell ⟨b, j, none⟩ v) (some b) := by
  have h2 := set_grown w' b j v
  exact ⟨h.os, h.tape, h.output, Nat.le_trans h.size h2.size, fun k hk e => (h2.block k (Nat.lt_of_lt_of_le hk h.size) e).trans (h.block k hk e)⟩
theorem putQ_grown (w : World) (b : Nat) (s : Sl) (q : Qy) : w.grownBy (putQ w b s q) (some b) :=
  grown_set (grown_set (grown_set (grown_set (grown_set (grown_set (grown_set (grown_set (grown_set (set_grown w b 0 _) 1 _) 2 _) 3 _) 4 _) 5 _) 6 _) 7 _) 8 _) 9 _
theorem putQ_size (w : World) (b : Nat) (s : Sl) (q : Qy) : (putQ w b s q).heap.size = w.heap.size := by
  unfold putQ; simp only [set_size8]
theorem putQ_below {w w' : World} {B b : Nat} (h : Below B w w') (hb : B ≤ b) (s : Sl) (q : Qy) : Below B w (putQ w' b s q) :=
  (((((((((h.setCell hb _).setCell hb _).setCell hb _).setCell hb _).setCell hb _).setCell hb _).setCell hb _).setCell hb _).setCell hb _).setCell hb _
end Go.Proofs.YtdinaedknlkicaaGreatDoor.Nodes
/-
  Contracts of package clauses at the landed code (layer 8): Sources, Window; slices.Equal.
-/
namespace Go.Proofs.YtdinaedknlkicaaGreatDoor.Nodes
open Go.ChangeShapes Go.WideShapes Go.ChangeAt Go.RowKit

theorem inS_err {x : Int} (h : inS x = true) : (nameV x).2 = 0 := by rw [nameV_err, if_pos h]
theorem inS_err2 {x : Int} (h : inS x = false) : (nameV x).2 = 2 := by rw [nameV_err, h]; rfl
set_option maxRecDepth 100000 in
set_option maxHeartbeats 1000000 in
theorem clSources_any (v : Value) (l : List Int) (join : Bool) (w : World) (hf : NameFix w) (hR : ReadsI w v l) (hn : l.length ≤ 9223372036854775807) :
    Calls Tryz.prog 37 #[v, .bool join] w fun e w' => e = .returned (.int .i64 (sourcesV l join)) ∧ Below w.heap.size w w' := by
  obtain ⟨ad, cap, rfl⟩ := hR.shape
  by_cases h4 : 4 < l.length
  · have q4 : (4 : Int) < l.length := by omega
    rw [sources_many h4]
    clear hR hf
    go_enter Tryz.func37, Tryz.ntmps37
    go_wp2_with fail
    go_ret
    exact ⟨rfl, Below.refl _ _⟩
  have q4 : ¬ (4 : Int) < l.length := by omega
  by_cases h0 : l.length = 0
  · have q0 : ((l.length : Int) == 0) = true := by rw [beq_iff_eq]; omega
    rw [sources_none h0]
    clear hR hf h0
    go_enter Tryz.func37, Tryz.ntmps37
    go_wp2_with fail
    go_ret
    exact ⟨rfl, Below.refl _ _⟩
  have q0 : ((l.length : Int) == 0) = false := by rw [beq_eq_false_iff_ne]; omega
  have REP := Lib.hid (fun (W : World) (h : Below w.heap.size w W) hS => repeats_any (.slice ad l.length cap) l W (hR.below h) hS (by omega))
  have NM := Lib.hid (fun n (W : World) (h : Below w.heap.size w W) => clName_any n W (hf.below h))
  have RI := Lib.hid hR
  -- behind the guard
  have main : ∀ (_ : join = false ∨ ((l.length : Int) != 2) = false), Calls Tryz.prog 37 #[.slice ad l.length cap, .bool join] w fun e w' => e = .returned (.int .i64 (sourcesV l join)) ∧ Below w.heap.size w w' := by
    intro hj
    have hj2 : join = false ∨ l.length = 2 := hj.imp id (fun e => by rw [bne_eq_false_iff_eq] at e; omega)
    have SO := Lib.hid (fun h => sources_out h4 h0 hj2 h)
    have SI := Lib.hid (fun h => sources_in h4 h0 hj2 h)
    clear hR hf hj2 h4 h0
    have step : ∀ (_ : join = false ∨ (join = true ∧ ((l.length : Int) != 2) = false)), Calls Tryz.prog 37 #[.slice ad l.length cap, .bool join] w fun e w' => e = .returned (.int .i64 (sourcesV l join)) ∧ Below w.heap.size w w' := by
      intro hj3
      rcases hj3 with rfl | ⟨rfl, q2⟩
      all_goals
        clear hj
        go_enter Tryz.func37, Tryz.ntmps37
        go_wp2_with fail
        go_loopg [25] l.length (fun g i wx => ∃ k : Nat, k + g = l.length ∧ i = .int .i64 k ∧ Hid ((l.take k).all inS = true) ∧ Hid (w = wx))
        case atStart => exact ⟨0, by omega, rfl, Lib.hid (by simp), Lib.hid rfl⟩
        case round =>
          obtain ⟨k, hk, rfl, HA, HW⟩ := hrel
          obtain rfl := HW.out
          cases gk with
          | zero =>
            obtain rfl : k = l.length := by omega
            have hall : l.all inS = true := by have := HA.out; rwa [List.take_length] at this
            have RP := Lib.hid (REP.out w (Below.refl _ _) hall)
            have H := Lib.hid (SI.out hall)
            clear hk hall
            cases ho : onceB l
            · rw [ho] at RP H
              go_wp2_with fail
              refine RP.out.mono ?_
              rintro e w2 ⟨rfl, hb⟩
              have HB := Lib.hid hb
              clear hb ho
              go_wp2_with fail
              go_ret
              exact ⟨by rw [H.out]; rfl, HB.out⟩
            · rw [ho] at RP H
              go_wp2_with fail
              refine RP.out.mono ?_
              rintro e w2 ⟨rfl, hb⟩
              have HB := Lib.hid hb
              clear hb ho
              go_wp2_with fail
              go_ret
              exact ⟨by rw [H.out]; rfl, HB.out⟩
          | succ g =>
            have hlt : k < l.length := by omega
            obtain ⟨b, o, cp, e, hb, hc⟩ := RI.out.num k hlt
            cases e
            have HX : Hid (∃ h : k < l.length, l[k] = l[k]) := Lib.hid ⟨hlt, rfl⟩
            have HM := Lib.hid (fun (e : inS l[k] = true) => all_more hlt HA.out e)
            have HO := Lib.hid (fun (e : inS l[k] = false) => all_out hlt e)
            obtain ⟨x, hx⟩ : ∃ x, l[k] = x := ⟨_, rfl⟩
            rw [hx] at hc HM HO
            have N1 := Lib.hid (NM.out x w (Below.refl _ _))
            obtain ⟨s, hs⟩ : ∃ s, (nameV x).1 = s := ⟨_, rfl⟩
            rw [hs] at N1
            clear hs hx HX
            cases hi : inS x
            · have H := Lib.hid (SO.out (HO.out hi))
              rw [inS_err2 hi] at N1
              clear hi HM HO
              go_wp2_with fail
              refine N1.out.mono ?_
              rintro e w2 ⟨rfl, rfl⟩
              go_wp2_with fail
              go_ret
              exact ⟨by rw [H.out]; rfl, Below.refl _ _⟩
            · have H := Lib.hid (HM.out hi)
              rw [inS_err hi] at N1
              clear hi HM HO
              go_wp2_with fail
              refine N1.out.mono ?_
              rintro e w2 ⟨rfl, rfl⟩
              go_wp2_with fail
              go_roundg g
              case measure => omega
              case rel => exact ⟨k + 1, by omega, by go_num, H, Lib.hid rfl⟩
    cases join
    · exact step (.inl rfl)
    · exact step (.inr ⟨rfl, hj.resolve_left (by simp)⟩)
  cases hj : join
  · rw [← hj]; exact main (.inl hj)
  · rw [← hj]
    by_cases h2 : l.length = 2
    · exact main (.inr (by rw [bne_eq_false_iff_eq]; omega))
    · have q2 : ((l.length : Int) != 2) = true := by rw [bne_iff_ne]; omega
      rw [sources_two h4 hj h2]
      subst hj
      clear main RI NM REP hR hf h0 h4 h2
      go_enter Tryz.func37, Tryz.ntmps37
      go_wp2_with fail
      go_ret
      exact ⟨rfl, Below.refl _ _⟩
end Go.Proofs.YtdinaedknlkicaaGreatDoor.Nodes
/-
  Contracts of the statements' helpers (layer 8): slide, alive, good.
-/
namespace Go.Proofs.YtdinaedknlkicaaGreatDoor.Nodes
open Go.ChangeShapes Go.WideShapes Go.ChangeAt Go.RowKit

/-- A literal list of numbers. -/
def intBox (l : List Int) : Obj := .cells (l.map (Value.int .i64)).toArray 3
theorem lit_reads (w : World) (l : List Int) : ReadsI (w.alloc (intBox l)) (.slice (some ⟨w.heap.size, 0, none⟩) l.length l.length) l := by
  refine .inr ⟨w.heap.size, 0, 0, rfl, by simp, fun i x hx => ?_⟩
  have e : (w.alloc (intBox l)).heap[w.heap.size]? = some (intBox l) := heap_alloc_new _ _
  unfold World.cell?
  simp only [e]
  simp [intBox, hx]
theorem lit_sources (l : List Int) (j : Bool) (w : World) (hf : NameFix w) (hn : l.length ≤ 9223372036854775807) : Calls Tryz.prog 37 #[.slice (some ⟨w.heap.size, 0, none⟩) l.length l.length, .bool j] (w.alloc (intBox l)) fun e w' => e = .returned (.int .i64 (sourcesV l j)) ∧ Below w.heap.size w w' :=
  (clSources_any _ l j _ (hf.below (box_below _ _)) (lit_reads w l) hn).mono (fun _ _ h => ⟨h.1, below_box (Below.refl _ w) h.2⟩)
/-! ### good -/
def goodV : List Nd := [⟨4, 0, 0, 0, 0⟩]
def goodQ : Qy := ⟨2, goodV, [1, 0], false, goodV, ⟨1, 5, 0⟩, false, 2⟩
theorem iQy : (Tryz.prog.info? 28).map (·.size) = some 10 := by kernel_rfl
/-- A result that lies in a variable: a query. -/
theorem ret_qy {fn : Func} {p : Tmp} (h : fn.results = #[.cell p 28]) (tmps : Array Value) (w : World) (b : Nat) (s : Sl) (q : Qy) (hp : tmps.getD p undef = .pointer (some ⟨b, 0, none⟩)) (hq : QyAt w b s q) :
    (results fn tmps).run Tryz.prog w = .ok (qyVal s q) w := by
  exact results_cell_row h tmps w b _ _ _ _ hp hq Tryz.underlying28 rfl iQy
theorem good_reads (w : World) (b : Nat) (h : w.heap[b]? = some (.cells #[.int .u8 4, .int .i64 0, .int .i64 0, .int .i64 0, .int .i64 0] 43)) : ReadsN w (.slice (some ⟨b, 0, none⟩) 1 1) goodV := by
  refine .inr ⟨b, 0, 0, rfl, (Array.getElem?_eq_some_iff.1 h).1, fun i x hx => ?_⟩
  match i, hx with
  | 0, hx =>
    simp [goodV] at hx
    subst hx
    unfold NdAt World.cell?
    simp only [h]
    exact ⟨rfl, rfl, rfl, rfl, rfl⟩
  | i + 1, hx => simp [goodV] at hx
theorem good_at (w : World) (o : Obj) (b : Nat) (hb : b = w.heap.size) : ∀ W, W = (((w.alloc o).alloc (.cells #[.int .u8 4, .int .i64 0, .int .i64 0, .int .i64 0, .int .i64 0] 43)).alloc (.cells #[.int .i64 1, .int .i64 0] 3)) →
    W.heap[b]? = some o ∧ W.heap[b + 1]? = some (.cells #[.int .u8 4, .int .i64 0, .int .i64 0, .int .i64 0, .int .i64 0] 43) ∧ ReadsI W (.slice (some ⟨b + 1 + 1, 0, none⟩) 2 2) [1, 0] ∧ Below w.heap.size w W := by
  rintro W rfl
  subst hb
  have e1 : (w.alloc o).heap.size = w.heap.size + 1 := by simp
  have e2 : ((w.alloc o).alloc (.cells #[.int .u8 4, .int .i64 0, .int .i64 0, .int .i64 0, .int .i64 0] 43)).heap.size = w.heap.size + 1 + 1 := by simp
  refine ⟨?_, ?_, ?_, (((box_below w o).alloc (by simp) _).alloc (by simp; omega) _)⟩
  · rw [(box_below _ _).block _ (by rw [e2]; omega), (box_below _ _).block _ (by rw [e1]; omega)]
    exact heap_alloc_new _ _
  · rw [(box_below _ _).block _ (by rw [e2]; omega), ← e1]
    exact heap_alloc_new _ _
  · have := lit_reads ((w.alloc o).alloc (.cells #[.int .u8 4, .int .i64 0, .int .i64 0, .int .i64 0, .int .i64 0] 43)) [1, 0]
    rwa [e2] at this
end Go.Proofs.YtdinaedknlkicaaGreatDoor.Nodes
/-
  What the walks of layer 8's statements hold of the world: queries and windows in blocks of the call's own.
-/
namespace Go.Proofs.YtdinaedknlkicaaGreatDoor.Nodes
open Go.ChangeShapes Go.WideShapes Go.ChangeAt Go.RowKit

structure SL (w W : World) (L : List (Nat × Sl × Qy)) : Prop where
  base : Below w.heap.size w W
  all : ∀ x ∈ L, w.heap.size ≤ x.1 ∧ QyAt W x.1 x.2.1 x.2.2
theorem SL.below {w W W' : World} {L : List (Nat × Sl × Qy)} (h : SL w W L) (hb : Below W.heap.size W W') : SL w W' L :=
  ⟨below_then h.base hb, fun x hx => ⟨(h.all x hx).1, (h.all x hx).2.below hb⟩⟩
theorem SL.nil (w : World) : SL w w [] := ⟨Below.refl _ _, fun x hx => by cases hx⟩
theorem SL.nil_of {w W : World} (h : Below w.heap.size w W) : SL w W [] := ⟨h, fun x hx => by cases hx⟩
theorem SL.box {w W : World} {L : List (Nat × Sl × Qy)} (h : SL w W L) (b : Nat) (hb : b = W.heap.size) (s : Sl) (q : Qy) : SL w (W.alloc (qyBox s q)) ((b, s, q) :: L) := by
  subst hb
  refine ⟨h.base.alloc h.base.size _, fun x hx => ?_⟩
  rcases List.mem_cons.1 hx with rfl | hx
  · exact ⟨h.base.size, qy_at W s q⟩
  · exact ⟨(h.all x hx).1, (h.all x hx).2.below (box_below _ _)⟩
theorem SL.at0 {w W : World} {L : List (Nat × Sl × Qy)} {b : Nat} {s : Sl} {q : Qy} (h : SL w W ((b, s, q) :: L)) : QyAt W b s q := (h.all _ (List.mem_cons_self ..)).2
theorem SL.tail {w W : World} {L : List (Nat × Sl × Qy)} {x : Nat × Sl × Qy} (h : SL w W (x :: L)) : SL w W L := ⟨h.base, fun y hy => h.all y (List.mem_cons_of_mem _ hy)⟩
theorem SL.at1 {w W : World} {L : List (Nat × Sl × Qy)} {x : Nat × Sl × Qy} {b : Nat} {s : Sl} {q : Qy} (h : SL w W (x :: (b, s, q) :: L)) : QyAt W b s q := h.tail.at0
theorem SL.at2 {w W : World} {L : List (Nat × Sl × Qy)} {x y : Nat × Sl × Qy} {b : Nat} {s : Sl} {q : Qy} (h : SL w W (x :: y :: (b, s, q) :: L)) : QyAt W b s q := h.tail.at1
theorem SL.at3 {w W : World} {L : List (Nat × Sl × Qy)} {x y z : Nat × Sl × Qy} {b : Nat} {s : Sl} {q : Qy} (h : SL w W (x :: y :: z :: (b, s, q) :: L)) : QyAt W b s q := h.tail.at2
/-- .. behind one allocation more. -/
theorem QyAt.past {w : World} {b : Nat} {s : Sl} {q : Qy} (h : QyAt w b s q) : (∀ o, (w.alloc o).cell? ⟨b, 0, none⟩ = some (.int .u8 q.agg)) ∧ (∀ o, (w.alloc o).cell? ⟨b, 1, none⟩ = some (s.arg)) ∧ (∀ o, (w.alloc o).cell? ⟨b, 2, none⟩ = some (s.src)) ∧ (∀ o, (w.alloc o).cell? ⟨b, 3, none⟩ = some (.bool q.join)) ∧ (∀ o, (w.alloc o).cell? ⟨b, 4, none⟩ = some (s.cond)) ∧ (∀ o, (w.alloc o).cell? ⟨b, 5, none⟩ = some (.int .u8 q.win.kind)) ∧ (∀ o, (w.alloc o).cell? ⟨b, 6, none⟩ = some (.int .i64 q.win.size)) ∧ (∀ o, (w.alloc o).cell? ⟨b, 7, none⟩ = some (.int .i64 q.win.every)) ∧ (∀ o, (w.alloc o).cell? ⟨b, 8, none⟩ = some (.bool q.key)) ∧ (∀ o, (w.alloc o).cell? ⟨b, 9, none⟩ = some (.int .u8 q.late)) := by
  have k : ∀ o, QyAt (w.alloc o) b s q := fun o => h.below (box_below _ _)
  exact ⟨fun o => (k o).cells.1, fun o => (k o).cells.2.1, fun o => (k o).cells.2.2.1, fun o => (k o).cells.2.2.2.1, fun o => (k o).cells.2.2.2.2.1, fun o => (k o).cells.2.2.2.2.2.1, fun o => (k o).cells.2.2.2.2.2.2.1, fun o => (k o).cells.2.2.2.2.2.2.2.1, fun o => (k o).cells.2.2.2.2.2.2.2.2.1, fun o => (k o).cells.2.2.2.2.2.2.2.2.2⟩
theorem great_small {q : Qy} (h : greatQ q = false) : q.arg.length ≤ 70 ∧ q.cond.length ≤ 70 ∧ q.src.length ≤ 10 := by
  have := of_decide_eq_false h
  omega
end Go.Proofs.YtdinaedknlkicaaGreatDoor.Nodes

/-
  Texts of this seat in one: ParserDefs; ParserLaws; ParserLex; ParserLike; ParserText; ParserBack; ParserExact.
-/
import Derived.Test.YtdinaedknlkicaaGreatDoorClauseMath
import Derived.Test.YtdinaedknlkicaaGreatDoorPackG1
import Derived.Test.YtdinaedknlkicaaGreatDoorLexAll
/-
  Queries of tokens, plainly (layer 9): what is read from a list of tokens on, clause by clause. No program in this text.
-/
namespace Go.Proofs.YtdinaedknlkicaaGreatDoor.Prs
open Nodes Exprs

def tSelect : List UInt8 := [115, 101, 108, 101, 99, 116]
def tCount : List UInt8 := [99, 111, 117, 110, 116]
def tSum : List UInt8 := [115, 117, 109]
def tMin : List UInt8 := [109, 105, 110]
def tMax : List UInt8 := [109, 97, 120]
def tLeft : List UInt8 := [40]
def tStar : List UInt8 := [42]
def tRight : List UInt8 := [41]
def tFrom : List UInt8 := [102, 114, 111, 109]
def tJoin : List UInt8 := [106, 111, 105, 110]
def tUnion : List UInt8 := [117, 110, 105, 111, 110]
def tWhere : List UInt8 := [119, 104, 101, 114, 101]
def tWindow : List UInt8 := [119, 105, 110, 100, 111, 119]
def tTumble : List UInt8 := [116, 117, 109, 98, 108, 101]
def tSlide : List UInt8 := [115, 108, 105, 100, 101]
def tSession : List UInt8 := [115, 101, 115, 115, 105, 111, 110]
def tEvery : List UInt8 := [101, 118, 101, 114, 121]
def tBy : List UInt8 := [98, 121]
def tKey : List UInt8 := [107, 101, 121]
def tLate : List UInt8 := [108, 97, 116, 101]
def tDrop : List UInt8 := [100, 114, 111, 112]
def tSide : List UInt8 := [115, 105, 100, 101]

/-- The text of the next token, none at the end. -/
def hd : List Tok → List UInt8
  | [] => []
  | t :: _ => t.text
/-- What is read: an error, what is left, the query so far. -/
structure Out where
  e : Int
  l : List Tok
  q : Qy
def Out.then (o : Out) (f : List Tok → Qy → Out) : Out := if o.e = 0 then f o.l o.q else o
theorem then_ok {o : Out} {f : List Tok → Qy → Out} (h : o.e = 0) : o.then f = f o.l o.q := if_pos h
theorem then_bad {o : Out} {f : List Tok → Qy → Out} (h : o.e ≠ 0) : o.then f = o := if_neg h
def expP : List (List UInt8) → List Tok → Int × List Tok
  | [], l => (0, l)
  | x :: xs, l => if hd l = x then expP xs l.tail else (12, l)
def needP (xs : List (List UInt8)) (l : List Tok) (q : Qy) : Out := ⟨(expP xs l).1, (expP xs l).2, q⟩
/-- An expression from the first token on. -/
def exprP (l : List Tok) : Int × List Nd × List Tok :=
  match parse (syms l) with
  | .ok x rest => (0, x, l.drop (l.length - rest.length))
  | .err c rest => (c, [], l.drop (l.length - rest.length))
def withArg (q : Qy) (x : List Nd) : Qy := ⟨q.agg, x, q.src, q.join, q.cond, q.win, q.key, q.late⟩
def withCond (q : Qy) (x : List Nd) : Qy := ⟨q.agg, q.arg, q.src, q.join, x, q.win, q.key, q.late⟩
def withAgg (q : Qy) (x : Int) : Qy := ⟨x, q.arg, q.src, q.join, q.cond, q.win, q.key, q.late⟩
def withSrc (q : Qy) (x : List Int) : Qy := ⟨q.agg, q.arg, x, q.join, q.cond, q.win, q.key, q.late⟩
def withJoin (q : Qy) (x : Bool) : Qy := ⟨q.agg, q.arg, q.src, x, q.cond, q.win, q.key, q.late⟩
def withWin (q : Qy) (x : Wn) : Qy := ⟨q.agg, q.arg, q.src, q.join, q.cond, x, q.key, q.late⟩
def withKey (q : Qy) (x : Bool) : Qy := ⟨q.agg, q.arg, q.src, q.join, q.cond, q.win, x, q.late⟩
def withLate (q : Qy) (x : Int) : Qy := ⟨q.agg, q.arg, q.src, q.join, q.cond, q.win, q.key, x⟩
def argP (l : List Tok) (q : Qy) : Out :=
  (needP [tLeft] l q).then fun l q => (Out.mk (exprP l).1 (exprP l).2.2 (withArg q (exprP l).2.1)).then fun l q => needP [tRight] l q
def aggP (l : List Tok) (q : Qy) : Out :=
  (needP [tSelect] l q).then fun l q =>
    if hd l = tCount then needP [tLeft, tStar, tRight] l.tail (withAgg q 1)
    else if hd l = tSum then argP l.tail (withAgg q 2)
    else if hd l = tMin then argP l.tail (withAgg q 3)
    else if hd l = tMax then argP l.tail (withAgg q 4)
    else ⟨12, l, q⟩
def srcP (l : List Tok) (q : Qy) : Out :=
  if (sourceV ⟨(hd l).toArray⟩).2 ≠ 0 then ⟨12, l, q⟩
  else if (sourceV ⟨(hd l).toArray⟩).1 ∈ q.src then ⟨43, l, q⟩
  else ⟨0, l.tail, withSrc q (q.src ++ [(sourceV ⟨(hd l).toArray⟩).1])⟩
def unionsP : Nat → List Tok → Qy → Out
  | 0, l, q => ⟨0, l, q⟩
  | f + 1, l, q => if hd l = tUnion then (srcP l.tail q).then (unionsP f) else ⟨0, l, q⟩
def fromP (l : List Tok) (q : Qy) : Out :=
  (needP [tFrom] l q).then fun l q => (srcP l q).then fun l q =>
    if hd l = tJoin then srcP l.tail (withJoin q true) else unionsP l.length l q
def condP (l : List Tok) (q : Qy) : Out :=
  if hd l = tWhere then ⟨(exprP l.tail).1, (exprP l.tail).2.2, withCond q (exprP l.tail).2.1⟩ else ⟨0, l, q⟩
/-- A number, if windows with it are valid: the number, its error, what is left. -/
def numP (ok : Int → Wn) (l : List Tok) : Int × Int × List Tok :=
  if rdE (hd l) ≠ 0 then (0, rdE (hd l), l)
  else if windowV (ok (rdV (hd l))) ≠ 0 then (0, 16, l)
  else (rdV (hd l), 0, l.tail)
def wTumble (n : Int) : Wn := ⟨1, n, 0⟩
def wSlide (s n : Int) : Wn := ⟨2, s, n⟩
def lensP (l : List Tok) (q : Qy) : Out :=
  if (numP wTumble l).2.1 ≠ 0 then ⟨(numP wTumble l).2.1, (numP wTumble l).2.2, q⟩
  else if q.win.kind ≠ 2 then ⟨0, (numP wTumble l).2.2, withWin q ⟨q.win.kind, (numP wTumble l).1, q.win.every⟩⟩
  else (needP [tEvery] (numP wTumble l).2.2 (withWin q ⟨q.win.kind, (numP wTumble l).1, q.win.every⟩)).then fun l2 q2 =>
    ⟨(numP (wSlide (numP wTumble l).1) l2).2.1, (numP (wSlide (numP wTumble l).1) l2).2.2, withWin q2 ⟨q2.win.kind, q2.win.size, (numP (wSlide (numP wTumble l).1) l2).1⟩⟩
def kindP (l : List Tok) (q : Qy) (k : Int) : Out :=
  if q.join = true ∧ k ≠ 1 then ⟨8, l, withWin q ⟨k, q.win.size, q.win.every⟩⟩ else lensP l.tail (withWin q ⟨k, q.win.size, q.win.every⟩)
def winP (l : List Tok) (q : Qy) : Out :=
  (needP [tWindow] l q).then fun l q =>
    if hd l = tTumble then kindP l q 1 else if hd l = tSlide then kindP l q 2 else if hd l = tSession then kindP l q 3 else ⟨12, l, q⟩
def keyP (l : List Tok) (q : Qy) : Out :=
  if hd l = tBy then needP [tKey] l.tail (withKey q true) else ⟨0, l, q⟩
def lateP (l : List Tok) (q : Qy) : Out :=
  if hd l = tLate then (if hd l.tail = tDrop then ⟨0, l.tail.tail, withLate q 1⟩ else needP [tSide] l.tail (withLate q 2)) else ⟨0, l, withLate q 1⟩
def noQ : Qy := ⟨0, [], [], false, [], ⟨0, 0, 0⟩, false, 0⟩
/-- All clauses, one behind the other. -/
def clausesP (l : List Tok) : Out :=
  (aggP l noQ).then fun l q => (fromP l q).then fun l q => (condP l q).then fun l q => (winP l q).then fun l q => (keyP l q).then lateP
def queryP (l : List Tok) : Out :=
  if (clausesP l).e ≠ 0 then ⟨(clausesP l).e, (clausesP l).l, noQ⟩ else if (clausesP l).l = [] then clausesP l else ⟨38, (clausesP l).l, noQ⟩
/-- What Parse returns of a text: a query, a place, an error. -/
def parseP (s : List UInt8) : Qy × Int × Int :=
  if (allV s).2.2 ≠ 0 then (noQ, ((allV s).2.1 : Int), (allV s).2.2)
  else ((queryP (allV s).1).q, (match (queryP (allV s).1).l with | [] => (s.length : Int) | t :: _ => t.at_), (queryP (allV s).1).e)
theorem parseP_bad {s : List UInt8} (h : (allV s).2.2 ≠ 0) : parseP s = (noQ, ((allV s).2.1 : Int), (allV s).2.2) := if_pos h
theorem parseP_ok {s : List UInt8} (h : (allV s).2.2 = 0) : parseP s = ((queryP (allV s).1).q, (match (queryP (allV s).1).l with | [] => (s.length : Int) | t :: _ => t.at_), (queryP (allV s).1).e) := if_neg (by rw [h]; exact fun e => e rfl)
end Go.Proofs.YtdinaedknlkicaaGreatDoor.Prs
/-
  What is read clause by clause (layer 9), plainly: what is left is the end of what was there; what is read is valid, has the places of its tokens, and as many tokens as it needs, but for pairs. No program in this text.
-/
namespace Go.Proofs.YtdinaedknlkicaaGreatDoor.Prs
open Nodes Exprs

theorem TsOk.suffix {l m : List Tok} (h : TsOk l) (hs : m <:+ l) : TsOk m := ⟨Nat.le_trans hs.length_le h.1, fun t ht => h.2 t (hs.subset ht)⟩
theorem tail_suffix (l : List Tok) : l.tail <:+ l := List.tail_suffix l
theorem hd_some {l : List Tok} {x : List UInt8} (h : hd l = x) (hx : x ≠ []) : ∃ t r, l = t :: r ∧ t.text = x := by
  cases l with
  | nil => exact absurd h.symm hx
  | cons t r => exact ⟨t, r, rfl, h⟩
theorem tail_len {l : List Tok} {x : List UInt8} (h : hd l = x) (hx : x ≠ []) : l.length = l.tail.length + 1 := by
  obtain ⟨t, r, rfl, _⟩ := hd_some h hx
  rfl
theorem exp_suffix (xs : List (List UInt8)) : ∀ l, (expP xs l).2 <:+ l := by
  induction xs with
  | nil => exact fun l => List.suffix_refl l
  | cons x xs ih =>
    intro l
    unfold expP
    split
    · exact (ih _).trans (tail_suffix l)
    · exact List.suffix_refl l
theorem exp_len (xs : List (List UInt8)) (hx : ∀ x ∈ xs, x ≠ []) : ∀ l, (expP xs l).1 = 0 → l.length = (expP xs l).2.length + xs.length := by
  induction xs with
  | nil => exact fun l _ => rfl
  | cons x xs ih =>
    intro l h
    unfold expP at h ⊢
    split
    · rename_i hh
      rw [if_pos hh] at h
      have h1 := ih (fun y hy => hx y (by simp [hy])) _ h
      have h2 := tail_len hh (hx x (by simp))
      simp only [List.length_cons]
      omega
    · rename_i hh
      rw [if_neg hh] at h
      cases h
theorem exp_err (xs : List (List UInt8)) : ∀ l, (expP xs l).1 = 0 ∨ (expP xs l).1 = 12 := by
  induction xs with
  | nil => exact fun l => .inl rfl
  | cons x xs ih =>
    intro l
    unfold expP
    split
    · exact ih _
    · exact .inr rfl

/-! ### Expressions -/
theorem bra_even (p : List Tok) : p.length % 2 = ((placesV p).length + (openV p).natAbs) % 2 := by
  have h : ∃ k : Nat, p.length = (placesV p).length + k ∧ (openV p - k) % 2 = 0 := by
    induction p with
    | nil => exact ⟨0, rfl, rfl⟩
    | cons t p ih =>
      obtain ⟨k, h1, h2⟩ := ih
      unfold placesV openV
      rw [List.filter_cons]
      unfold placesV at h1
      cases hb : braB t with
      | true =>
        refine ⟨k + 1, ?_, ?_⟩
        · simp only [Bool.not_true, Bool.false_eq_true, if_false, List.length_cons]; omega
        · simp only [if_true]; split <;> omega
      | false =>
        refine ⟨k, ?_, ?_⟩
        · simp only [Bool.not_false, if_true, List.length_cons, List.map_cons]; omega
        · simp only [Bool.false_eq_true, if_false]; omega
  obtain ⟨k, h1, h2⟩ := h
  omega
/-- The nodes have places of tokens. -/
def Placed (l : List Tok) (x : List Nd) : Prop := ∀ n ∈ x, ∃ t ∈ l, t.at_ = n.at_
theorem Placed.suffix {l m : List Tok} {x : List Nd} (h : Placed m x) (hs : m <:+ l) : Placed l x := fun n hn => by
  obtain ⟨t, ht, e⟩ := h n hn
  exact ⟨t, hs.subset ht, e⟩
theorem Placed.nil (l : List Tok) : Placed l [] := fun n hn => by cases hn
theorem expr_v {l : List Tok} (h : TsOk l) : askedV l ((0 : Nat) : Int) = 0 := asked_ok.2 ⟨h.1, h.2, by omega, by omega⟩
theorem expr_is (l : List Tok) (h : TsOk l) : ∃ b : Nat, b ≤ l.length ∧ parseV l ((0 : Nat) : Int) = ((exprP l).2.1, (b : Int), (exprP l).1) ∧ (exprP l).2.2 = l.drop b := by
  have hv := expr_v h
  unfold parseV
  rw [if_pos hv, Int.toNat_natCast, List.drop_zero]
  have hl : (syms l).length = l.length := List.length_map _
  unfold exprP
  cases hp : parse (syms l) with
  | ok x rest =>
    have h1 := go_less hp
    refine ⟨l.length - rest.length, by omega, ?_, rfl⟩
    show (x, ((l.length : Int) - rest.length), (0 : Int)) = (x, ((l.length - rest.length : Nat) : Int), 0)
    rw [hl] at h1
    rw [show ((l.length : Int) - rest.length) = ((l.length - rest.length : Nat) : Int) by omega]
  | err c rest =>
    have h1 := (parse_err hp).2.length_le
    refine ⟨l.length - rest.length, by omega, ?_, rfl⟩
    show (([] : List Nd), ((l.length : Int) - rest.length), c) = ([], ((l.length - rest.length : Nat) : Int), c)
    rw [hl] at h1
    rw [show ((l.length : Int) - rest.length) = ((l.length - rest.length : Nat) : Int) by omega]
theorem expr_suffix (l : List Tok) : (exprP l).2.2 <:+ l := by
  unfold exprP
  split
  · exact List.drop_suffix _ _
  · exact List.drop_suffix _ _
theorem expr_bad {l : List Tok} (he : (exprP l).1 ≠ 0) : (exprP l).2.1 = [] := by
  unfold exprP at he ⊢
  split
  · rename_i h; rw [h] at he; exact absurd rfl he
  · rfl
theorem expr_law {l : List Tok} (h : TsOk l) (he : (exprP l).1 = 0) :
    checkV (exprP l).2.1 = 0 ∧ Placed l (exprP l).2.1 ∧ l.length % 2 = ((exprP l).2.2.length + (exprP l).2.1.length) % 2 ∧ (exprP l).2.2.length < l.length := by
  obtain ⟨b, hb, hp, hd⟩ := expr_is l h
  rw [he] at hp
  obtain ⟨h1, m, h2, h3, h4, h5, h6, _⟩ := (counts_v (expr_v h) hp).2 rfl
  rw [List.drop_zero] at h5 h6
  have hbm : b = m := by omega
  subst hbm
  refine ⟨h1, ?_, ?_, ?_⟩
  · intro n hn
    have : n.at_ ∈ placesV (l.take b) := h5.mem_iff.1 (List.mem_map_of_mem hn)
    unfold placesV at this
    obtain ⟨t, ht, e⟩ := List.mem_map.1 this
    exact ⟨t, List.mem_of_mem_take (List.mem_filter.1 ht).1, e⟩
  · have e1 := bra_even (l.take b)
    rw [h6] at e1
    have e2 := h5.length_eq
    rw [List.length_map] at e2
    rw [List.length_take, Nat.min_eq_left hb] at e1
    rw [hd, List.length_drop]
    simp only [Int.natAbs_zero, Nat.add_zero] at e1
    omega
  · rw [hd, List.length_drop]; omega
theorem expr_small (l : List Tok) (h : TsOk l) : (exprP l).2.1.length ≤ 60 ∧ Wide (exprP l).2.1 := by
  obtain ⟨b, _, hp, _⟩ := expr_is l h
  have := parse_small l ((0 : Nat) : Int)
  rw [hp] at this
  exact this

/-! ### Clauses -/
theorem need_ne : (∀ x ∈ [tLeft], x ≠ []) ∧ (∀ x ∈ [tRight], x ≠ []) ∧ (∀ x ∈ [tSelect], x ≠ []) ∧ (∀ x ∈ [tLeft, tStar, tRight], x ≠ []) ∧ (∀ x ∈ [tFrom], x ≠ []) ∧ (∀ x ∈ [tWindow], x ≠ []) ∧ (∀ x ∈ [tEvery], x ≠ []) ∧ (∀ x ∈ [tKey], x ≠ []) ∧ (∀ x ∈ [tSide], x ≠ []) := by decide
structure ArgLaw (l : List Tok) (q : Qy) (o : Out) : Prop where
  suffix : o.l <:+ l
  frame : ∃ x, o.q = withArg q x
  small : q.arg = [] → o.q.arg.length ≤ 60 ∧ Wide o.q.arg
  ok : o.e = 0 → checkV o.q.arg = 0 ∧ Placed l o.q.arg ∧ l.length % 2 = (o.l.length + o.q.arg.length) % 2
theorem arg_law {l : List Tok} {q : Qy} (h : TsOk l) : ArgLaw l q (argP l q) := by
  unfold argP
  by_cases h1 : (needP [tLeft] l q).e = 0
  · rw [then_ok h1]
    have hs : (needP [tLeft] l q).l <:+ l := exp_suffix _ _
    have hn : l.length = (needP [tLeft] l q).l.length + 1 := exp_len _ need_ne.1 _ h1
    have hq : (needP [tLeft] l q).q = q := rfl
    obtain ⟨m, hm⟩ : ∃ m, (needP [tLeft] l q).l = m := ⟨_, rfl⟩
    rw [hm, hq]
    rw [hm] at hs hn
    have hsm := expr_small m (TsOk.suffix h hs)
    by_cases h2 : (exprP m).1 = 0
    · have hc := expr_law (TsOk.suffix h hs) h2
      rw [then_ok (show (Out.mk (exprP m).1 (exprP m).2.2 (withArg q (exprP m).2.1)).e = 0 from h2)]
      have hs2 : (exprP m).2.2 <:+ m := expr_suffix m
      refine ⟨(exp_suffix _ _).trans (hs2.trans hs), ⟨_, rfl⟩, fun _ => hsm, fun h3 => ?_⟩
      have hn2 := exp_len [tRight] need_ne.2.1 _ h3
      simp only [List.length_cons, List.length_nil] at hn2
      refine ⟨hc.1, hc.2.1.suffix hs, ?_⟩
      show l.length % 2 = ((expP [tRight] (exprP m).2.2).2.length + (exprP m).2.1.length) % 2
      have := hc.2.2.1
      omega
    · rw [then_bad (show (Out.mk (exprP m).1 (exprP m).2.2 (withArg q (exprP m).2.1)).e ≠ 0 from h2)]
      exact ⟨(expr_suffix m).trans hs, ⟨_, rfl⟩, fun _ => hsm, fun h3 => absurd h3 h2⟩
  · rw [then_bad h1]
    refine ⟨exp_suffix _ _, ⟨q.arg, rfl⟩, fun h0 => ?_, fun h3 => absurd h3 h1⟩
    show q.arg.length ≤ 60 ∧ Wide q.arg
    rw [h0]
    exact ⟨by decide, fun x hx => by cases hx⟩
structure AggLaw (l : List Tok) (q : Qy) (o : Out) : Prop where
  suffix : o.l <:+ l
  frame : ∃ g x, o.q = withArg (withAgg q g) x
  small : q.arg = [] → o.q.arg.length ≤ 60 ∧ Wide o.q.arg
  ok : o.e = 0 → q.arg = [] → 1 ≤ o.q.agg ∧ o.q.agg ≤ 4 ∧ argV o.q.agg o.q.arg = 0 ∧ Placed l o.q.arg ∧ l.length % 2 = (o.l.length + (if o.q.agg = 1 then 1 else o.q.arg.length)) % 2
theorem agg_some {l m : List Tok} {q : Qy} {g : Int} (h : TsOk l) (hs : m <:+ l) (hn : l.length = m.length + 2) (hg : g = 2 ∨ g = 3 ∨ g = 4) : AggLaw l q (argP m (withAgg q g)) := by
  have a := arg_law (q := withAgg q g) (TsOk.suffix h hs)
  obtain ⟨x, hx⟩ := a.frame
  refine ⟨a.suffix.trans hs, ⟨g, x, hx⟩, fun h0 => a.small h0, fun h1 _ => ?_⟩
  obtain ⟨b1, b2, b3⟩ := a.ok h1
  have hag : (argP m (withAgg q g)).q.agg = g := by rw [hx]; rfl
  rw [hag]
  refine ⟨by omega, by omega, ?_, b2.suffix hs, ?_⟩
  · unfold argV; rw [if_neg (by omega)]; exact b1
  · rw [if_neg (by omega)]; omega
theorem nil_small : ([] : List Nd).length ≤ 60 ∧ Wide [] := ⟨by decide, fun x hx => by cases hx⟩
theorem agg_law {l : List Tok} {q : Qy} (h : TsOk l) : AggLaw l q (aggP l q) := by
  unfold aggP
  by_cases h1 : (needP [tSelect] l q).e = 0
  · rw [then_ok h1]
    have hs : (needP [tSelect] l q).l <:+ l := exp_suffix _ _
    have hn : l.length = (needP [tSelect] l q).l.length + 1 := exp_len _ need_ne.2.2.1 _ h1
    have hq : (needP [tSelect] l q).q = q := rfl
    obtain ⟨m, hm⟩ : ∃ m, (needP [tSelect] l q).l = m := ⟨_, rfl⟩
    rw [hm, hq]
    rw [hm] at hs hn
    have ht := (tail_suffix m).trans hs
    by_cases k1 : hd m = tCount
    · rw [if_pos k1]
      have hn1 := tail_len k1 (by decide)
      refine ⟨(exp_suffix _ _).trans ht, ⟨1, q.arg, rfl⟩, fun h0 => ?_, fun h2 h0 => ?_⟩
      · show q.arg.length ≤ 60 ∧ Wide q.arg
        rw [h0]; exact nil_small
      · have hn2 := exp_len [tLeft, tStar, tRight] need_ne.2.2.2.1 _ h2
        simp only [List.length_cons, List.length_nil] at hn2
        refine ⟨Int.le_refl _, by show (1 : Int) ≤ 4; decide, ?_, ?_, ?_⟩
        · show argV 1 q.arg = 0
          rw [h0]; rfl
        · show Placed l q.arg
          rw [h0]; exact Placed.nil l
        · show l.length % 2 = ((expP [tLeft, tStar, tRight] m.tail).2.length + (if (1 : Int) = 1 then 1 else q.arg.length)) % 2
          rw [if_pos rfl]; omega
    rw [if_neg k1]
    by_cases k2 : hd m = tSum
    · rw [if_pos k2]
      have hn1 := tail_len k2 (by decide)
      exact agg_some h ht (by omega) (.inl rfl)
    rw [if_neg k2]
    by_cases k3 : hd m = tMin
    · rw [if_pos k3]
      have hn1 := tail_len k3 (by decide)
      exact agg_some h ht (by omega) (.inr (.inl rfl))
    rw [if_neg k3]
    by_cases k4 : hd m = tMax
    · rw [if_pos k4]
      have hn1 := tail_len k4 (by decide)
      exact agg_some h ht (by omega) (.inr (.inr rfl))
    rw [if_neg k4]
    refine ⟨hs, ⟨q.agg, q.arg, rfl⟩, fun h0 => ?_, fun h2 => by cases h2⟩
    show q.arg.length ≤ 60 ∧ Wide q.arg
    rw [h0]; exact nil_small
  · rw [then_bad h1]
    refine ⟨exp_suffix _ _, ⟨q.agg, q.arg, rfl⟩, fun h0 => ?_, fun h2 => absurd h2 h1⟩
    show q.arg.length ≤ 60 ∧ Wide q.arg
    rw [h0]; exact nil_small

/-! ### Sources -/
def RightS (l : List Int) : Prop := l.all inS = true ∧ l.Nodup
theorem nodup_len (l : List Int) : ∀ m : List Int, l.Nodup → l ⊆ m → l.length ≤ m.length := by
  induction l with
  | nil => exact fun m _ _ => Nat.zero_le _
  | cons a l ih =>
    intro m hn hs
    have ha : a ∈ m := hs (by simp)
    obtain ⟨h1, h2⟩ := List.nodup_cons.1 hn
    have := ih (m.erase a) h2 (fun x hx => (List.mem_erase_of_ne (fun e : x = a => h1 (by rw [← e]; exact hx))).2 (hs (by simp [hx])))
    rw [List.length_erase_of_mem ha] at this
    have hp := List.length_pos_of_mem ha
    simp only [List.length_cons]
    omega
theorem right_len {l : List Int} (h : RightS l) : l.length ≤ 4 := by
  have hs : l ⊆ [0, 1, 2, 3] := by
    intro x hx
    have := of_decide_eq_true (List.all_eq_true.1 h.1 x hx)
    have : x = 0 ∨ x = 1 ∨ x = 2 ∨ x = 3 := by omega
    rcases this with rfl | rfl | rfl | rfl <;> simp
  exact nodup_len l _ h.2 hs
theorem source_in (s : ByteArray) (h : (sourceV s).2 = 0) : inS (sourceV s).1 = true ∧ s.data.toList ≠ [] := by
  unfold sourceV at h ⊢
  split
  · rename_i e; rw [e]; exact ⟨by decide, by decide⟩
  split
  · rename_i e; rw [e]; exact ⟨by decide, by decide⟩
  split
  · rename_i e; rw [e]; exact ⟨by decide, by decide⟩
  split
  · rename_i e; rw [e]; exact ⟨by decide, by decide⟩
  · rename_i h1 h2 h3 h4
    rw [if_neg h1, if_neg h2, if_neg h3, if_neg h4] at h
    cases h
structure SrcLaw (l : List Tok) (q : Qy) (o : Out) : Prop where
  suffix : o.l <:+ l
  frame : ∃ x, o.q = withSrc q x
  right : RightS q.src → RightS o.q.src
  ok : o.e = 0 → l.length = o.l.length + 1 ∧ o.q.src.length = q.src.length + 1
theorem src_law (l : List Tok) (q : Qy) : SrcLaw l q (srcP l q) := by
  unfold srcP
  split
  · exact ⟨List.suffix_refl _, ⟨q.src, rfl⟩, fun h => h, fun h => by cases h⟩
  split
  · exact ⟨List.suffix_refl _, ⟨q.src, rfl⟩, fun h => h, fun h => by cases h⟩
  · rename_i h1 h2
    obtain ⟨h3, h4⟩ := source_in _ (Classical.not_not.1 h1)
    have hne : hd l ≠ [] := fun e => h4 (by rw [e])
    refine ⟨tail_suffix l, ⟨_, rfl⟩, fun h => ?_, fun _ => ⟨tail_len rfl hne, ?_⟩⟩
    · show RightS (q.src ++ [_])
      refine ⟨by rw [List.all_append, h.1]; simp [h3], ?_⟩
      rw [List.nodup_append]
      exact ⟨h.2, by simp, fun a ha b hb => by simp at hb; subst hb; exact fun e => h2 (e ▸ ha)⟩
    · show (q.src ++ [_]).length = _
      simp
structure UnionLaw (l : List Tok) (q : Qy) (o : Out) : Prop where
  suffix : o.l <:+ l
  frame : ∃ x, o.q = withSrc q x
  right : RightS q.src → RightS o.q.src
  ok : o.e = 0 → l.length % 2 = o.l.length % 2 ∧ q.src.length ≤ o.q.src.length
theorem unions_law (f : Nat) : ∀ (l : List Tok) (q : Qy), UnionLaw l q (unionsP f l q) := by
  induction f with
  | zero => exact fun l q => ⟨List.suffix_refl _, ⟨q.src, rfl⟩, fun h => h, fun _ => ⟨rfl, Nat.le_refl _⟩⟩
  | succ f ih =>
    intro l q
    show UnionLaw l q (if hd l = tUnion then (srcP l.tail q).then (unionsP f) else ⟨0, l, q⟩)
    split
    · rename_i hu
      have hn := tail_len hu (by decide)
      have s := src_law l.tail q
      have ht := tail_suffix l
      obtain ⟨x, hx⟩ := s.frame
      by_cases h1 : (srcP l.tail q).e = 0
      · rw [then_ok h1]
        have u := ih (srcP l.tail q).l (srcP l.tail q).q
        obtain ⟨y, hy⟩ := u.frame
        refine ⟨u.suffix.trans (s.suffix.trans ht), ⟨y, by rw [hy, hx]; rfl⟩, fun h => u.right (s.right h), fun h => ?_⟩
        have a := s.ok h1
        have b := u.ok h
        exact ⟨by omega, by omega⟩
      · rw [then_bad h1]
        exact ⟨s.suffix.trans ht, ⟨x, hx⟩, s.right, fun h => absurd h h1⟩
    · exact ⟨List.suffix_refl _, ⟨q.src, rfl⟩, fun h => h, fun _ => ⟨rfl, Nat.le_refl _⟩⟩
structure FromLaw (l : List Tok) (q : Qy) (o : Out) : Prop where
  suffix : o.l <:+ l
  frame : ∃ x j, o.q = withJoin (withSrc q x) j
  right : q.src = [] → RightS o.q.src
  ok : o.e = 0 → q.src = [] → q.join = false → sourcesV o.q.src o.q.join = 0 ∧ l.length % 2 = o.l.length % 2
theorem right_nil : RightS [] := ⟨rfl, List.nodup_nil⟩
theorem right_sources {l : List Int} {j : Bool} (h : RightS l) (h0 : 0 < l.length) (hj : j = true → l.length = 2) : sourcesV l j = 0 :=
  sources_ok.2 ⟨h0, right_len h, hj, h.1, decide_eq_true h.2⟩
theorem from_law (l : List Tok) (q : Qy) : FromLaw l q (fromP l q) := by
  unfold fromP
  by_cases h1 : (needP [tFrom] l q).e = 0
  · rw [then_ok h1]
    have hs : (needP [tFrom] l q).l <:+ l := exp_suffix _ _
    have hn : l.length = (needP [tFrom] l q).l.length + 1 := exp_len _ need_ne.2.2.2.2.1 _ h1
    have hq : (needP [tFrom] l q).q = q := rfl
    obtain ⟨m, hm⟩ : ∃ m, (needP [tFrom] l q).l = m := ⟨_, rfl⟩
    rw [hm, hq]
    rw [hm] at hs hn
    have s := src_law m q
    obtain ⟨x, hx⟩ := s.frame
    by_cases h2 : (srcP m q).e = 0
    · rw [then_ok h2]
      have so := s.ok h2
      have hr : q.src = [] → RightS (srcP m q).q.src := fun h0 => s.right (by rw [h0]; exact right_nil)
      obtain ⟨m2, hm2⟩ : ∃ m2, (srcP m q).l = m2 := ⟨_, rfl⟩
      obtain ⟨q2, hq2⟩ : ∃ q2, (srcP m q).q = q2 := ⟨_, rfl⟩
      have hs2 := s.suffix
      rw [hm2] at so hs2 ⊢
      rw [hq2] at so hr hx ⊢
      split
      · rename_i hj
        have hn2 := tail_len hj (by decide)
        have s2 := src_law m2.tail (withJoin q2 true)
        obtain ⟨y, hy⟩ := s2.frame
        refine ⟨s2.suffix.trans ((tail_suffix m2).trans (hs2.trans hs)), ⟨y, true, by rw [hy, hx]; rfl⟩, fun h0 => s2.right (hr h0), fun h3 h0 hj0 => ?_⟩
        have b := s2.ok h3
        have b2 : (srcP m2.tail (withJoin q2 true)).q.src.length = q2.src.length + 1 := b.2
        have : q.src.length = 0 := by rw [h0]; rfl
        have hj2 : (srcP m2.tail (withJoin q2 true)).q.join = true := by rw [hy]; rfl
        refine ⟨?_, by omega⟩
        exact right_sources (s2.right (hr h0)) (by omega) (fun _ => by omega)
      · have u := unions_law m2.length m2 q2
        obtain ⟨y, hy⟩ := u.frame
        refine ⟨u.suffix.trans (hs2.trans hs), ⟨y, q.join, by rw [hy, hx]; rfl⟩, fun h0 => u.right (hr h0), fun h3 h0 hj0 => ?_⟩
        have b := u.ok h3
        have hj2 : (unionsP m2.length m2 q2).q.join = false := by rw [hy, hx]; exact hj0
        refine ⟨?_, by omega⟩
        exact right_sources (u.right (hr h0)) (by omega) (fun e => by rw [hj2] at e; cases e)
    · rw [then_bad h2]
      exact ⟨s.suffix.trans hs, ⟨x, q.join, by rw [hx]; rfl⟩, fun h0 => s.right (by rw [h0]; exact right_nil), fun h3 => absurd h3 h2⟩
  · rw [then_bad h1]
    exact ⟨exp_suffix _ _, ⟨q.src, q.join, rfl⟩, fun h0 => by show RightS q.src; rw [h0]; exact right_nil, fun h3 => absurd h3 h1⟩

/-! ### The condition, windows, the key, late records -/
def wtC (x : List Nd) : Nat := if x.length = 0 then 0 else 1 + x.length
structure CondLaw (l : List Tok) (q : Qy) (o : Out) : Prop where
  suffix : o.l <:+ l
  frame : ∃ x, o.q = withCond q x
  small : q.cond = [] → o.q.cond.length ≤ 60 ∧ Wide o.q.cond
  ok : o.e = 0 → q.cond = [] → condV o.q.cond = 0 ∧ Placed l o.q.cond ∧ l.length % 2 = (o.l.length + wtC o.q.cond) % 2
theorem cond_law {l : List Tok} {q : Qy} (h : TsOk l) : CondLaw l q (condP l q) := by
  unfold condP
  split
  · rename_i hw
    have hn := tail_len hw (by decide)
    have ht := tail_suffix l
    have hsm := expr_small l.tail (TsOk.suffix h ht)
    refine ⟨(expr_suffix _).trans ht, ⟨_, rfl⟩, fun _ => hsm, fun h1 _ => ?_⟩
    obtain ⟨b1, b2, b3, _⟩ := expr_law (TsOk.suffix h ht) h1
    have hlen := (check_acc b1).2.1
    refine ⟨?_, b2.suffix ht, ?_⟩
    · show condV (exprP l.tail).2.1 = 0
      unfold condV; rw [if_neg (by omega)]; exact b1
    · show l.length % 2 = ((exprP l.tail).2.2.length + wtC (exprP l.tail).2.1) % 2
      unfold wtC; rw [if_neg (by omega)]; omega
  · refine ⟨List.suffix_refl _, ⟨q.cond, rfl⟩, fun h0 => ?_, fun _ h0 => ?_⟩
    · show q.cond.length ≤ 60 ∧ Wide q.cond
      rw [h0]; exact nil_small
    · show condV q.cond = 0 ∧ Placed l q.cond ∧ l.length % 2 = (l.length + wtC q.cond) % 2
      rw [h0]
      exact ⟨rfl, Placed.nil l, rfl⟩
theorem num_suffix (ok : Int → Wn) (l : List Tok) : (numP ok l).2.2 <:+ l := by
  unfold numP
  split
  · exact List.suffix_refl _
  split
  · exact List.suffix_refl _
  · exact tail_suffix l
theorem num_law {ok : Int → Wn} {l : List Tok} (h : (numP ok l).2.1 = 0) : windowV (ok (numP ok l).1) = 0 ∧ l.length = (numP ok l).2.2.length + 1 ∧ 0 ≤ (numP ok l).1 := by
  unfold numP at h ⊢
  split
  · rename_i h1; rw [if_pos h1] at h; exact absurd h h1
  split
  · rename_i h1 h2; rw [if_neg h1, if_pos h2] at h; cases h
  · rename_i h1 h2
    refine ⟨Classical.not_not.1 h2, ?_, rd_nonneg _⟩
    have hne : hd l ≠ [] := fun e => h1 (by rw [e]; decide)
    exact tail_len rfl hne
structure WinLaw (l : List Tok) (q : Qy) (o : Out) (n : Nat) : Prop where
  suffix : o.l <:+ l
  frame : ∃ x, o.q = withWin q x
  ok : o.e = 0 → windowV o.q.win = 0 ∧ (q.join = true → o.q.win.kind = 1) ∧ l.length % 2 = (o.l.length + n) % 2
theorem fits_of {w : Wn} (h : windowV w = 0) : 1 ≤ w.size ∧ w.size ≤ 1073741824 ∧ ((w.kind = 2 ∧ 1 ≤ w.every ∧ w.every ≤ w.size ∧ w.size ≤ 16 * w.every) ∨ ((w.kind = 1 ∨ w.kind = 3) ∧ w.every = 0)) := fitsW_iff.1 (windowV_zero.1 h)
theorem lens_law {l : List Tok} {q : Qy} (hk : q.win.kind = 1 ∨ q.win.kind = 2 ∨ q.win.kind = 3) (h0 : q.win.every = 0) (hj : q.join = true → q.win.kind = 1) : WinLaw l q (lensP l q) 1 := by
  unfold lensP
  obtain ⟨n, e, m, hm⟩ : ∃ n e m, numP wTumble l = (n, e, m) := ⟨_, _, _, rfl⟩
  have hs := num_suffix wTumble l
  have hl := num_law (ok := wTumble) (l := l)
  rw [hm] at hs hl ⊢
  simp only at hs hl ⊢
  split
  · rename_i h1
    exact ⟨hs, ⟨q.win, rfl⟩, fun h => absurd h h1⟩
  · rename_i h1
    obtain ⟨c1, c2, c3⟩ := hl (Classical.not_not.1 h1)
    have f1 := fits_of c1
    unfold wTumble at f1
    simp only at f1
    split
    · rename_i h2
      refine ⟨hs, ⟨_, rfl⟩, fun _ => ⟨?_, hj, by show l.length % 2 = (m.length + 1) % 2; omega⟩⟩
      show windowV ⟨q.win.kind, n, q.win.every⟩ = 0
      rw [h0]
      refine windowV_yes (fitsW_iff.2 ⟨f1.1, f1.2.1, .inr ⟨?_, rfl⟩⟩)
      show q.win.kind = 1 ∨ q.win.kind = 3
      omega
    · rename_i h2
      obtain ⟨q2, hq2⟩ : ∃ q2, withWin q ⟨q.win.kind, n, q.win.every⟩ = q2 := ⟨_, rfl⟩
      rw [hq2]
      by_cases h3 : (needP [tEvery] m q2).e = 0
      · rw [then_ok h3]
        have hn : m.length = (needP [tEvery] m q2).l.length + 1 := exp_len _ need_ne.2.2.2.2.2.2.1 _ h3
        have hs2 : (needP [tEvery] m q2).l <:+ m := exp_suffix _ _
        have hq3 : (needP [tEvery] m q2).q = q2 := rfl
        obtain ⟨m2, hm2⟩ : ∃ m2, (needP [tEvery] m q2).l = m2 := ⟨_, rfl⟩
        rw [hm2] at hn hs2 ⊢
        rw [hq3]
        have hl2 := num_law (ok := wSlide n) (l := m2)
        refine ⟨(num_suffix _ _).trans (hs2.trans hs), ⟨_, by rw [← hq2]; rfl⟩, fun h4 => ?_⟩
        obtain ⟨d1, d2, d3⟩ := hl2 h4
        have hk2 : q.win.kind = 2 := Classical.not_not.1 h2
        refine ⟨?_, fun e => by have := hj e; omega, ?_⟩
        · show windowV ⟨q2.win.kind, q2.win.size, (numP (wSlide n) m2).1⟩ = 0
          rw [← hq2]
          show windowV ⟨q.win.kind, n, (numP (wSlide n) m2).1⟩ = 0
          rw [hk2]; exact d1
        · show l.length % 2 = ((numP (wSlide n) m2).2.2.length + 1) % 2
          omega
      · rw [then_bad h3]
        exact ⟨(exp_suffix _ _).trans hs, ⟨_, by rw [← hq2]; rfl⟩, fun h => absurd h h3⟩
theorem kind_law {l : List Tok} {q : Qy} {k : Int} (hl : l.length = l.tail.length + 1) (hk : k = 1 ∨ k = 2 ∨ k = 3) (h0 : q.win.every = 0) : WinLaw l q (kindP l q k) 0 := by
  unfold kindP
  split
  · exact ⟨List.suffix_refl _, ⟨_, rfl⟩, fun h => by cases h⟩
  · rename_i h1
    have w := lens_law (l := l.tail) (q := withWin q ⟨k, q.win.size, q.win.every⟩) hk h0 (fun e => Classical.byContradiction fun f => h1 ⟨e, f⟩)
    obtain ⟨x, hx⟩ := w.frame
    refine ⟨w.suffix.trans (tail_suffix l), ⟨x, hx⟩, fun h => ?_⟩
    obtain ⟨a, b, c⟩ := w.ok h
    exact ⟨a, b, by omega⟩
theorem win_law {l : List Tok} {q : Qy} (h0 : q.win.every = 0) : WinLaw l q (winP l q) 1 := by
  unfold winP
  by_cases h1 : (needP [tWindow] l q).e = 0
  · rw [then_ok h1]
    have hs : (needP [tWindow] l q).l <:+ l := exp_suffix _ _
    have hn : l.length = (needP [tWindow] l q).l.length + 1 := exp_len _ need_ne.2.2.2.2.2.1 _ h1
    have hq : (needP [tWindow] l q).q = q := rfl
    obtain ⟨m, hm⟩ : ∃ m, (needP [tWindow] l q).l = m := ⟨_, rfl⟩
    rw [hm, hq]
    rw [hm] at hs hn
    have one : ∀ k x, (k = 1 ∨ k = 2 ∨ k = 3) → hd m = x → x ≠ [] → WinLaw l q (kindP m q k) 1 := fun k x hk hx hne => by
      have w := kind_law (l := m) (q := q) (tail_len hx hne) hk h0
      refine ⟨w.suffix.trans hs, w.frame, fun h => ?_⟩
      obtain ⟨a, b, c⟩ := w.ok h
      exact ⟨a, b, by omega⟩
    split
    · rename_i k1; exact one 1 _ (by omega) k1 (by decide)
    split
    · rename_i k1; exact one 2 _ (by omega) k1 (by decide)
    split
    · rename_i k1; exact one 3 _ (by omega) k1 (by decide)
    · exact ⟨hs, ⟨q.win, rfl⟩, fun h => by cases h⟩
  · rw [then_bad h1]
    exact ⟨exp_suffix _ _, ⟨q.win, rfl⟩, fun h => absurd h h1⟩
structure KeyLaw (l : List Tok) (q : Qy) (o : Out) : Prop where
  suffix : o.l <:+ l
  frame : ∃ x, o.q = withKey q x
  ok : o.e = 0 → l.length % 2 = o.l.length % 2
theorem key_law (l : List Tok) (q : Qy) : KeyLaw l q (keyP l q) := by
  unfold keyP
  split
  · rename_i hb
    have hn := tail_len hb (by decide)
    refine ⟨(exp_suffix _ _).trans (tail_suffix l), ⟨true, rfl⟩, fun h => ?_⟩
    have hn2 := exp_len [tKey] need_ne.2.2.2.2.2.2.2.1 _ h
    simp only [List.length_cons, List.length_nil] at hn2
    show l.length % 2 = (expP [tKey] l.tail).2.length % 2
    omega
  · exact ⟨List.suffix_refl _, ⟨q.key, rfl⟩, fun _ => rfl⟩
structure LateLaw (l : List Tok) (q : Qy) (o : Out) : Prop where
  suffix : o.l <:+ l
  frame : ∃ x, (x = 1 ∨ x = 2) ∧ o.q = withLate q x
  ok : o.e = 0 → l.length % 2 = o.l.length % 2
theorem late_law (l : List Tok) (q : Qy) : LateLaw l q (lateP l q) := by
  unfold lateP
  split
  · rename_i hb
    have hn := tail_len hb (by decide)
    split
    · rename_i hd2
      have hn2 := tail_len hd2 (by decide)
      exact ⟨(tail_suffix _).trans (tail_suffix l), ⟨1, .inl rfl, rfl⟩, fun _ => by show l.length % 2 = l.tail.tail.length % 2; omega⟩
    · refine ⟨(exp_suffix _ _).trans (tail_suffix l), ⟨2, .inr rfl, rfl⟩, fun h => ?_⟩
      have hn2 := exp_len [tSide] need_ne.2.2.2.2.2.2.2.2 _ h
      simp only [List.length_cons, List.length_nil] at hn2
      show l.length % 2 = (expP [tSide] l.tail).2.length % 2
      omega
  · exact ⟨List.suffix_refl _, ⟨1, .inl rfl, rfl⟩, fun _ => rfl⟩

/-! ### All clauses -/
/-- How many tokens, but for pairs. -/
def wtQ (q : Qy) : Nat := (if q.agg = 1 then 1 else q.arg.length) + wtC q.cond + 1
structure AllLaw (l : List Tok) (o : Out) : Prop where
  suffix : o.l <:+ l
  arg : o.q.arg.length ≤ 60 ∧ Wide o.q.arg
  cond : o.q.cond.length ≤ 60 ∧ Wide o.q.cond
  src : o.q.src.length ≤ 4
  ok : o.e = 0 → checkQ o.q = 0 ∧ Placed l o.q.arg ∧ Placed l o.q.cond ∧ l.length % 2 = (o.l.length + wtQ o.q) % 2
theorem clauses_law {l : List Tok} (h : TsOk l) : AllLaw l (clausesP l) := by
  unfold clausesP
  have a := agg_law (q := noQ) h
  obtain ⟨g, x, ha⟩ := a.frame
  by_cases h1 : (aggP l noQ).e = 0
  · obtain ⟨a1, a2, a3, a4, a5⟩ := a.ok h1 rfl
    have asm := a.small rfl
    rw [then_ok h1]
    obtain ⟨l1, hl1⟩ : ∃ m, (aggP l noQ).l = m := ⟨_, rfl⟩
    have as := a.suffix
    rw [hl1] at as a5
    rw [ha] at a1 a2 a3 a4 a5 asm
    rw [hl1, ha]
    replace a1 : 1 ≤ g := a1
    replace a2 : g ≤ 4 := a2
    replace a3 : argV g x = 0 := a3
    replace a4 : Placed l x := a4
    replace a5 : l.length % 2 = (l1.length + (if g = 1 then 1 else x.length)) % 2 := a5
    replace asm : x.length ≤ 60 ∧ Wide x := asm
    have b := from_law l1 (withArg (withAgg noQ g) x)
    obtain ⟨s, j, hb⟩ := b.frame
    have br := right_len (b.right rfl)
    by_cases h2 : (fromP l1 (withArg (withAgg noQ g) x)).e = 0
    · obtain ⟨b1, b2⟩ := b.ok h2 rfl rfl
      rw [then_ok h2]
      obtain ⟨l2, hl2⟩ : ∃ m, (fromP l1 (withArg (withAgg noQ g) x)).l = m := ⟨_, rfl⟩
      have bs := b.suffix
      rw [hl2] at bs b2
      rw [hb] at b1 br
      rw [hl2, hb]
      replace b1 : sourcesV s j = 0 := b1
      replace br : s.length ≤ 4 := br
      have s2 := bs.trans as
      obtain ⟨q2, hq2⟩ : ∃ q2 : Qy, withJoin (withSrc (withArg (withAgg noQ g) x) s) j = q2 := ⟨_, rfl⟩
      have e2 : q2 = ⟨g, x, s, j, [], ⟨0, 0, 0⟩, false, 0⟩ := hq2.symm
      rw [hq2]
      have c := cond_law (q := q2) (TsOk.suffix h s2)
      obtain ⟨y, hc⟩ := c.frame
      have csm := c.small (by rw [e2])
      by_cases h3 : (condP l2 q2).e = 0
      · obtain ⟨c1, c2, c3⟩ := c.ok h3 (by rw [e2])
        rw [then_ok h3]
        obtain ⟨l3, hl3⟩ : ∃ m, (condP l2 q2).l = m := ⟨_, rfl⟩
        have cs := c.suffix
        rw [hl3] at cs c3
        rw [hc] at c1 c2 c3 csm
        rw [hl3, hc]
        replace c1 : condV y = 0 := c1
        replace c2 := Placed.suffix (show Placed l2 y from c2) s2
        replace c3 : l2.length % 2 = (l3.length + wtC y) % 2 := c3
        replace csm : y.length ≤ 60 ∧ Wide y := csm
        have s3 := cs.trans s2
        obtain ⟨q3, hq3⟩ : ∃ q3 : Qy, withCond q2 y = q3 := ⟨_, rfl⟩
        have e3 : q3 = ⟨g, x, s, j, y, ⟨0, 0, 0⟩, false, 0⟩ := by rw [← hq3, e2]; rfl
        rw [hq3]
        have d := win_law (l := l3) (q := q3) (by rw [e3])
        obtain ⟨w, hd⟩ := d.frame
        by_cases h4 : (winP l3 q3).e = 0
        · obtain ⟨d1, d2, d3⟩ := d.ok h4
          rw [then_ok h4]
          obtain ⟨l4, hl4⟩ : ∃ m, (winP l3 q3).l = m := ⟨_, rfl⟩
          have ds := d.suffix
          rw [hl4] at ds d3
          rw [hd] at d1 d2
          rw [hl4, hd]
          replace d1 : windowV w = 0 := d1
          replace d2 : j = true → w.kind = 1 := fun e => d2 (by rw [e3]; exact e)
          have s4 := ds.trans s3
          obtain ⟨q4, hq4⟩ : ∃ q4 : Qy, withWin q3 w = q4 := ⟨_, rfl⟩
          have e4 : q4 = ⟨g, x, s, j, y, w, false, 0⟩ := by rw [← hq4, e3]; rfl
          rw [hq4]
          have k := key_law l4 q4
          obtain ⟨z, hk⟩ := k.frame
          by_cases h5 : (keyP l4 q4).e = 0
          · have k1 := k.ok h5
            rw [then_ok h5]
            obtain ⟨l5, hl5⟩ : ∃ m, (keyP l4 q4).l = m := ⟨_, rfl⟩
            have ks := k.suffix
            rw [hl5] at ks k1
            rw [hl5, hk]
            have s5 := ks.trans s4
            obtain ⟨q5, hq5⟩ : ∃ q5 : Qy, withKey q4 z = q5 := ⟨_, rfl⟩
            have e5 : q5 = ⟨g, x, s, j, y, w, z, 0⟩ := by rw [← hq5, e4]; rfl
            rw [hq5]
            have t := late_law l5 q5
            obtain ⟨v, hv, ht⟩ := t.frame
            have e6 : (lateP l5 q5).q = ⟨g, x, s, j, y, w, z, v⟩ := by rw [ht, e5]; rfl
            refine ⟨t.suffix.trans s5, by rw [e6]; exact asm, by rw [e6]; exact csm, by rw [e6]; exact br, fun h6 => ?_⟩
            have t1 := t.ok h6
            rw [e6]
            refine ⟨checkQ_ok.2 ⟨decide_eq_true ⟨a1, a2, by show 1 ≤ v; omega, by show v ≤ 2; omega⟩, a3, c1, b1, d1, d2⟩, a4, c2, ?_⟩
            show l.length % 2 = ((lateP l5 q5).l.length + ((if g = 1 then 1 else x.length) + wtC y + 1)) % 2
            omega
          · rw [then_bad h5]
            have e5 : (keyP l4 q4).q = ⟨g, x, s, j, y, w, z, 0⟩ := by rw [hk, e4]; rfl
            exact ⟨k.suffix.trans s4, by rw [e5]; exact asm, by rw [e5]; exact csm, by rw [e5]; exact br, fun e => absurd e h5⟩
        · rw [then_bad h4]
          have e4 : (winP l3 q3).q = ⟨g, x, s, j, y, w, false, 0⟩ := by rw [hd, e3]; rfl
          exact ⟨d.suffix.trans s3, by rw [e4]; exact asm, by rw [e4]; exact csm, by rw [e4]; exact br, fun e => absurd e h4⟩
      · rw [then_bad h3]
        have e3 : (condP l2 q2).q = ⟨g, x, s, j, y, ⟨0, 0, 0⟩, false, 0⟩ := by rw [hc, e2]; rfl
        rw [hc] at csm
        exact ⟨c.suffix.trans s2, by rw [e3]; exact asm, by rw [e3]; exact csm, by rw [e3]; exact br, fun e => absurd e h3⟩
    · rw [then_bad h2]
      rw [hb] at br
      exact ⟨b.suffix.trans as, by rw [hb]; exact asm, by rw [hb]; exact nil_small, by rw [hb]; exact br, fun e => absurd e h2⟩
  · rw [then_bad h1]
    have asm := a.small rfl
    rw [ha] at asm
    exact ⟨a.suffix, by rw [ha]; exact asm, by rw [ha]; exact nil_small, by rw [ha]; exact Nat.zero_le _, fun e => absurd e h1⟩
theorem query_law {l : List Tok} (h : TsOk l) : (queryP l).l <:+ l ∧ ((queryP l).e = 0 → checkQ (queryP l).q = 0 ∧ (queryP l).l = [] ∧ Placed l (queryP l).q.arg ∧ Placed l (queryP l).q.cond ∧ l.length % 2 = wtQ (queryP l).q % 2) ∧ ((queryP l).e ≠ 0 → (queryP l).q = noQ) := by
  have a := clauses_law h
  unfold queryP
  split
  · rename_i h1
    exact ⟨a.suffix, fun e => absurd e h1, fun _ => rfl⟩
  split
  · rename_i h1 h2
    obtain ⟨b1, b2, b3, b4⟩ := a.ok (Classical.not_not.1 h1)
    refine ⟨a.suffix, fun _ => ⟨b1, h2, b2, b3, ?_⟩, fun e => absurd (Classical.not_not.1 h1) e⟩
    rw [h2] at b4
    simpa using b4
  · exact ⟨a.suffix, fun e => absurd (show (38 : Int) = 0 from e) (by decide), fun _ => rfl⟩
theorem query_small {l : List Tok} (h : TsOk l) : (queryP l).q.arg.length ≤ 60 ∧ (queryP l).q.cond.length ≤ 60 ∧ (queryP l).q.src.length ≤ 4 := by
  have a := clauses_law h
  unfold queryP
  split
  · exact ⟨Nat.zero_le _, Nat.zero_le _, Nat.zero_le _⟩
  split
  · exact ⟨a.arg.1, a.cond.1, a.src⟩
  · exact ⟨Nat.zero_le _, Nat.zero_le _, Nat.zero_le _⟩
theorem wt_alike {p q : Qy} (h : alikeQ p q = true) : wtQ p = wtQ q := by
  unfold alikeQ headsB restB at h
  simp only [Bool.and_eq_true, decide_eq_true_eq, coreQ, Prod.mk.injEq] at h
  obtain ⟨⟨h1, _⟩, _, h3, h4⟩ := h
  have l1 : p.arg.length = q.arg.length := by simpa using congrArg List.length (of_decide_eq_true h3)
  have l2 : p.cond.length = q.cond.length := by simpa using congrArg List.length (of_decide_eq_true h4)
  unfold wtQ wtC
  rw [h1, l1, l2]
end Go.Proofs.YtdinaedknlkicaaGreatDoor.Prs
/-
  Tokens of a text, for queries (layer 9), plainly: they are right; the text up to the last one has the others; too many of them. No program in this text.
-/
namespace Go.Proofs.YtdinaedknlkicaaGreatDoor.Prs
open Nodes Exprs

theorem lex_count : ∀ (f off cnt : Nat) (l : List UInt8), cnt ≤ 200 → (lexF f off cnt l).1.length + cnt ≤ 200 := by
  intro f
  induction f with
  | zero => intro off cnt l h; simpa [lexF] using h
  | succ f ih =>
    intro off cnt l h
    by_cases hd : l.drop (runN 1 l) = []
    · rw [lex_end hd]; simpa using h
    by_cases hc : cnt = 200
    · rw [lex_many hd hc]; simpa using h
    by_cases he : tokE (l.drop (runN 1 l)) = 0
    · rw [lex_one (f := f) (off := off) rfl hd hc he]
      have := ih (off + runN 1 l + tokN (l.drop (runN 1 l))) (cnt + 1) ((l.drop (runN 1 l)).drop (tokN (l.drop (runN 1 l)))) (by omega)
      simp only [List.length_cons]
      omega
    · rw [lex_bad hd hc he]; simpa using h
theorem covers_ok (l : List UInt8) : ∀ (ts : List Tok) (a : Nat), Covers l a ts → ∀ t ∈ ts, validT t = true ∧ 0 ≤ t.at_ ∧ t.at_ ≤ l.length := by
  intro ts
  induction ts with
  | nil => intro a _ t ht; cases ht
  | cons u ts ih =>
    intro a h t ht
    obtain ⟨p, h1, h2, h3, _, _, _, hv, hc⟩ := h
    rcases List.mem_cons.1 ht with rfl | h5
    · exact ⟨hv, by omega, by omega⟩
    · exact ih _ hc t h5
theorem all_ok_ts (s : List UInt8) : TsOk (allV s).1 := by
  by_cases he : (allV s).2.2 = 0
  · by_cases hs : s.length ≤ 400
    · obtain ⟨hc, _⟩ := all_covers he
      have h1 := covers_ok s _ _ hc
      refine ⟨?_, fun t ht => ⟨(h1 t ht).1, (h1 t ht).2.1, by have := (h1 t ht).2.2; omega⟩⟩
      rw [all_ok hs he]
      have := lex_count (s.length + 1) 0 0 s (by decide)
      omega
    · unfold allV at he
      rw [if_pos (by omega)] at he
      cases he
  · rw [all_none he]
    exact ⟨by decide, fun t ht => by cases ht⟩
theorem all_len {s : List UInt8} (he : (allV s).2.2 = 0) : s.length ≤ 400 := by
  rcases Nat.lt_or_ge 400 s.length with h | h
  · unfold allV at he
    rw [if_pos h] at he
    cases he
  · exact h

theorem all_short9 (l : List UInt8) : (allV l).1.length ≤ 200 ∧ ∀ t ∈ (allV l).1, t.text.length ≤ 281474976710656 := by
  obtain ⟨h1, h2⟩ := all_texts l
  refine ⟨(all_ok_ts l).1, ?_⟩
  by_cases h : l.length ≤ 400
  · exact fun t ht => by have := h1 t ht; omega
  · have : allV l = ([], 0, 4) := by unfold allV; rw [if_pos (by omega)]
    rw [this]
    exact fun t ht => by cases ht

/-! ### The text up to the last token -/
theorem lex_cut : ∀ (f off cnt : Nat) (l : List UInt8), l.length < f → (lexF f off cnt l).2.2 = 0 → ∀ (t : Tok) (p : List Tok), (lexF f off cnt l).1 = p ++ [t] →
    ∃ c, t.at_ = ((off + c : Nat) : Int) ∧ c ≤ l.length ∧ lexF f off cnt (l.take c) = (p, off + c, 0) := by
  intro f
  induction f with
  | zero => intro off cnt l h; omega
  | succ f ih =>
    intro off cnt l hl hok t p hp
    by_cases hd : l.drop (runN 1 l) = []
    · rw [lex_end hd] at hp; simp at hp
    have hlt := drop_run_lt hd
    by_cases hc : cnt = 200
    · rw [lex_many hd hc] at hok; simp at hok
    by_cases he : tokE (l.drop (runN 1 l)) = 0
    · have e := lex_one (f := f) (off := off) rfl hd hc he
      have hl2 := rest_lt hd he hl
      rw [e] at hok hp
      simp only at hok hp
      have hn := tokN_le (l.drop (runN 1 l))
      have hpos := tokN_pos he
      rw [List.length_drop] at hn
      have hrun : runN 1 (l.take (runN 1 l)) = runN 1 l := run_cut 1 l _ (Nat.le_refl _)
      cases p with
      | nil =>
        simp only [List.nil_append, List.cons.injEq] at hp
        obtain ⟨ht, hr⟩ := hp
        refine ⟨runN 1 l, by rw [← ht], by omega, ?_⟩
        rw [lex_end (List.drop_of_length_le (by rw [hrun, List.length_take]; omega)), List.length_take, Nat.min_eq_left (by omega)]
      | cons u p =>
        simp only [List.cons_append, List.cons.injEq] at hp
        obtain ⟨hu, hr⟩ := hp
        obtain ⟨c, q1, q2, q3⟩ := ih (off + runN 1 l + tokN (l.drop (runN 1 l))) (cnt + 1) _ hl2 hok t p hr
        rw [List.length_drop, List.length_drop] at q2
        refine ⟨runN 1 l + tokN (l.drop (runN 1 l)) + c, by rw [q1]; congr 1; omega, by omega, ?_⟩
        have hr2 : runN 1 (l.take (runN 1 l + tokN (l.drop (runN 1 l)) + c)) = runN 1 l := run_cut 1 l _ (by omega)
        have hd2 : (l.take (runN 1 l + tokN (l.drop (runN 1 l)) + c)).drop (runN 1 l) = (l.drop (runN 1 l)).take (tokN (l.drop (runN 1 l))) ++ ((l.drop (runN 1 l)).drop (tokN (l.drop (runN 1 l)))).take c := by
          rw [List.drop_take, show runN 1 l + tokN (l.drop (runN 1 l)) + c - runN 1 l = tokN (l.drop (runN 1 l)) + c by omega, List.take_add]
        obtain ⟨t1, t2, t3⟩ := tok_next he (((l.drop (runN 1 l)).drop (tokN (l.drop (runN 1 l)))).take c) (behind_take _ _)
        have e2 := lex_one (f := f) (off := off) (cnt := cnt) (l := l.take (runN 1 l + tokN (l.drop (runN 1 l)) + c)) (by rw [hr2]; exact hd2) (by
          intro h
          have h2 := congrArg List.length (List.append_eq_nil_iff.1 h).1
          rw [List.length_take, List.length_drop, List.length_nil] at h2
          omega) hc t3
        rw [e2, hr2, t2, t1]
        have hdl : ((l.drop (runN 1 l)).take (tokN (l.drop (runN 1 l))) ++ ((l.drop (runN 1 l)).drop (tokN (l.drop (runN 1 l)))).take c).drop (tokN (l.drop (runN 1 l))) = ((l.drop (runN 1 l)).drop (tokN (l.drop (runN 1 l)))).take c := List.drop_left' (by rw [List.length_take, List.length_drop]; omega)
        have htl : ((l.drop (runN 1 l)).take (tokN (l.drop (runN 1 l))) ++ ((l.drop (runN 1 l)).drop (tokN (l.drop (runN 1 l)))).take c).take (tokN (l.drop (runN 1 l))) = (l.drop (runN 1 l)).take (tokN (l.drop (runN 1 l))) := List.take_left' (by rw [List.length_take, List.length_drop]; omega)
        rw [hdl, htl, q3, hu]
        refine Prod.ext rfl (Prod.ext ?_ rfl)
        show off + runN 1 l + tokN (l.drop (runN 1 l)) + c = off + (runN 1 l + tokN (l.drop (runN 1 l)) + c)
        omega
    · rw [lex_bad hd hc he] at hok; exact absurd hok he
theorem all_cut {s : List UInt8} (he : (allV s).2.2 = 0) {t : Tok} {p : List Tok} (hp : (allV s).1 = p ++ [t]) : ∃ c : Nat, t.at_ = (c : Int) ∧ c ≤ s.length ∧ allV (s.take c) = (p, c, 0) := by
  have hs := all_len he
  have o := all_ok hs he
  rw [o] at hp he
  obtain ⟨c, h1, h2, h3⟩ := lex_cut (s.length + 1) 0 0 s (Nat.lt_succ_self _) he t p hp
  rw [Nat.zero_add] at h1 h3
  exact ⟨c, h1, h2, all_from (by rw [List.length_take]; omega) (by rw [List.length_take]; omega) h3⟩

/-! ### Too many tokens -/
theorem lex_too_many : ∀ (is : List It) (f off cnt : Nat), Fit is → cnt ≤ 200 → 200 < cnt + is.length → (str is).length < f → (lexF f off cnt (str is)).2.2 = 4 := by
  intro is
  induction is with
  | nil => intro f off cnt _ h1 h2; simp at h2; omega
  | cons i r ih =>
    intro f off cnt hF h1 h2 hf
    obtain ⟨g, k, x⟩ := i
    obtain ⟨hv, hend, hr⟩ := hF
    obtain ⟨f, rfl⟩ : ∃ f', f = f' + 1 := ⟨f - 1, by omega⟩
    have es : str ((g, k, x) :: r) = List.replicate g 32 ++ (x ++ str r) := rfl
    rw [es] at hf ⊢
    rw [lex_front f off cnt _ _ (blanks_all g)]
    obtain ⟨v1, v2, v3, v4, v5⟩ := valid_read_at hv (str r) (by
      rcases hend with h | h
      · exact .inl h
      · exact .inr (ends_head h hr))
    have hne : ¬ (x ++ str r).drop (runN 1 (x ++ str r)) = [] := by
      rw [v2, List.drop_zero]; intro h; exact v1 (List.append_eq_nil_iff.1 h).1
    by_cases hc : cnt = 200
    · rw [lex_many hne hc]
    · have e := lex_one (f := f) (off := off + (List.replicate g (32 : UInt8)).length) (cnt := cnt) (l := x ++ str r) (r := x ++ str r) (by rw [v2, List.drop_zero]) (by intro h; exact v1 (List.append_eq_nil_iff.1 h).1) hc v5
      rw [e]
      simp only
      rw [v4, List.drop_left' rfl]
      have hx : 0 < x.length := Nat.pos_of_ne_zero fun h => v1 (List.length_eq_zero_iff.1 h)
      refine ih f _ (cnt + 1) hr (by omega) (by simp only [List.length_cons] at h2; omega) ?_
      simp only [List.length_append, List.length_replicate] at hf
      omega
theorem all_too_many {is : List It} (h : Fit is) (hc : 200 < is.length) (hl : (str is).length ≤ 400) : (allV (str is)).2.2 = 4 := by
  have e := all_err hl
  have := lex_too_many is ((str is).length + 1) 0 0 h (by decide) (by omega) (Nat.lt_succ_self _)
  rw [e]; exact this
end Go.Proofs.YtdinaedknlkicaaGreatDoor.Prs
/-
  Tokens that are alike but for their places are read alike (layer 9), plainly. No program in this text.
-/
namespace Go.Proofs.YtdinaedknlkicaaGreatDoor.Prs
open Nodes Exprs

def syl (l : List S) : List Sy := l.map (·.1)
inductive Like : R → R → Prop
  | ok {x y : List Nd} {rest rest' : List S} (h : x.map Nodes.core = y.map Nodes.core) (ha : AtOk x) (hb : AtOk y) (hr : syl rest = syl rest') (h1 : AtL rest) (h2 : AtL rest') : Like (.ok x rest) (.ok y rest')
  | err {c : Int} {rest rest' : List S} (hr : syl rest = syl rest') : Like (.err c rest) (.err c rest')
theorem acc_like {l m : List Nd} (h : l.map Nodes.core = m.map Nodes.core) (ha : AtOk l) (hb : AtOk m) : accV l = accV m := by
  unfold accV
  cases h1 : run [] l with
  | some r => rw [run_alike l m [] r h hb h1]
  | none =>
    cases h2 : run [] m with
    | none => rfl
    | some r => rw [run_alike m l [] r h.symm ha h2] at h1; cases h1
theorem mk_like {k n p q : Int} {ps qs : List (List Nd)} {here here' rest rest' : List S} (hp : 0 ≤ p ∧ p ≤ 400) (hq : 0 ≤ q ∧ q ≤ 400) (h : ps.map (·.map Nodes.core) = qs.map (·.map Nodes.core)) (ha : ∀ x ∈ ps, AtOk x) (hb : ∀ x ∈ qs, AtOk x)
    (h1 : syl here = syl here') (h2 : syl rest = syl rest') (a1 : AtL rest) (a2 : AtL rest') : Like (mk k n p ps here rest) (mk k n q qs here' rest') := by
  have e := made_core k n p q ps qs h
  have hl : (madeL k n p ps).length = (madeL k n q qs).length := by simpa using congrArg List.length e
  have m1 := made_at (k := k) (n := n) hp ha
  have m2 := made_at (k := k) (n := n) hq hb
  have ea := acc_like e m1 m2
  unfold mk
  rw [hl, ea]
  split
  · exact .err h1
  split
  · exact .err h1
  · exact .ok e m1 m2 h2 a1 a2
theorem then_like {r r' : R} {f g : List Nd → List S → R} (h : Like r r') (hf : ∀ x y rest rest', x.map Nodes.core = y.map Nodes.core → AtOk x → AtOk y → syl rest = syl rest' → AtL rest → AtL rest' → Like (f x rest) (g y rest')) : Like (r.then f) (r'.then g) := by
  cases h with
  | ok h ha hb hr h1 h2 => exact hf _ _ _ _ h ha hb hr h1 h2
  | err hr => exact .err hr
theorem atl_tail {s : S} {l : List S} (h : AtL (s :: l)) : AtL l := fun u hu => h u (by simp [hu])
def AccLike : Option (List Nd) → Option (List Nd) → Prop
  | none, none => True
  | some x, some y => x.map Nodes.core = y.map Nodes.core ∧ AtOk x ∧ AtOk y
  | _, _ => False
theorem go_like (f : Nat) : ∀ (n : Nat) (acc acc' : Option (List Nd)) (l l' : List S), AccLike acc acc' → syl l = syl l' → AtL l → AtL l' → Like (go f n acc l) (go f n acc' l') := by
  induction f with
  | zero => intro n acc acc' l l' _ h _ _; exact .err h
  | succ f ih =>
    intro n acc acc' l l' hacc h a1 a2
    have hn : ∀ m l l', syl l = syl l' → AtL l → AtL l' → Like (go f m none l) (go f m none l') := fun m l l' h a1 a2 => ih m none none l l' trivial h a1 a2
    match acc, acc', hacc with
    | some x, some y, hacc =>
      show Like (backR n (go f (n + 1) none) (fun z rest => if n = 3 then .ok z rest else go f n (some z) rest) x l) (backR n (go f (n + 1) none) (fun z rest => if n = 3 then .ok z rest else go f n (some z) rest) y l')
      match l, l', h with
      | [], [], _ => exact .ok hacc.1 hacc.2.1 hacc.2.2 rfl a1 a2
      | (s, p) :: r, (s', p') :: r', h =>
        have hs : s = s' := by simp only [syl, List.map_cons, List.cons.injEq] at h; exact h.1
        have hr : syl r = syl r' := by simp only [syl, List.map_cons, List.cons.injEq] at h; exact h.2
        subst hs
        have hat := a1 _ (List.mem_cons_self ..)
        have hat2 := a2 _ (List.mem_cons_self ..)
        cases s with
        | bin k =>
          show Like (if line k = n then (go f (n + 1) none r).then fun y rest => (mk k 0 p [x, y] ((.bin k, p) :: r) rest).then _ else .ok x _) (if line k = n then (go f (n + 1) none r').then fun z rest => (mk k 0 p' [y, z] ((.bin k, p') :: r') rest).then _ else .ok y _)
          split
          · refine then_like (hn _ _ _ hr (atl_tail a1) (atl_tail a2)) fun u v rest rest' e1 e2 e3 e4 e5 e6 => ?_
            refine then_like (mk_like hat hat2 (by simp [hacc.1, e1]) (fun q hq => ?_) (fun q hq => ?_) h e4 e5 e6) fun u v rest rest' e1 e2 e3 e4 e5 e6 => ?_
            · simp at hq; rcases hq with rfl | rfl
              · exact hacc.2.1
              · exact e2
            · simp at hq; rcases hq with rfl | rfl
              · exact hacc.2.2
              · exact e3
            · split
              · exact .ok e1 e2 e3 e4 e5 e6
              · exact ih _ _ _ _ _ ⟨e1, e2, e3⟩ e4 e5 e6
          · exact .ok hacc.1 hacc.2.1 hacc.2.2 h a1 a2
        | num _ => exact .ok hacc.1 hacc.2.1 hacc.2.2 h a1 a2
        | leaf _ => exact .ok hacc.1 hacc.2.1 hacc.2.2 h a1 a2
        | left => exact .ok hacc.1 hacc.2.1 hacc.2.2 h a1 a2
        | right => exact .ok hacc.1 hacc.2.1 hacc.2.2 h a1 a2
        | no => exact .ok hacc.1 hacc.2.1 hacc.2.2 h a1 a2
        | other => exact .ok hacc.1 hacc.2.1 hacc.2.2 h a1 a2
      | [], _ :: _, h => simp [syl] at h
      | _ :: _, [], h => simp [syl] at h
    | none, none, _ =>
      unfold go
      split
      · match l, l', h with
        | [], [], _ => exact .err rfl
        | (s, p) :: r, (s', p') :: r', h =>
          have hs : s = s' := by simp only [syl, List.map_cons, List.cons.injEq] at h; exact h.1
          have hr : syl r = syl r' := by simp only [syl, List.map_cons, List.cons.injEq] at h; exact h.2
          subst hs
          have hat := a1 _ (List.mem_cons_self ..)
          have hat2 := a2 _ (List.mem_cons_self ..)
          cases s with
          | num v => exact mk_like hat hat2 rfl (fun q hq => by cases hq) (fun q hq => by cases hq) h hr (atl_tail a1) (atl_tail a2)
          | leaf k => exact mk_like hat hat2 rfl (fun q hq => by cases hq) (fun q hq => by cases hq) h hr (atl_tail a1) (atl_tail a2)
          | left =>
            refine then_like (hn 0 _ _ hr (atl_tail a1) (atl_tail a2)) fun u v rest rest' e1 e2 e3 e4 e5 e6 => ?_
            match rest, rest', e4 with
            | [], [], _ => exact .err rfl
            | (s, p) :: r, (s', p') :: r', e4 =>
              have hs : s = s' := by simp only [syl, List.map_cons, List.cons.injEq] at e4; exact e4.1
              have hr : syl r = syl r' := by simp only [syl, List.map_cons, List.cons.injEq] at e4; exact e4.2
              subst hs
              cases s with
              | right => exact .ok e1 e2 e3 hr (atl_tail e5) (atl_tail e6)
              | num _ => exact .err e4
              | leaf _ => exact .err e4
              | left => exact .err e4
              | bin _ => exact .err e4
              | no => exact .err e4
              | other => exact .err e4
            | [], _ :: _, h => simp [syl] at h
            | _ :: _, [], h => simp [syl] at h
          | right => exact .err h
          | bin _ => exact .err h
          | no => exact .err h
          | other => exact .err h
        | [], _ :: _, h => simp [syl] at h
        | _ :: _, [], h => simp [syl] at h
      split
      · match l, l', h with
        | [], [], h => exact hn 8 _ _ h a1 a2
        | (s, p) :: r, (s', p') :: r', h =>
          have hs : s = s' := by simp only [syl, List.map_cons, List.cons.injEq] at h; exact h.1
          have hr : syl r = syl r' := by simp only [syl, List.map_cons, List.cons.injEq] at h; exact h.2
          subst hs
          have hat := a1 _ (List.mem_cons_self ..)
          have hat2 := a2 _ (List.mem_cons_self ..)
          cases s with
          | bin k =>
            show Like (if k = 9 then _ else _) (if k = 9 then _ else _)
            split
            · refine then_like (hn 7 _ _ hr (atl_tail a1) (atl_tail a2)) fun u v rest rest' e1 e2 e3 e4 e5 e6 => ?_
              exact mk_like hat hat2 (by simp [e1]) (fun q hq => by simp at hq; subst hq; exact e2) (fun q hq => by simp at hq; subst hq; exact e3) h e4 e5 e6
            · exact hn 8 _ _ h a1 a2
          | num _ => exact hn 8 _ _ h a1 a2
          | leaf _ => exact hn 8 _ _ h a1 a2
          | left => exact hn 8 _ _ h a1 a2
          | right => exact hn 8 _ _ h a1 a2
          | no => exact hn 8 _ _ h a1 a2
          | other => exact hn 8 _ _ h a1 a2
        | [], _ :: _, h => simp [syl] at h
        | _ :: _, [], h => simp [syl] at h
      split
      · match l, l', h with
        | [], [], h => exact hn 3 _ _ h a1 a2
        | (s, p) :: r, (s', p') :: r', h =>
          have hs : s = s' := by simp only [syl, List.map_cons, List.cons.injEq] at h; exact h.1
          have hr : syl r = syl r' := by simp only [syl, List.map_cons, List.cons.injEq] at h; exact h.2
          subst hs
          have hat := a1 _ (List.mem_cons_self ..)
          have hat2 := a2 _ (List.mem_cons_self ..)
          cases s with
          | no =>
            refine then_like (hn 2 _ _ hr (atl_tail a1) (atl_tail a2)) fun u v rest rest' e1 e2 e3 e4 e5 e6 => ?_
            exact mk_like hat hat2 (by simp [e1]) (fun q hq => by simp at hq; subst hq; exact e2) (fun q hq => by simp at hq; subst hq; exact e3) h e4 e5 e6
          | num _ => exact hn 3 _ _ h a1 a2
          | leaf _ => exact hn 3 _ _ h a1 a2
          | left => exact hn 3 _ _ h a1 a2
          | right => exact hn 3 _ _ h a1 a2
          | bin _ => exact hn 3 _ _ h a1 a2
          | other => exact hn 3 _ _ h a1 a2
        | [], _ :: _, h => simp [syl] at h
        | _ :: _, [], h => simp [syl] at h
      · refine then_like (hn _ _ _ h a1 a2) fun u v rest rest' e1 e2 e3 e4 e5 e6 => ?_
        exact ih _ (some u) (some v) _ _ ⟨e1, e2, e3⟩ e4 e5 e6
    | none, some _, h => exact h.elim
    | some _, none, h => exact h.elim

/-! ### Tokens -/
def tc (t : Tok) : Int × List UInt8 := (t.kind, t.text)
structure LT (l m : List Tok) : Prop where
  like : l.map tc = m.map tc
  one : TsOk l
  two : TsOk m
theorem LT.len {l m : List Tok} (h : LT l m) : l.length = m.length := by simpa using congrArg List.length h.like
theorem LT.tail {l m : List Tok} (h : LT l m) : LT l.tail m.tail := ⟨by rw [List.map_tail, List.map_tail, h.like], TsOk.suffix h.one (tail_suffix _), TsOk.suffix h.two (tail_suffix _)⟩
theorem LT.drop {l m : List Tok} (h : LT l m) (k : Nat) : LT (l.drop k) (m.drop k) := ⟨by rw [List.map_drop, List.map_drop, h.like], TsOk.suffix h.one (List.drop_suffix _ _), TsOk.suffix h.two (List.drop_suffix _ _)⟩
theorem LT.hd {l m : List Tok} (h : LT l m) : hd l = hd m := by
  have e := h.like
  cases l with
  | nil =>
    cases m with
    | nil => rfl
    | cons u m => simp at e
  | cons t l =>
    cases m with
    | nil => simp at e
    | cons u m =>
      simp only [List.map_cons, List.cons.injEq, tc, Prod.mk.injEq] at e
      exact e.1.2
theorem LT.syl {l m : List Tok} (h : LT l m) : syl (syms l) = syl (syms m) := by
  have e : ∀ l : List Tok, Prs.syl (syms l) = (l.map tc).map fun c => symI c.1 c.2 := fun l => by
    unfold Prs.syl syms
    rw [List.map_map, List.map_map]; rfl
  rw [e, e, h.like]
theorem atl_of {l : List Tok} (h : TsOk l) : AtL (syms l) := by
  intro s hs
  obtain ⟨t, ht, rfl⟩ := List.mem_map.1 hs
  exact (h.2 t ht).2
theorem expr_like {l m : List Tok} (h : LT l m) : (exprP l).1 = (exprP m).1 ∧ (exprP l).2.1.map Nodes.core = (exprP m).2.1.map Nodes.core ∧ LT (exprP l).2.2 (exprP m).2.2 := by
  have hl := h.len
  have hg := go_like (20 * (syms l).length + 40) 0 none none (syms l) (syms m) trivial h.syl (atl_of h.one) (atl_of h.two)
  have e2 : go (20 * (syms l).length + 40) 0 none (syms m) = parse (syms m) := by
    unfold parse
    rw [show (syms l).length = (syms m).length by unfold syms; rw [List.length_map, List.length_map, hl]]
  rw [e2] at hg
  replace hg : Like (parse (syms l)) (parse (syms m)) := hg
  have hlen : ∀ {a b : List S}, Prs.syl a = Prs.syl b → a.length = b.length := fun e => by
    have := congrArg List.length e
    simpa [Prs.syl] using this
  unfold exprP
  generalize parse (syms l) = r at hg
  generalize parse (syms m) = r' at hg
  cases hg with
  | @ok x y rest rest' h1 _ _ hr _ _ =>
    refine ⟨rfl, h1, ?_⟩
    show LT (l.drop (l.length - rest.length)) (m.drop (m.length - rest'.length))
    rw [hl, hlen hr]; exact h.drop _
  | @err c rest rest' hr =>
    refine ⟨rfl, rfl, ?_⟩
    show LT (l.drop (l.length - rest.length)) (m.drop (m.length - rest'.length))
    rw [hl, hlen hr]; exact h.drop _

/-! ### Queries -/
structure QL (p q : Qy) : Prop where
  agg : p.agg = q.agg
  arg : p.arg.map Nodes.core = q.arg.map Nodes.core
  src : p.src = q.src
  join : p.join = q.join
  cond : p.cond.map Nodes.core = q.cond.map Nodes.core
  win : p.win = q.win
  key : p.key = q.key
  late : p.late = q.late
theorem QL.refl (q : Qy) : QL q q := ⟨rfl, rfl, rfl, rfl, rfl, rfl, rfl, rfl⟩
theorem QL.alike {p q : Qy} (h : QL p q) : alikeQ p q = true := by
  unfold alikeQ headsB restB Nodes.alikeB coreQ
  rw [h.agg, h.arg, h.src, h.join, h.cond, h.win, h.key, h.late]
  simp
structure OL (o o' : Out) : Prop where
  e : o.e = o'.e
  l : LT o.l o'.l
  q : QL o.q o'.q
theorem OL.then {o o' : Out} {f g : List Tok → Qy → Out} (h : OL o o') (hf : ∀ l l' q q', LT l l' → QL q q' → OL (f l q) (g l' q')) : OL (o.then f) (o'.then g) := by
  by_cases h0 : o.e = 0
  · rw [Prs.then_ok h0, Prs.then_ok (show o'.e = 0 by rw [← h.e]; exact h0)]
    exact hf _ _ _ _ h.l h.q
  · rw [Prs.then_bad h0, Prs.then_bad (show o'.e ≠ 0 by rw [← h.e]; exact h0)]
    exact h
theorem need_like (xs : List (List UInt8)) : ∀ {l l' : List Tok} {q q' : Qy}, LT l l' → QL q q' → OL (needP xs l q) (needP xs l' q') := by
  induction xs with
  | nil => exact fun h hq => ⟨rfl, h, hq⟩
  | cons x xs ih =>
    intro l l' q q' h hq
    have e : ∀ l q, needP (x :: xs) l q = if hd l = x then needP xs l.tail q else ⟨12, l, q⟩ := fun l q => by
      unfold needP
      show Out.mk (if hd l = x then expP xs l.tail else (12, l)).1 (if hd l = x then expP xs l.tail else (12, l)).2 q = _
      split <;> rfl
    rw [e, e, h.hd]
    split
    · exact ih h.tail hq
    · exact ⟨rfl, h, hq⟩
theorem arg_like {l l' : List Tok} {q q' : Qy} (h : LT l l') (hq : QL q q') : OL (argP l q) (argP l' q') := by
  unfold argP
  refine (need_like _ h hq).then fun l l' q q' h hq => ?_
  obtain ⟨e1, e2, e3⟩ := expr_like h
  refine OL.then ⟨e1, e3, ⟨hq.agg, e2, hq.src, hq.join, hq.cond, hq.win, hq.key, hq.late⟩⟩ fun l l' q q' h hq => need_like _ h hq
theorem agg_like {l l' : List Tok} {q q' : Qy} (h : LT l l') (hq : QL q q') : OL (aggP l q) (aggP l' q') := by
  unfold aggP
  refine (need_like _ h hq).then fun l l' q q' h hq => ?_
  have w : ∀ g, QL (withAgg q g) (withAgg q' g) := fun g => ⟨rfl, hq.arg, hq.src, hq.join, hq.cond, hq.win, hq.key, hq.late⟩
  rw [h.hd]
  split
  · exact need_like _ h.tail (w 1)
  split
  · exact arg_like h.tail (w 2)
  split
  · exact arg_like h.tail (w 3)
  split
  · exact arg_like h.tail (w 4)
  · exact ⟨rfl, h, hq⟩
theorem src_like {l l' : List Tok} {q q' : Qy} (h : LT l l') (hq : QL q q') : OL (srcP l q) (srcP l' q') := by
  unfold srcP
  rw [h.hd, hq.src]
  split
  · exact ⟨rfl, h, hq⟩
  split
  · exact ⟨rfl, h, hq⟩
  · exact ⟨rfl, h.tail, ⟨hq.agg, hq.arg, rfl, hq.join, hq.cond, hq.win, hq.key, hq.late⟩⟩
theorem unions_like (f : Nat) : ∀ {l l' : List Tok} {q q' : Qy}, LT l l' → QL q q' → OL (unionsP f l q) (unionsP f l' q') := by
  induction f with
  | zero => exact fun h hq => ⟨rfl, h, hq⟩
  | succ f ih =>
    intro l l' q q' h hq
    show OL (if hd l = tUnion then (srcP l.tail q).then (unionsP f) else ⟨0, l, q⟩) (if hd l' = tUnion then (srcP l'.tail q').then (unionsP f) else ⟨0, l', q'⟩)
    rw [h.hd]
    split
    · exact (src_like h.tail hq).then fun l l' q q' h hq => ih h hq
    · exact ⟨rfl, h, hq⟩
theorem from_like {l l' : List Tok} {q q' : Qy} (h : LT l l') (hq : QL q q') : OL (fromP l q) (fromP l' q') := by
  unfold fromP
  refine (need_like _ h hq).then fun l l' q q' h hq => ?_
  refine (src_like h hq).then fun l l' q q' h hq => ?_
  rw [h.hd, h.len]
  split
  · exact src_like h.tail ⟨hq.agg, hq.arg, hq.src, rfl, hq.cond, hq.win, hq.key, hq.late⟩
  · exact unions_like _ h hq
theorem cond_like {l l' : List Tok} {q q' : Qy} (h : LT l l') (hq : QL q q') : OL (condP l q) (condP l' q') := by
  unfold condP
  rw [h.hd]
  split
  · obtain ⟨e1, e2, e3⟩ := expr_like h.tail
    exact ⟨e1, e3, ⟨hq.agg, hq.arg, hq.src, hq.join, e2, hq.win, hq.key, hq.late⟩⟩
  · exact ⟨rfl, h, hq⟩
theorem num_like (ok : Int → Wn) {l l' : List Tok} (h : LT l l') : (numP ok l).1 = (numP ok l').1 ∧ (numP ok l).2.1 = (numP ok l').2.1 ∧ LT (numP ok l).2.2 (numP ok l').2.2 := by
  unfold numP
  rw [h.hd]
  split
  · exact ⟨rfl, rfl, h⟩
  split
  · exact ⟨rfl, rfl, h⟩
  · exact ⟨rfl, rfl, h.tail⟩
theorem QL.withWin {q q' : Qy} (h : QL q q') (w : Wn) : QL (withWin q w) (Prs.withWin q' w) := ⟨h.agg, h.arg, h.src, h.join, h.cond, rfl, h.key, h.late⟩
theorem lens_like {l l' : List Tok} {q q' : Qy} (h : LT l l') (hq : QL q q') : OL (lensP l q) (lensP l' q') := by
  unfold lensP
  obtain ⟨e1, e2, e3⟩ := num_like wTumble h
  rw [e1, e2, hq.win]
  split
  · exact ⟨rfl, e3, hq⟩
  split
  · exact ⟨rfl, e3, hq.withWin _⟩
  · refine (need_like _ e3 (hq.withWin _)).then fun l2 l2' q q' h hq => ?_
    obtain ⟨f1, f2, f3⟩ := num_like (wSlide (numP wTumble l').1) h
    rw [f1, hq.win]
    exact ⟨f2, f3, hq.withWin _⟩
theorem kind_like {l l' : List Tok} {q q' : Qy} (h : LT l l') (hq : QL q q') (k : Int) : OL (kindP l q k) (kindP l' q' k) := by
  unfold kindP
  rw [hq.join, hq.win]
  split
  · exact ⟨rfl, h, hq.withWin _⟩
  · exact lens_like h.tail (hq.withWin _)
theorem win_like {l l' : List Tok} {q q' : Qy} (h : LT l l') (hq : QL q q') : OL (winP l q) (winP l' q') := by
  unfold winP
  refine (need_like _ h hq).then fun l l' q q' h hq => ?_
  rw [h.hd]
  split
  · exact kind_like h hq 1
  split
  · exact kind_like h hq 2
  split
  · exact kind_like h hq 3
  · exact ⟨rfl, h, hq⟩
theorem key_like {l l' : List Tok} {q q' : Qy} (h : LT l l') (hq : QL q q') : OL (keyP l q) (keyP l' q') := by
  unfold keyP
  rw [h.hd]
  split
  · exact need_like _ h.tail ⟨hq.agg, hq.arg, hq.src, hq.join, hq.cond, hq.win, rfl, hq.late⟩
  · exact ⟨rfl, h, hq⟩
theorem late_like {l l' : List Tok} {q q' : Qy} (h : LT l l') (hq : QL q q') : OL (lateP l q) (lateP l' q') := by
  unfold lateP
  have w : ∀ x, QL (withLate q x) (withLate q' x) := fun x => ⟨hq.agg, hq.arg, hq.src, hq.join, hq.cond, hq.win, hq.key, rfl⟩
  rw [h.hd, h.tail.hd]
  split
  · split
    · exact ⟨rfl, h.tail.tail, w 1⟩
    · exact need_like _ h.tail (w 2)
  · exact ⟨rfl, h, w 1⟩
theorem clauses_like {l l' : List Tok} (h : LT l l') : OL (clausesP l) (clausesP l') := by
  unfold clausesP
  refine (agg_like h (QL.refl _)).then fun _ _ _ _ h hq => ?_
  refine (from_like h hq).then fun _ _ _ _ h hq => ?_
  refine (cond_like h hq).then fun _ _ _ _ h hq => ?_
  refine (win_like h hq).then fun _ _ _ _ h hq => ?_
  exact (key_like h hq).then fun _ _ _ _ h hq => late_like h hq
theorem query_like {l l' : List Tok} (h : LT l l') : (queryP l).e = (queryP l').e ∧ alikeQ (queryP l).q (queryP l').q = true := by
  have o := clauses_like h
  unfold queryP
  rw [o.e]
  split
  · exact ⟨rfl, alikeQ_refl _⟩
  · have hn : (clausesP l).l = [] ↔ (clausesP l').l = [] := by
      have := o.l.len
      rw [← List.length_eq_zero_iff, ← List.length_eq_zero_iff, this]
    by_cases h1 : (clausesP l).l = []
    · rw [if_pos h1, if_pos (hn.1 h1)]
      exact ⟨o.e, o.q.alike⟩
    · rw [if_neg h1, if_neg (fun e => h1 (hn.2 e))]
      exact ⟨rfl, alikeQ_refl _⟩
end Go.Proofs.YtdinaedknlkicaaGreatDoor.Prs
/-
  Queries written with brackets, in the words of the grammar (layer 9), plainly: their texts are read as they are. No program in this text.
-/
namespace Go.Proofs.YtdinaedknlkicaaGreatDoor.Prs
open Nodes Exprs Go.Lib

/-! ### Things of a text, a word in front of a bracket among them -/
def Fit2 : List It → Prop
  | [] => True
  | i :: r => validB i.2.1 i.2.2 = true ∧ (i.2.2 = [40] ∨ Exprs.Ends r ∨ (i.2.1 = 2 ∧ ∃ j r', r = j :: r' ∧ j.1 = 0 ∧ j.2.2 = [40])) ∧ Fit2 r
theorem fit2_of : ∀ {is : List It}, Fit is → Fit2 is
  | [], _ => trivial
  | _ :: _, h => ⟨h.1, h.2.1.imp id .inl, fit2_of h.2.2⟩
theorem ends2_head {r : List It} (h : Exprs.Ends r) : ∀ b ∈ (str r).head?, isKind 1 b = true ∨ b = 41 := by
  match r, h with
  | [], _ => intro b hb; simp [str] at hb
  | (0, k, x) :: r, h =>
    intro b hb
    have hx : x = [41] := by
      rcases h (0, k, x) (by simp) with h | h
      · exact absurd h (Nat.lt_irrefl 0)
      · exact h
    subst hx
    simp [str] at hb
    exact .inr hb.symm
  | (g + 1, k, x) :: r, _ =>
    intro b hb
    simp [str, List.replicate_succ] at hb
    subst hb
    exact .inl (by decide)
theorem word_letters {x : List UInt8} (h : wordB x = true) : x ≠ [] ∧ ∀ c ∈ x, isKind 3 c = true := by
  obtain ⟨h1, _, _, h4⟩ := word_is h
  refine ⟨fun e => by rw [e] at h1; simp at h1, fun c hc => ?_⟩
  unfold isKind
  rw [h4 c hc]; rfl
theorem word_read {x m : List UInt8} (h : wordB x = true) : x ≠ [] ∧ runN 1 (x ++ 40 :: m) = 0 ∧ tokK (x ++ 40 :: m) = 2 ∧ tokN (x ++ 40 :: m) = x.length ∧ tokE (x ++ 40 :: m) = 0 := by
  obtain ⟨h1, h2⟩ := word_letters h
  have hrun : runN 3 (x ++ 40 :: m) = x.length := run_stop 3 x (40 :: m) h2 (runN_no (by decide) m)
  cases x with
  | nil => exact absurd rfl h1
  | cons c l =>
    have hc := h2 c (by simp)
    have hc2 := kinds_apart (k := 2) hc (by decide)
    have hc1 := kinds_apart (k := 1) hc (by decide)
    rw [List.cons_append] at hrun ⊢
    obtain ⟨t1, t2, t3⟩ := tok_three hc2 hc (l ++ 40 :: m)
    refine ⟨by simp, runN_no hc1 _, t1, by rw [t2, hrun], ?_⟩
    rw [t3, hrun]
    have : (c :: (l ++ 40 :: m)).take (c :: l).length = c :: l := by
      rw [← List.cons_append, List.take_left' rfl]
    rw [this, if_pos h]
theorem read2 {i : It} {r : List It} (h : Fit2 (i :: r)) : i.2.2 ≠ [] ∧ runN 1 (i.2.2 ++ str r) = 0 ∧ tokK (i.2.2 ++ str r) = i.2.1 ∧ tokN (i.2.2 ++ str r) = i.2.2.length ∧ tokE (i.2.2 ++ str r) = 0 := by
  obtain ⟨hv, he, _⟩ := h
  rcases he with he | he | ⟨hk, j, r', rfl, hj, hx⟩
  · exact valid_read_at hv (str r) (.inl he)
  · exact valid_read_at hv (str r) (.inr (ends2_head he))
  · obtain ⟨g, k, x⟩ := j
    simp only at hj hx
    subst hj hx
    rw [hk] at hv ⊢
    show i.2.2 ≠ [] ∧ runN 1 (i.2.2 ++ 40 :: str r') = 0 ∧ tokK (i.2.2 ++ 40 :: str r') = 2 ∧ tokN (i.2.2 ++ 40 :: str r') = i.2.2.length ∧ tokE (i.2.2 ++ 40 :: str r') = 0
    exact word_read hv
theorem lex_str2 : ∀ (is : List It) (f off cnt : Nat), Fit2 is → cnt ≤ 200 → (str is).length < f → lexF f off cnt (str is) = (if cnt + is.length ≤ 200 then (placed off is, off + (str is).length, 0) else lexF f off cnt (str is)) ∧ (200 < cnt + is.length → (lexF f off cnt (str is)).2.2 = 4) := by
  intro is
  induction is with
  | nil =>
    intro f off cnt _ hc hf
    obtain ⟨g, rfl⟩ : ∃ g, f = g + 1 := ⟨f - 1, by omega⟩
    refine ⟨?_, fun h => by simp at h; omega⟩
    rw [if_pos (by simpa using hc)]
    exact lex_end (by simp [str])
  | cons i r ih =>
    intro f off cnt hF hc hf
    obtain ⟨v1, v2, v3, v4, v5⟩ := read2 hF
    obtain ⟨g, k, x⟩ := i
    obtain ⟨_, _, hr⟩ := hF
    simp only at v1 v2 v3 v4 v5
    rw [List.length_cons]
    have hs : str ((g, k, x) :: r) = List.replicate g 32 ++ (x ++ str r) := rfl
    rw [hs] at hf ⊢
    simp only [List.length_append, List.length_replicate] at hf
    obtain ⟨f2, rfl⟩ : ∃ f2, f = f2 + 1 := ⟨f - 1, by omega⟩
    rw [lex_front f2 off cnt _ _ (blanks_all g), List.length_replicate]
    have hd : (x ++ str r).drop (runN 1 (x ++ str r)) = x ++ str r := by rw [v2, List.drop_zero]
    have hne : ¬ x ++ str r = [] := fun h => v1 (List.append_eq_nil_iff.1 h).1
    by_cases h200 : cnt = 200
    · have e := lex_many (f := f2) (off := off + g) (l := x ++ str r) (by rw [hd]; exact hne) h200
      rw [e]
      exact ⟨by rw [if_neg (by omega)], fun _ => rfl⟩
    · have e := lex_one (f := f2) (off := off + g) hd hne (cnt := cnt) h200 v5
      have hpos : 0 < x.length := Nat.pos_of_ne_zero fun h => v1 (List.length_eq_zero_iff.1 h)
      obtain ⟨i1, i2⟩ := ih f2 (off + g + x.length) (cnt + 1) hr (by omega) (by omega)
      rw [e, v2, v3, v4, List.drop_left' rfl, List.take_left' rfl, Nat.add_zero]
      refine ⟨?_, fun h => i2 (by omega)⟩
      split
      · rename_i hle
        rw [if_pos (by omega)] at i1
        rw [i1]
        refine Prod.ext rfl (Prod.ext ?_ rfl)
        simp only [List.length_append, List.length_replicate]
        omega
      · rfl
theorem all_str2 {is : List It} (h : Fit2 is) (hl : (str is).length ≤ 400) : (is.length ≤ 200 → allV (str is) = (placed 0 is, (str is).length, 0)) ∧ (200 < is.length → (allV (str is)).2.2 = 4) := by
  obtain ⟨h1, h2⟩ := lex_str2 is ((str is).length + 1) 0 0 h (by decide) (Nat.lt_succ_self _)
  refine ⟨fun hc => ?_, fun hc => ?_⟩
  · rw [if_pos (by omega)] at h1
    unfold allV
    rw [if_neg (by omega), h1]
    simp
  · have e := all_err hl
    rw [e]; exact h2 (by omega)

/-! ### Things at a place of a text -/
/-- The tokens are these things, at some place. -/
def Pl (r : List It) (l : List Tok) : Prop := ∃ off, l = placed off r ∧ off + (str r).length ≤ 400
theorem Pl.step {i : It} {r : List It} {l : List Tok} (h : Pl (i :: r) l) : hd l = i.2.2 ∧ Pl r l.tail := by
  obtain ⟨off, rfl, hl⟩ := h
  refine ⟨rfl, off + i.1 + i.2.2.length, rfl, ?_⟩
  have e : (str (i :: r)).length = i.1 + (i.2.2.length + (str r).length) := by
    show (List.replicate i.1 32 ++ (i.2.2 ++ str r)).length = _
    simp only [List.length_append, List.length_replicate]
  omega
theorem Pl.nil {l : List Tok} (h : Pl [] l) : l = [] := by
  obtain ⟨off, rfl, _⟩ := h
  rfl
theorem Pl.one {i : It} {r : List It} {l : List Tok} (h : Pl (i :: r) l) (q : Qy) {x : List UInt8} (hx : i.2.2 = x) : ∃ l2, Pl r l2 ∧ needP [x] l q = ⟨0, l2, q⟩ := by
  obtain ⟨h1, h2⟩ := h.step
  refine ⟨l.tail, h2, ?_⟩
  unfold needP
  show Out.mk (if hd l = x then expP [] l.tail else (12, l)).1 (if hd l = x then expP [] l.tail else (12, l)).2 q = _
  rw [if_pos (by rw [h1, hx])]; rfl
theorem needP_one {i : It} {r : List It} {l : List Tok} (h : Pl (i :: r) l) {q : Qy} : (needP [i.2.2] l q).l = l.tail := by
  unfold needP
  show (if hd l = i.2.2 then expP [] l.tail else (12, l)).2 = _
  rw [if_pos h.step.1]; rfl
/-- What is no operator. -/
def Calm9 (r : List It) : Prop := ∀ i r', r = i :: r' → ∀ k, symI i.2.1 i.2.2 ≠ .bin k
theorem calm_stop {r : List It} (h : Calm9 r) (off : Nat) : Stops 0 (syms (placed off r)) := by
  intro k p m e
  cases r with
  | nil => cases e
  | cons i r =>
    have e2 : (symI i.2.1 i.2.2, ((off + i.1 : Nat) : Int)) :: syms (placed (off + i.1 + i.2.2.length) r) = (Sy.bin k, p) :: m := e
    injection e2 with e3 _
    injection e3 with e4 _
    exact absurd e4 (h i r rfl k)
theorem Pl.expr {e : Ex} (hw : Wf e) (ho : OkE e) (hs : Small e) {g : Nat} {r : List It} {l : List Tok} (h : Pl (its g e ++ r) l) (hc : Calm9 r) : ∃ y l2, exprP l = (0, y, l2) ∧ Pl r l2 ∧ (flat e).map Nodes.core = y.map Nodes.core := by
  obtain ⟨off, rfl, hl⟩ := h
  rw [str_append, List.length_append] at hl
  rw [placed_append]
  obtain ⟨b, hb⟩ : ∃ b, placed (off + (str (its g e)).length) r = b := ⟨_, rfl⟩
  have hts : (syms (placed off (its g e))).map (·.1) = toks e := by rw [placed_syms]; exact its_syms e hw hs g
  obtain ⟨y, hy, _, hr⟩ := (back e hw ho).1 _ hts (placed_at (its g e) off (by omega))
  have hp := parse_reads (hr (syms b) (by rw [← hb]; exact calm_stop hc _))
  refine ⟨y, b, ?_, ⟨_, hb.symm, by omega⟩, hy⟩
  rw [hb]
  unfold exprP
  have es : syms (placed off (its g e) ++ b) = syms (placed off (its g e)) ++ syms b := by unfold syms; exact List.map_append
  rw [es, hp]
  simp only [Prod.mk.injEq, true_and]
  have h1 : (placed off (its g e) ++ b).length - (syms b).length = (placed off (its g e)).length := by
    unfold syms; rw [List.length_append, List.length_map]; omega
  rw [h1, List.drop_left' rfl]

/-! ### The words of a query -/
def aggT (g : Int) : List UInt8 := if g = 1 then tCount else if g = 2 then tSum else if g = 3 then tMin else tMax
def nameT (x : Int) : List UInt8 := (nameAt x.toNat).data.toList
def kindT (k : Int) : List UInt8 := if k = 1 then tTumble else if k = 2 then tSlide else tSession
def betT (j : Bool) : List UInt8 := if j then tJoin else tUnion
def W (x : List UInt8) : It := (1, 2, x)
def restI (j : Bool) (l : List Int) : List It := l.flatMap fun y => [W (betT j), W (nameT y)]
def srcI (j : Bool) : List Int → List It
  | [] => []
  | x :: l => W (nameT x) :: restI j l
def lateI (q : Qy) : List It := if q.late = 2 then [W tLate, W tSide] else []
def keyI (q : Qy) : List It := if q.key then [W tBy, W tKey] else []
def winI (w : Wn) : List It := [W tWindow, W (kindT w.kind), (1, 1, itoa w.size)] ++ (if w.kind = 2 then [W tEvery, (1, 1, itoa w.every)] else [])
def condI (q : Qy) (f : Ex) : List It := if q.cond.length = 0 then [] else W tWhere :: its 1 f
def argI (q : Qy) (e : Ex) : List It := if q.agg = 1 then [(0, 3, tStar)] else its 0 e
def headI (q : Qy) (e : Ex) : List It := (0, 2, tSelect) :: W (aggT q.agg) :: (0, 3, tLeft) :: argI q e
def tailI (q : Qy) (f : Ex) : List It := (0, 3, tRight) :: W tFrom :: (srcI q.join q.src ++ (condI q f ++ (winI q.win ++ (keyI q ++ lateI q))))
def itemsQ (q : Qy) (e f : Ex) : List It := headI q e ++ tailI q f
/-- What the query needs: valid, and trees of its expressions. -/
structure Trees (q : Qy) (e f : Ex) : Prop where
  ok : checkQ q = 0
  arg : q.agg ≠ 1 → Wf e ∧ OkE e ∧ Small e ∧ (flat e).map Nodes.core = q.arg.map Nodes.core
  cond : q.cond.length ≠ 0 → Wf f ∧ OkE f ∧ Small f ∧ (flat f).map Nodes.core = q.cond.map Nodes.core
theorem trees_of {q : Qy} (h : checkQ q = 0) (ha : Wide q.arg) (hc : Wide q.cond) : ∃ e f, Trees q e f ∧ (q.agg ≠ 1 → textV q.arg = (textT e, 0)) ∧ (q.cond.length ≠ 0 → textV q.cond = (textT f, 0)) := by
  obtain ⟨h1, h2, h3, h4, h5, h6⟩ := checkQ_ok.1 h
  have he : ∃ e, q.agg ≠ 1 → (Wf e ∧ OkE e ∧ Small e ∧ (flat e).map Nodes.core = q.arg.map Nodes.core) ∧ textV q.arg = (textT e, 0) := by
    by_cases hg : q.agg = 1
    · exact ⟨.leaf 2 0, fun e => absurd hg e⟩
    · unfold argV at h2
      rw [if_neg hg] at h2
      obtain ⟨e, a, b, c, d, g⟩ := tree_text h2 ha
      exact ⟨e, fun _ => ⟨⟨a, b, c, d⟩, g⟩⟩
  have hf : ∃ f, q.cond.length ≠ 0 → (Wf f ∧ OkE f ∧ Small f ∧ (flat f).map Nodes.core = q.cond.map Nodes.core) ∧ textV q.cond = (textT f, 0) := by
    by_cases hg : q.cond.length = 0
    · exact ⟨.leaf 2 0, fun e => absurd hg e⟩
    · unfold condV at h3
      rw [if_neg hg] at h3
      obtain ⟨e, a, b, c, d, g⟩ := tree_text h3 hc
      exact ⟨e, fun _ => ⟨⟨a, b, c, d⟩, g⟩⟩
  obtain ⟨e, he⟩ := he
  obtain ⟨f, hf⟩ := hf
  exact ⟨e, f, ⟨h, fun h => (he h).1, fun h => (hf h).1⟩, fun h => (he h).2, fun h => (hf h).2⟩

/-! ### They are read -/
theorem name_letter {x : Int} (h : inS x = true) : ∃ k : Nat, k < 4 ∧ x = k ∧ nameT x = (nameAt k).data.toList := by
  have := of_decide_eq_true h
  exact ⟨x.toNat, by omega, by omega, rfl⟩
theorem Pl.src {x : Int} {r : List It} {l : List Tok} (h : Pl (W (nameT x) :: r) l) (q : Qy) (hx : inS x = true) (hn : x ∉ q.src) : ∃ l2, Pl r l2 ∧ srcP l q = ⟨0, l2, withSrc q (q.src ++ [x])⟩ := by
  obtain ⟨h1, h2⟩ := h.step
  obtain ⟨k, hk, rfl, hT⟩ := name_letter hx
  refine ⟨l.tail, h2, ?_⟩
  have hs : sourceV ⟨(hd l).toArray⟩ = ((k : Int), 0) := by
    rw [h1]
    show sourceV ⟨(nameT (k : Int)).toArray⟩ = _
    rw [hT]
    exact (source_name k hk).1
  unfold srcP
  rw [hs]
  simp only
  rw [if_neg (fun e => e rfl), if_neg hn]
theorem head_calm {r : List It} {x : List UInt8} (h : ∀ i r', r = i :: r' → i.2.2 ≠ x) (hx : x ≠ []) {l : List Tok} (hl : Pl r l) : hd l ≠ x := by
  cases r with
  | nil => rw [hl.nil]; exact fun e => hx e.symm
  | cons i r => rw [hl.step.1]; exact h i r rfl
theorem unions_read : ∀ (ys : List Int) (f : Nat) (r : List It) (l : List Tok) (q : Qy), ys.length ≤ f → Pl (restI false ys ++ r) l → (∀ y ∈ ys, inS y = true) → (q.src ++ ys).Nodup → (∀ i r', r = i :: r' → i.2.2 ≠ tUnion) →
    ∃ l2, Pl r l2 ∧ unionsP f l q = ⟨0, l2, withSrc q (q.src ++ ys)⟩ := by
  intro ys
  induction ys with
  | nil =>
    intro f r l q _ h _ _ hr
    refine ⟨l, h, ?_⟩
    rw [List.append_nil]
    have := head_calm hr (by decide) h
    cases f with
    | zero => rfl
    | succ f => exact if_neg this
  | cons y ys ih =>
    intro f r l q hf h hi hn hr
    obtain ⟨f, rfl⟩ : ∃ f', f = f' + 1 := ⟨f - 1, by simp only [List.length_cons] at hf; omega⟩
    have hp : Pl (W (betT false) :: (W (nameT y) :: (restI false ys ++ r))) l := h
    obtain ⟨h1, h2⟩ := hp.step
    have hny : y ∉ q.src := fun hm => by
      have := (List.nodup_append.1 hn).2.2 y hm y (by simp)
      exact this rfl
    obtain ⟨l2, h3, h4⟩ := h2.src q (hi y (by simp)) hny
    have hn2 : ((withSrc q (q.src ++ [y])).src ++ ys).Nodup := by
      show (q.src ++ [y] ++ ys).Nodup
      rw [List.append_assoc]; exact hn
    obtain ⟨l3, h5, h6⟩ := ih f r l2 (withSrc q (q.src ++ [y])) (by simp only [List.length_cons] at hf; omega) h3 (fun z hz => hi z (by simp [hz])) hn2 hr
    refine ⟨l3, h5, ?_⟩
    show (if hd l = tUnion then (srcP l.tail q).then (unionsP f) else ⟨0, l, q⟩) = _
    rw [if_pos (show hd l = tUnion from h1), h4, then_ok rfl, h6]
    show Out.mk 0 l3 (withSrc (withSrc q (q.src ++ [y])) (q.src ++ [y] ++ ys)) = _
    rw [List.append_assoc]; rfl
theorem restI_len (j : Bool) (ys : List Int) : (restI j ys).length = 2 * ys.length := by
  induction ys with
  | nil => rfl
  | cons y ys ih =>
    show (restI j ys).length + 1 + 1 = _
    rw [ih]; simp only [List.length_cons]; omega
theorem from_read {j : Bool} {src : List Int} (hs : sourcesV src j = 0) {r : List It} {l : List Tok} (h : Pl (W tFrom :: (srcI j src ++ r)) l) {q : Qy} (h0 : q.src = []) (hj0 : q.join = false) (hr : ∀ i r', r = i :: r' → i.2.2 ≠ tUnion ∧ i.2.2 ≠ tJoin) :
    ∃ l2, Pl r l2 ∧ fromP l q = ⟨0, l2, withJoin (withSrc q src) j⟩ := by
  obtain ⟨k0, k4, kj, ka, ko⟩ := sources_ok.1 hs
  have hin : ∀ y ∈ src, inS y = true := fun y hy => List.all_eq_true.1 ka y hy
  have hnd : src.Nodup := of_decide_eq_true ko
  obtain ⟨l1, h1, h2⟩ := h.one q (x := tFrom) rfl
  cases src with
  | nil => simp at k0
  | cons x ys =>
    have h1' : Pl (W (nameT x) :: (restI j ys ++ r)) l1 := h1
    obtain ⟨l2, h3, h4⟩ := h1'.src q (hin x (by simp)) (by rw [h0]; simp)
    rw [h0, List.nil_append] at h4
    unfold fromP
    rw [h2, then_ok rfl]
    simp only
    rw [h4, then_ok rfl]
    simp only
    cases j with
    | false =>
      have hjn : hd l2 ≠ tJoin := by
        cases ys with
        | nil => exact head_calm (fun i r' e => (hr i r' e).2) (by decide) h3
        | cons y ys =>
          have h3' : Pl (W (betT false) :: (W (nameT y) :: (restI false ys ++ r))) l2 := h3
          rw [h3'.step.1]; decide
      rw [if_neg hjn]
      have hfuel : ys.length ≤ l2.length := by
        obtain ⟨off, rfl, _⟩ := h3
        rw [placed_len, List.length_append]
        have := restI_len false ys
        omega
      obtain ⟨l3, h5, h6⟩ := unions_read ys l2.length r l2 (withSrc q [x]) hfuel h3 (fun y hy => hin y (by simp [hy])) hnd (fun i r' e => (hr i r' e).1)
      refine ⟨l3, h5, ?_⟩
      rw [h6, ← hj0]; rfl
    | true =>
      have hl2 := kj rfl
      match ys, hl2, h3, hnd, hin with
      | [y], _, h3, hnd, hin =>
        have h3' : Pl (W (betT true) :: (W (nameT y) :: r)) l2 := h3
        obtain ⟨h5, h6⟩ := h3'.step
        rw [if_pos (show hd l2 = tJoin from h5)]
        obtain ⟨l3, h7, h8⟩ := h6.src (withJoin (withSrc q [x]) true) (hin y (by simp)) (by
          show y ∉ [x]
          intro hm
          simp only [List.mem_singleton] at hm
          subst hm
          simp at hnd)
        exact ⟨l3, h7, h8⟩
theorem cond_read {q0 : Qy} {f : Ex} (hw : q0.cond.length ≠ 0 → Wf f ∧ OkE f ∧ Small f ∧ (flat f).map Nodes.core = q0.cond.map Nodes.core) {r : List It} {l : List Tok} (h : Pl (condI q0 f ++ r) l) {q : Qy} (h0 : q.cond = []) (hc : Calm9 r) (hr : ∀ i r', r = i :: r' → i.2.2 ≠ tWhere) :
    ∃ l2 y, Pl r l2 ∧ condP l q = ⟨0, l2, withCond q y⟩ ∧ q0.cond.map Nodes.core = y.map Nodes.core ∧ (q0.cond.length ≠ 0 → exprP l.tail = (0, y, l2)) := by
  unfold condI at h
  unfold condP
  by_cases hl : q0.cond.length = 0
  · rw [if_pos hl] at h
    rw [if_neg (head_calm hr (by decide) h)]
    refine ⟨l, [], h, ?_, by rw [List.length_eq_zero_iff.1 hl], fun h => absurd hl h⟩
    rw [← h0]; rfl
  · rw [if_neg hl] at h
    obtain ⟨w1, w2, w3, w4⟩ := hw hl
    have h' : Pl (W tWhere :: (its 1 f ++ r)) l := h
    obtain ⟨h1, h2⟩ := h'.step
    rw [if_pos (show hd l = tWhere from h1)]
    obtain ⟨y, l2, h3, h4, h5⟩ := h2.expr w1 w2 w3 hc
    rw [h3]
    exact ⟨l2, y, h4, rfl, by rw [← w4, h5], fun _ => rfl⟩
theorem num_read {ok : Int → Wn} {n : Int} (h0 : 0 ≤ n) (hn : n ≤ 1073741824) (hw : windowV (ok n) = 0) {r : List It} {l : List Tok} (h : Pl ((1, 1, itoa n) :: r) l) : ∃ l2, Pl r l2 ∧ numP ok l = (n, 0, l2) := by
  obtain ⟨h1, h2⟩ := h.step
  obtain ⟨e1, e2⟩ := itoa_read h0 (by omega : n ≤ 9223372036854775807)
  have e3 : rdE (itoa n) = 0 := by
    have : (rdE (itoa n) == 0) = true := e2
    simpa using this
  refine ⟨l.tail, h2, ?_⟩
  unfold numP
  rw [h1]
  show (if rdE (itoa n) ≠ 0 then _ else if windowV (ok (rdV (itoa n))) ≠ 0 then _ else (rdV (itoa n), (0 : Int), l.tail)) = _
  rw [e1, if_neg (by rw [e3]; exact fun e => e rfl), if_neg (by rw [hw]; exact fun e => e rfl)]
theorem win_read {w : Wn} (hv : windowV w = 0) {r : List It} {l : List Tok} (h : Pl (winI w ++ r) l) {q : Qy} (h0 : q.win = ⟨0, 0, 0⟩) (hj : q.join = true → w.kind = 1) : ∃ l2, Pl r l2 ∧ winP l q = ⟨0, l2, withWin q w⟩ := by
  have f := fits_of hv
  have hk : w.kind = 1 ∨ w.kind = 2 ∨ w.kind = 3 := by omega
  have h' : Pl (W tWindow :: (W (kindT w.kind) :: ((1, 1, itoa w.size) :: ((if w.kind = 2 then [W tEvery, (1, 1, itoa w.every)] else []) ++ r)))) l := h
  obtain ⟨l1, h1, h2⟩ := h'.one q (x := tWindow) rfl
  obtain ⟨h3, h4⟩ := h1.step
  replace h3 : hd l1 = kindT w.kind := h3
  have hk1 : winP l q = kindP l1 q w.kind := by
    unfold winP
    rw [h2, then_ok rfl]
    simp only
    rw [h3]
    rcases hk with e | e | e <;> rw [e] <;> rfl
  have hk2 : kindP l1 q w.kind = lensP l1.tail (withWin q ⟨w.kind, 0, 0⟩) := by
    unfold kindP
    rw [if_neg (by rintro ⟨a, b⟩; exact b (hj a)), h0]
  obtain ⟨l2, h5, h6⟩ := num_read (ok := wTumble) (by omega) f.2.1 (windowV_yes (fitsW_iff.2 ⟨f.1, f.2.1, .inr ⟨.inl rfl, rfl⟩⟩)) h4
  rw [hk1, hk2]
  unfold lensP
  rw [h6]
  simp only
  rw [if_neg (fun e => e rfl)]
  by_cases hk3 : w.kind = 2
  · rw [if_neg (fun e => e hk3)]
    rw [if_pos hk3] at h5
    have h5' : Pl (W tEvery :: ((1, 1, itoa w.every) :: r)) l2 := h5
    obtain ⟨l3, h7, h8⟩ := h5'.one (withWin (withWin q ⟨w.kind, 0, 0⟩) ⟨w.kind, w.size, 0⟩) (x := tEvery) rfl
    have hw2 : windowV (wSlide w.size w.every) = 0 := by
      have : wSlide w.size w.every = w := by
        obtain ⟨a, b, c⟩ := w
        simp only at hk3
        subst hk3; rfl
      rw [this]; exact hv
    obtain ⟨l4, h9, h10⟩ := num_read (ok := wSlide w.size) (by omega) (by omega) hw2 h7
    refine ⟨l4, h9, ?_⟩
    have e8 : needP [tEvery] l2 (withWin (withWin q ⟨w.kind, 0, 0⟩) ⟨(withWin q ⟨w.kind, 0, 0⟩).win.kind, w.size, (withWin q ⟨w.kind, 0, 0⟩).win.every⟩) = ⟨0, l3, withWin (withWin q ⟨w.kind, 0, 0⟩) ⟨w.kind, w.size, 0⟩⟩ := h8
    rw [e8, then_ok rfl]
    simp only
    rw [h10]; rfl
  · rw [if_pos (show (withWin q ⟨w.kind, 0, 0⟩).win.kind ≠ 2 from hk3)]
    rw [if_neg hk3, List.nil_append] at h5
    refine ⟨l2, h5, ?_⟩
    have he : w.every = 0 := by omega
    show Out.mk 0 l2 (withWin (withWin q ⟨w.kind, 0, 0⟩) ⟨w.kind, w.size, 0⟩) = _
    have : (⟨w.kind, w.size, 0⟩ : Wn) = w := by rw [← he]
    rw [this]; rfl
theorem key_read {q0 : Qy} {r : List It} {l : List Tok} (h : Pl (keyI q0 ++ r) l) {q : Qy} (h0 : q.key = false) (hr : ∀ i r', r = i :: r' → i.2.2 ≠ tBy) : ∃ l2, Pl r l2 ∧ keyP l q = ⟨0, l2, withKey q q0.key⟩ := by
  unfold keyI at h
  unfold keyP
  cases hk : q0.key with
  | false =>
    rw [hk] at h
    have h' : Pl r l := h
    rw [if_neg (head_calm hr (by decide) h')]
    exact ⟨l, h', by rw [← h0]; rfl⟩
  | true =>
    rw [hk] at h
    have h' : Pl (W tBy :: (W tKey :: r)) l := h
    obtain ⟨h1, h2⟩ := h'.step
    rw [if_pos (show hd l = tBy from h1)]
    obtain ⟨l2, h3, h4⟩ := h2.one (withKey q true) (x := tKey) rfl
    exact ⟨l2, h3, h4⟩
theorem late_read {q0 : Qy} (hl : q0.late = 1 ∨ q0.late = 2) {l : List Tok} (h : Pl (lateI q0) l) (q : Qy) : lateP l q = ⟨0, [], withLate q q0.late⟩ := by
  unfold lateI at h
  unfold lateP
  rcases hl with e | e
  · rw [if_neg (by omega)] at h
    rw [h.nil]
    rw [if_neg (by decide), e]
  · rw [if_pos e] at h
    obtain ⟨h1, h2⟩ := h.step
    rw [if_pos (show hd l = tLate from h1), if_neg (by rw [h2.step.1]; decide)]
    obtain ⟨l2, h3, h4⟩ := h2.one (withLate q 2) (x := tSide) rfl
    rw [h4, h3.nil, e]
theorem agg_read {q : Qy} {e : Ex} (ha : 1 ≤ q.agg ∧ q.agg ≤ 4) (hv : argV q.agg q.arg = 0) (hw : q.agg ≠ 1 → Wf e ∧ OkE e ∧ Small e ∧ (flat e).map Nodes.core = q.arg.map Nodes.core) {r : List It} {l : List Tok} (h : Pl (headI q e ++ (0, 3, tRight) :: r) l) :
    ∃ l2 y, Pl r l2 ∧ aggP l noQ = ⟨0, l2, withArg (withAgg noQ q.agg) y⟩ ∧ q.arg.map Nodes.core = y.map Nodes.core ∧ (q.agg ≠ 1 → ∃ l4, exprP l.tail.tail.tail = (0, y, l4)) := by
  have h0 := h
  have h' : Pl ((0, 2, tSelect) :: (W (aggT q.agg) :: ((0, 3, tLeft) :: (argI q e ++ (0, 3, tRight) :: r)))) l := h
  obtain ⟨l1, h1, h2⟩ := h'.one noQ (x := tSelect) rfl
  obtain ⟨h3, h4⟩ := h1.step
  replace h3 : hd l1 = aggT q.agg := h3
  unfold aggP
  rw [h2, then_ok rfl]
  simp only
  rw [h3]
  by_cases hg : q.agg = 1
  · have e1 : argI q e = [(0, 3, tStar)] := if_pos hg
    rw [e1] at h4
    rw [hg, show aggT 1 = tCount from rfl, if_pos rfl]
    have h4' : Pl ((0, 3, tLeft) :: ((0, 3, tStar) :: ((0, 3, tRight) :: r))) l1.tail := h4
    obtain ⟨a1, a2⟩ := h4'.step
    obtain ⟨b1, b2⟩ := a2.step
    obtain ⟨c1, c2⟩ := b2.step
    refine ⟨l1.tail.tail.tail.tail, [], c2, ?_, ?_, fun h => absurd rfl h⟩
    · unfold needP
      have e2 : expP [tLeft, tStar, tRight] l1.tail = (0, l1.tail.tail.tail.tail) := by
        show (if hd l1.tail = tLeft then (if hd l1.tail.tail = tStar then (if hd l1.tail.tail.tail = tRight then _ else _) else _) else _) = _
        rw [if_pos a1, if_pos b1, if_pos c1]; rfl
      rw [e2]; rfl
    · unfold argV at hv
      rw [if_pos hg] at hv
      split at hv
      · rename_i h0; rw [List.length_eq_zero_iff.1 h0]
      · cases hv
  · obtain ⟨w1, w2, w3, w4⟩ := hw hg
    have e1 : argI q e = its 0 e := if_neg hg
    rw [e1] at h4
    obtain ⟨l3, h5, h6⟩ := h4.one (withAgg noQ q.agg) (x := tLeft) rfl
    have hcalm : Calm9 ((0, 3, tRight) :: r) := fun i r' e k => by
      injection e with e _
      subst e
      show symI 3 [41] ≠ _
      rw [right_sym]; exact fun e => by cases e
    obtain ⟨y, l4, h7, h8, h9⟩ := h5.expr w1 w2 w3 hcalm
    obtain ⟨l5, h10, h11⟩ := h8.one (withArg (withAgg noQ q.agg) y) (x := tRight) rfl
    have harg : argP l1.tail (withAgg noQ q.agg) = ⟨0, l5, withArg (withAgg noQ q.agg) y⟩ := by
      unfold argP
      rw [h6, then_ok rfl]
      simp only
      rw [h7, then_ok rfl]
      exact h11
    have hsw : (if aggT q.agg = tCount then needP [tLeft, tStar, tRight] l1.tail (withAgg noQ 1) else if aggT q.agg = tSum then argP l1.tail (withAgg noQ 2) else if aggT q.agg = tMin then argP l1.tail (withAgg noQ 3) else if aggT q.agg = tMax then argP l1.tail (withAgg noQ 4) else ⟨12, l1, noQ⟩) = argP l1.tail (withAgg noQ q.agg) := by
      have : q.agg = 2 ∨ q.agg = 3 ∨ q.agg = 4 := by omega
      rcases this with e | e | e <;> rw [e] <;> rfl
    rw [hsw, harg]
    have ht : l.tail.tail.tail = l3 := by
      have e2 : l1 = l.tail := by
        have := congrArg Out.l h2
        rw [needP_one h'] at this
        exact this.symm
      have e3 : l3 = l1.tail.tail := by
        have := congrArg Out.l h6
        rw [needP_one h4] at this
        exact this.symm
      rw [e3, e2]
    exact ⟨l5, y, h10, rfl, by rw [← w4, h9], fun _ => ⟨l4, by rw [ht]; exact h7⟩⟩
end Go.Proofs.YtdinaedknlkicaaGreatDoor.Prs
/-
  What layer 9's statements say, plainly: texts of queries and what is parsed of them, of them with a token less, of any text. No program in this text.
-/
namespace Go.Proofs.YtdinaedknlkicaaGreatDoor.Prs
open Nodes Exprs Go.Lib

/-! ### The whole query is read -/
theorem win_head (w : Wn) (r : List It) : ∃ r', winI w ++ r = W tWindow :: r' := ⟨_, rfl⟩
theorem keylate_head {q : Qy} : ∀ i r', keyI q ++ lateI q = i :: r' → i = W tBy ∨ i = W tLate := by
  intro i r' h
  unfold keyI lateI at h
  cases hk : q.key with
  | true =>
    rw [hk] at h
    have h2 : W tBy :: (W tKey :: (if q.late = 2 then [W tLate, W tSide] else [])) = i :: r' := h
    injection h2 with h3 _
    exact .inl h3.symm
  | false =>
    rw [hk] at h
    replace h : (if q.late = 2 then [W tLate, W tSide] else []) = i :: r' := h
    split at h
    · injection h with h3 _
      exact .inr h3.symm
    · cases h
theorem late_head {q : Qy} : ∀ i r', lateI q = i :: r' → i = W tLate := by
  intro i r' h
  unfold lateI at h
  split at h
  · injection h with h3 _
    exact h3.symm
  · cases h
theorem cond_head {q : Qy} {f : Ex} {r : List It} (hr : ∃ r', r = W tWindow :: r') : ∀ i r', condI q f ++ r = i :: r' → i = W tWhere ∨ i = W tWindow := by
  intro i r' h
  unfold condI at h
  obtain ⟨r2, rfl⟩ := hr
  split at h
  · injection h with h3 _
    exact .inr h3.symm
  · injection h with h3 _
    exact .inl h3.symm
theorem window_calm {r : List It} (hr : ∃ r', r = W tWindow :: r') : Calm9 r := by
  obtain ⟨r2, rfl⟩ := hr
  intro i r' e k
  injection e with e _
  subst e
  show symI 2 tWindow ≠ _
  rw [show symI 2 tWindow = .other from rfl]
  exact fun e => by cases e
theorem query_read {q : Qy} {e f : Ex} (h : Trees q e f) {l : List Tok} (hok : TsOk l) (hl : Pl (itemsQ q e f) l) : (queryP l).e = 0 ∧ (queryP l).l = [] ∧ QL q (queryP l).q ∧
    (q.agg ≠ 1 → ∃ l4, exprP l.tail.tail.tail = (0, (queryP l).q.arg, l4)) ∧ (q.cond.length ≠ 0 → ∃ l6, exprP (l.drop ((headI q e).length + 2 + (srcI q.join q.src).length + 1)) = (0, (queryP l).q.cond, l6)) := by
  obtain ⟨c1, c2, c3, c4, c5, c6⟩ := checkQ_ok.1 h.ok
  have ch := of_decide_eq_true c1
  have hl1 : Pl (headI q e ++ (0, 3, tRight) :: (W tFrom :: (srcI q.join q.src ++ (condI q f ++ (winI q.win ++ (keyI q ++ lateI q)))))) l := hl
  obtain ⟨l1, y1, p1, a1, b1, g1⟩ := agg_read ⟨ch.1, ch.2.1⟩ c2 h.arg hl1
  obtain ⟨l2, p2, a2⟩ := from_read c4 p1 (q := withArg (withAgg noQ q.agg) y1) rfl rfl (fun i r' e => by
    rcases cond_head (win_head _ _) i r' e with rfl | rfl
    · exact ⟨by decide, by decide⟩
    · exact ⟨by decide, by decide⟩)
  obtain ⟨l3, y3, p3, a3, b3, g3⟩ := cond_read h.cond p2 (q := withJoin (withSrc (withArg (withAgg noQ q.agg) y1) q.src) q.join) rfl (window_calm (win_head _ _)) (fun i r' e => by
    obtain ⟨r2, e2⟩ := win_head q.win (keyI q ++ lateI q)
    rw [e2] at e
    injection e with e _
    subst e
    decide)
  obtain ⟨l4, p4, a4⟩ := win_read c5 p3 (q := withCond (withJoin (withSrc (withArg (withAgg noQ q.agg) y1) q.src) q.join) y3) rfl c6
  obtain ⟨l5, p5, a5⟩ := key_read p4 (q := withWin (withCond (withJoin (withSrc (withArg (withAgg noQ q.agg) y1) q.src) q.join) y3) q.win) rfl (fun i r' e => by
    have := late_head i r' e
    subst this
    decide)
  have a6 := late_read (q0 := q) (by omega) p5 (withKey (withWin (withCond (withJoin (withSrc (withArg (withAgg noQ q.agg) y1) q.src) q.join) y3) q.win) q.key)
  have hall : clausesP l = ⟨0, [], ⟨q.agg, y1, q.src, q.join, y3, q.win, q.key, q.late⟩⟩ := by
    unfold clausesP
    rw [a1, then_ok rfl]
    simp only
    rw [a2, then_ok rfl]
    simp only
    rw [a3, then_ok rfl]
    simp only
    rw [a4, then_ok rfl]
    simp only
    rw [a5, then_ok rfl, a6]
    rfl
  have hq : queryP l = ⟨0, [], ⟨q.agg, y1, q.src, q.join, y3, q.win, q.key, q.late⟩⟩ := by
    unfold queryP
    rw [hall, if_neg (fun e => e rfl), if_pos rfl]
  rw [hq]
  refine ⟨rfl, rfl, ⟨rfl, b1, rfl, rfl, b3, rfl, rfl, rfl⟩, g1, fun hc => ?_⟩
  have s1 : l1 <:+ l := by
    have := (agg_law (q := noQ) (l := l) hok).suffix
    rw [a1] at this; exact this
  have s2 : l2 <:+ l1 := by
    have := (from_law l1 (withArg (withAgg noQ q.agg) y1)).suffix
    rw [a2] at this; exact this
  have s3 := s2.trans s1
  have n0 : l.length = (itemsQ q e f).length := by obtain ⟨off, rfl, _⟩ := hl; exact placed_len _ _
  have n2 : l2.length = (condI q f ++ (winI q.win ++ (keyI q ++ lateI q))).length := by obtain ⟨off, rfl, _⟩ := p2; exact placed_len _ _
  have n3 : (itemsQ q e f).length = (headI q e).length + (1 + (1 + ((srcI q.join q.src).length + (condI q f ++ (winI q.win ++ (keyI q ++ lateI q))).length))) := by
    unfold itemsQ tailI
    simp only [List.length_append, List.length_cons]
    omega
  have e2 : l2 = l.drop ((headI q e).length + 2 + (srcI q.join q.src).length) := by
    have := List.suffix_iff_eq_drop.1 s3
    rw [this]
    congr 1
    omega
  refine ⟨l3, ?_⟩
  rw [← List.drop_drop, ← e2, List.drop_one]
  exact g3 hc

/-! ### The one token "where" -/
def NoW (is : List It) : Prop := ∀ i ∈ is, (i.2.1, i.2.2) ≠ ((2 : Int), tWhere)
theorem now_append {a b : List It} (ha : NoW a) (hb : NoW b) : NoW (a ++ b) := fun i hi => by
  rcases List.mem_append.1 hi with h | h
  · exact ha i h
  · exact hb i h
theorem now_cons {i : It} {b : List It} (ha : (i.2.1, i.2.2) ≠ ((2 : Int), tWhere)) (hb : NoW b) : NoW (i :: b) := fun j hj => by
  rcases List.mem_cons.1 hj with h | h
  · rw [h]; exact ha
  · exact hb j h
theorem now_nil : NoW [] := fun i hi => by cases hi
theorem other_toks (e : Ex) : Sy.other ∉ toks e := by
  have hp : ∀ e, Sy.other ∉ toks e → Sy.other ∉ partS e := fun e h => by
    unfold partS
    split
    · exact h
    · simp [h]
  induction e with
  | leaf k n =>
    show Sy.other ∉ [leafS k n]
    unfold leafS
    split <;> simp
  | one k e ih =>
    rw [toks_one]
    have := hp e ih
    split <;> simp [this]
  | two k e f ihe ihf =>
    rw [toks_two]
    have h1 := hp e ihe
    have h2 := hp f ihf
    simp [h1, h2]
theorem now_its {e : Ex} (hw : Wf e) (hs : Small e) (g : Nat) : NoW (its g e) := fun i hi h => by
  have h1 := its_syms e hw hs g
  have h2 : symI i.2.1 i.2.2 ∈ symsI (its g e) := List.mem_map.2 ⟨i, hi, rfl⟩
  rw [h1] at h2
  simp only [Prod.mk.injEq] at h
  rw [h.1, h.2] at h2
  exact other_toks e h2
theorem now_names {x : Int} (h : inS x = true) : ((W (nameT x)).2.1, (W (nameT x)).2.2) ≠ ((2 : Int), tWhere) := by
  obtain ⟨k, hk, rfl, hT⟩ := name_letter h
  show ((2 : Int), nameT (k : Int)) ≠ _
  rw [hT]
  match k, hk with
  | 0, _ => decide
  | 1, _ => decide
  | 2, _ => decide
  | 3, _ => decide
theorem now_rest (j : Bool) (ys : List Int) (h : ∀ y ∈ ys, inS y = true) : NoW (restI j ys) := by
  induction ys with
  | nil => exact now_nil
  | cons y ys ih =>
    refine now_cons ?_ (now_cons (now_names (h y (by simp))) (ih (fun z hz => h z (by simp [hz]))))
    cases j <;> decide
theorem now_src (j : Bool) (ys : List Int) (h : ∀ y ∈ ys, inS y = true) : NoW (srcI j ys) := by
  cases ys with
  | nil => exact now_nil
  | cons y ys => exact now_cons (now_names (h y (by simp))) (now_rest j ys (fun z hz => h z (by simp [hz])))
theorem num_kind (x : List UInt8) : ((1 : Int), x) ≠ ((2 : Int), tWhere) := fun h => by
  simp only [Prod.mk.injEq] at h
  omega
theorem now_win (w : Wn) : NoW (winI w) := by
  unfold winI
  refine now_append (now_cons (by decide) (now_cons ?_ (now_cons (num_kind _) now_nil))) ?_
  · show ((2 : Int), kindT w.kind) ≠ _
    unfold kindT
    split
    · decide
    · split <;> decide
  · split
    · exact now_cons (by decide) (now_cons (num_kind _) now_nil)
    · exact now_nil
theorem now_end (q : Qy) : NoW (keyI q ++ lateI q) := by
  refine now_append ?_ ?_
  · unfold keyI
    split
    · exact now_cons (by decide) (now_cons (by decide) now_nil)
    · exact now_nil
  · unfold lateI
    split
    · exact now_cons (by decide) (now_cons (by decide) now_nil)
    · exact now_nil
theorem now_head {q : Qy} {e : Ex} (hg : q.agg ≠ 1 → Wf e ∧ OkE e ∧ Small e ∧ (flat e).map Nodes.core = q.arg.map Nodes.core) : NoW (headI q e) := by
  unfold headI argI
  refine now_cons (by decide) (now_cons ?_ (now_cons (by decide) ?_))
  · show ((2 : Int), aggT q.agg) ≠ _
    unfold aggT
    split
    · decide
    · split
      · decide
      · split <;> decide
  · split
    · exact now_cons (by decide) now_nil
    · rename_i h
      obtain ⟨a, _, b, _⟩ := hg h
      exact now_its a b 0
/-- A token "where" is the one of the condition. -/
theorem where_at {q : Qy} {e f : Ex} (h : Trees q e f) {l : List Tok} (hl : Pl (itemsQ q e f) l) {i : Nat} (hi : i < l.length) (hk : l[i].kind = 2) (hx : l[i].text = tWhere) : q.cond.length ≠ 0 ∧ i = (headI q e).length + 2 + (srcI q.join q.src).length := by
  obtain ⟨c1, c2, c3, c4, c5, c6⟩ := checkQ_ok.1 h.ok
  have hin : ∀ y ∈ q.src, inS y = true := fun y hy => List.all_eq_true.1 (sources_ok.1 c4).2.2.2.1 y hy
  have hm : ∀ (is : List It) (off : Nat), (placed off is).map (fun t => (t.kind, t.text)) = is.map fun j => (j.2.1, j.2.2) := by
    intro is
    induction is with
    | nil => intro off; rfl
    | cons j r ih => intro off; show _ :: (placed _ r).map _ = _ :: _; rw [ih]
  obtain ⟨off, rfl, _⟩ := hl
  have hn := placed_len (itemsQ q e f) off
  have hi2 : i < (itemsQ q e f).length := by omega
  have hit : (((itemsQ q e f)[i]).2.1, ((itemsQ q e f)[i]).2.2) = ((2 : Int), tWhere) := by
    have h1 : ((placed off (itemsQ q e f)).map (fun t => (t.kind, t.text)))[i]? = ((itemsQ q e f).map fun j => (j.2.1, j.2.2))[i]? := by rw [hm]
    rw [List.getElem?_map, List.getElem?_map, List.getElem?_eq_getElem hi, List.getElem?_eq_getElem hi2] at h1
    simp only [Option.map_some, Option.some.injEq] at h1
    rw [← h1, hk, hx]
  have hA : NoW (headI q e ++ ((0, 3, tRight) :: W tFrom :: srcI q.join q.src)) := now_append (now_head h.arg) (now_cons (by decide) (now_cons (by decide) (now_src _ _ hin)))
  have hlen : (headI q e ++ ((0, 3, tRight) :: W tFrom :: srcI q.join q.src)).length = (headI q e).length + 2 + (srcI q.join q.src).length := by
    simp only [List.length_append, List.length_cons]; omega
  have hitems : itemsQ q e f = (headI q e ++ ((0, 3, tRight) :: W tFrom :: srcI q.join q.src)) ++ (condI q f ++ (winI q.win ++ (keyI q ++ lateI q))) := by
    unfold itemsQ tailI
    simp only [List.append_assoc, List.cons_append]
  by_cases hc : q.cond.length = 0
  · exfalso
    have hcond : condI q f = [] := if_pos hc
    have hN : NoW (itemsQ q e f) := by
      rw [hitems, hcond]
      exact now_append hA (now_append now_nil (now_append (now_win _) (now_end q)))
    exact hN _ (List.getElem_mem hi2) hit
  · refine ⟨hc, ?_⟩
    have hcond : condI q f = W tWhere :: its 1 f := if_neg hc
    obtain ⟨w1, _, w3, _⟩ := h.cond hc
    have hC : NoW (its 1 f ++ (winI q.win ++ (keyI q ++ lateI q))) := now_append (now_its w1 w3 1) (now_append (now_win _) (now_end q))
    rw [← hlen]
    obtain ⟨A, hAe⟩ : ∃ A, headI q e ++ ((0, 3, tRight) :: W tFrom :: srcI q.join q.src) = A := ⟨_, rfl⟩
    have hitems2 : itemsQ q e f = A ++ (W tWhere :: (its 1 f ++ (winI q.win ++ (keyI q ++ lateI q)))) := by rw [hitems, hcond, hAe]; rfl
    rw [hAe] at hA ⊢
    have hget : ∃ hi3 : i < (A ++ (W tWhere :: (its 1 f ++ (winI q.win ++ (keyI q ++ lateI q))))).length, (A ++ (W tWhere :: (its 1 f ++ (winI q.win ++ (keyI q ++ lateI q)))))[i] = (itemsQ q e f)[i] := ⟨by rw [← hitems2]; exact hi2, by congr 1; exact hitems2.symm⟩
    obtain ⟨hi3, hg⟩ := hget
    rw [← hg] at hit
    rcases Nat.lt_trichotomy i A.length with h1 | h1 | h1
    · rw [List.getElem_append_left h1] at hit
      exact absurd hit (hA _ (List.getElem_mem h1))
    · exact h1
    · exfalso
      rw [List.getElem_append_right (by omega)] at hit
      obtain ⟨d, hd⟩ : ∃ d, i - A.length = d + 1 := ⟨i - A.length - 1, by omega⟩
      simp only [hd, List.getElem_cons_succ] at hit
      exact hC _ (List.getElem_mem _) hit
end Go.Proofs.YtdinaedknlkicaaGreatDoor.Prs
/-
  What layer 9's statements say, plainly: the text that is written of a query, and all that is claimed of what is parsed of it, and of any text. No program in this text.
-/
namespace Go.Proofs.YtdinaedknlkicaaGreatDoor.Prs
open Nodes Exprs Go.Lib

/-! ### The text, as it is written -/
def argT (q : Qy) : List UInt8 := if q.agg = 1 then [42] else (textV q.arg).1
def sepT (j : Bool) : List UInt8 := if j then [32, 106, 111, 105, 110, 32] else [32, 117, 110, 105, 111, 110, 32]
def namesT (j : Bool) (l : List Int) : Nat → List UInt8
  | 0 => []
  | k + 1 => namesT j l k ++ ((if k = 0 then [] else sepT j) ++ nameT ((l[k]?).getD 0))
def text1 (q : Qy) : List UInt8 := [115, 101, 108, 101, 99, 116, 32] ++ aggT q.agg ++ [40]
def text2 (q : Qy) : List UInt8 := text1 q ++ (argT q ++ [41, 32, 102, 114, 111, 109, 32])
def text3 (q : Qy) (k : Nat) : List UInt8 := text2 q ++ namesT q.join q.src k
def text4 (q : Qy) : List UInt8 := if q.cond.length = 0 then text3 q q.src.length else text3 q q.src.length ++ ([32, 119, 104, 101, 114, 101, 32] ++ (textV q.cond).1)
def text5 (q : Qy) : List UInt8 := text4 q ++ ([32, 119, 105, 110, 100, 111, 119, 32] ++ kindT q.win.kind ++ [32] ++ itoa q.win.size)
def text6 (q : Qy) : List UInt8 := if q.win.kind = 2 then text5 q ++ ([32, 101, 118, 101, 114, 121, 32] ++ itoa q.win.every) else text5 q
def text7 (q : Qy) : List UInt8 := if q.key then text6 q ++ [32, 98, 121, 32, 107, 101, 121] else text6 q
def textQ (q : Qy) : List UInt8 := if q.late = 2 then text7 q ++ [32, 108, 97, 116, 101, 32, 115, 105, 100, 101] else text7 q
theorem names_str (j : Bool) (src : List Int) : ∀ k, k ≤ src.length → 0 < k → str (srcI j (src.take k)) = 32 :: namesT j src k := by
  intro k
  induction k with
  | zero => intro _ h; omega
  | succ k ih =>
    intro hk _
    have hlt : k < src.length := by omega
    have e1 : namesT j src (k + 1) = namesT j src k ++ ((if k = 0 then [] else sepT j) ++ nameT src[k]) := by
      show namesT j src k ++ ((if k = 0 then [] else sepT j) ++ nameT ((src[k]?).getD 0)) = _
      rw [List.getElem?_eq_getElem hlt]; rfl
    rw [e1]
    cases k with
    | zero =>
      obtain ⟨x, xs, rfl⟩ : ∃ x xs, src = x :: xs := by
        cases src with
        | nil => simp at hlt
        | cons x xs => exact ⟨x, xs, rfl⟩
      show [32] ++ (nameT x ++ []) = 32 :: ([] ++ ([] ++ nameT x))
      simp
    | succ k =>
      have ih2 := ih (by omega) (by omega)
      have e2 : srcI j (src.take (k + 1 + 1)) = srcI j (src.take (k + 1)) ++ [W (betT j), W (nameT src[k + 1])] := by
        rw [List.take_succ_eq_append_getElem hlt]
        obtain ⟨x, xs, hx⟩ : ∃ x xs, src.take (k + 1) = x :: xs := by
          cases src with
          | nil => simp at hlt
          | cons x xs => exact ⟨x, xs.take k, rfl⟩
        rw [hx]
        show W (nameT x) :: (xs ++ [src[k + 1]]).flatMap _ = W (nameT x) :: (xs.flatMap _ ++ _)
        rw [List.flatMap_append]; rfl
      rw [e2, str_append, ih2, if_neg (by omega)]
      have e3 : str [W (betT j), W (nameT src[k + 1])] = sepT j ++ nameT src[k + 1] := by
        show [32] ++ (betT j ++ ([32] ++ (nameT src[k + 1] ++ []))) = _
        cases j <;> simp [betT, sepT, tJoin, tUnion]
      rw [e3]; simp
theorem items_str {q : Qy} {e f : Ex} (h : Trees q e f) (he : q.agg ≠ 1 → textV q.arg = (textT e, 0)) (hf : q.cond.length ≠ 0 → textV q.cond = (textT f, 0)) : str (itemsQ q e f) = textQ q := by
  obtain ⟨c1, c2, c3, c4, c5, c6⟩ := checkQ_ok.1 h.ok
  have k0 := (sources_ok.1 c4).1
  have ea : str (argI q e) = argT q := by
    unfold argI argT
    by_cases hg : q.agg = 1
    · rw [if_pos hg, if_pos hg]; rfl
    · rw [if_neg hg, if_neg hg, he hg, its_str]; rfl
  have es : str (srcI q.join q.src) = 32 :: namesT q.join q.src q.src.length := by
    have := names_str q.join q.src q.src.length (Nat.le_refl _) k0
    rwa [List.take_length] at this
  have ec : str (condI q f) = if q.cond.length = 0 then [] else [32, 119, 104, 101, 114, 101, 32] ++ (textV q.cond).1 := by
    unfold condI
    by_cases hc : q.cond.length = 0
    · rw [if_pos hc, if_pos hc]; rfl
    · rw [if_neg hc, if_neg hc, hf hc]
      show [32] ++ (tWhere ++ str (its 1 f)) = _
      rw [its_str]
      simp [tWhere]
  have ew : str (winI q.win) = [32, 119, 105, 110, 100, 111, 119, 32] ++ kindT q.win.kind ++ [32] ++ itoa q.win.size ++ (if q.win.kind = 2 then [32, 101, 118, 101, 114, 121, 32] ++ itoa q.win.every else []) := by
    unfold winI
    rw [str_append]
    have : str [W tWindow, W (kindT q.win.kind), (1, 1, itoa q.win.size)] = [32] ++ (tWindow ++ ([32] ++ (kindT q.win.kind ++ ([32] ++ (itoa q.win.size ++ []))))) := rfl
    rw [this]
    split
    · have : str [W tEvery, (1, 1, itoa q.win.every)] = [32] ++ (tEvery ++ ([32] ++ (itoa q.win.every ++ []))) := rfl
      rw [this]
      simp [tWindow, tEvery]
    · simp [tWindow, str]
  have ek : str (keyI q) = if q.key then [32, 98, 121, 32, 107, 101, 121] else [] := by
    unfold keyI
    split <;> rfl
  have el : str (lateI q) = if q.late = 2 then [32, 108, 97, 116, 101, 32, 115, 105, 100, 101] else [] := by
    unfold lateI
    split <;> rfl
  have e0 : str (itemsQ q e f) = tSelect ++ ([32] ++ (aggT q.agg ++ (tLeft ++ (str (argI q e) ++ (tRight ++ ([32] ++ (tFrom ++ (str (srcI q.join q.src) ++ (str (condI q f) ++ (str (winI q.win) ++ (str (keyI q) ++ str (lateI q)))))))))))) := by
    unfold itemsQ headI tailI
    simp only [List.cons_append]
    show [] ++ (tSelect ++ ([32] ++ (aggT q.agg ++ ([] ++ (tLeft ++ str (argI q e ++ ((0, 3, tRight) :: W tFrom :: (srcI q.join q.src ++ (condI q f ++ (winI q.win ++ (keyI q ++ lateI q))))))))))) = _
    rw [str_append]
    show [] ++ (tSelect ++ ([32] ++ (aggT q.agg ++ ([] ++ (tLeft ++ (str (argI q e) ++ ([] ++ (tRight ++ ([32] ++ (tFrom ++ str (srcI q.join q.src ++ (condI q f ++ (winI q.win ++ (keyI q ++ lateI q)))))))))))))) = _
    simp only [str_append, List.nil_append]
    rfl
  rw [e0, ea, es, ec, ew, ek, el]
  unfold textQ text7 text6 text5 text4 text3 text2 text1
  split <;> split <;> split <;> split <;> simp [tSelect, tLeft, tRight, tFrom]

/-! ### It fits -/
structure Good (r : List It) : Prop where
  fit : Fit r
  ends : Exprs.Ends r
theorem good_nil : Good [] := ⟨trivial, fun i hi => by simp at hi⟩
theorem good_w {x : List UInt8} {r : List It} (hx : wordB x = true) (h : Good r) : Good (W x :: r) := ⟨⟨hx, .inr h.ends, h.fit⟩, ends_blank (g := 1) (by decide) rfl r⟩
theorem good_num {n : Int} {r : List It} (h0 : 0 ≤ n) (hn : n ≤ 1073741824) (h : Good r) : Good ((1, 1, itoa n) :: r) := ⟨⟨(itoa_read h0 (by omega)).2, .inr h.ends, h.fit⟩, ends_blank (g := 1) (by decide) rfl r⟩
theorem good_late (q : Qy) : Good (lateI q) := by
  unfold lateI
  split
  · exact good_w (by decide) (good_w (by decide) good_nil)
  · exact good_nil
theorem good_key {q : Qy} {r : List It} (h : Good r) : Good (keyI q ++ r) := by
  unfold keyI
  split
  · exact good_w (by decide) (good_w (by decide) h)
  · exact h
theorem good_win {w : Wn} (hv : windowV w = 0) {r : List It} (h : Good r) : Good (winI w ++ r) := by
  have f := fits_of hv
  unfold winI
  have hk : wordB (kindT w.kind) = true := by
    unfold kindT
    split
    · decide
    · split <;> decide
  rw [List.append_assoc]
  refine good_w (by decide) (good_w hk (good_num (by omega) f.2.1 ?_))
  split
  · rename_i h2
    exact good_w (by decide) (good_num (by omega) (by omega) h)
  · exact h
theorem good_cond {q : Qy} {f : Ex} (hw : q.cond.length ≠ 0 → Wf f ∧ OkE f ∧ Small f ∧ (flat f).map Nodes.core = q.cond.map Nodes.core) {r : List It} (h : Good r) : Good (condI q f ++ r) := by
  unfold condI
  split
  · exact h
  · rename_i hc
    obtain ⟨a, _, b, _⟩ := hw hc
    have hfit := its_fit f a b 1 r h.fit h.ends
    obtain ⟨i, r', e, hg⟩ := its_ne f 1
    refine good_w (by decide) ⟨hfit, ?_⟩
    rw [e]
    exact ends_blank (by decide) hg _
theorem good_name {x : Int} (hx : inS x = true) : wordB (nameT x) = true := by
  obtain ⟨k, hk, rfl, hT⟩ := name_letter hx
  rw [hT]
  match k, hk with
  | 0, _ => decide
  | 1, _ => decide
  | 2, _ => decide
  | 3, _ => decide
theorem good_rest (j : Bool) (ys : List Int) (hy : ∀ y ∈ ys, inS y = true) {r : List It} (h : Good r) : Good (restI j ys ++ r) := by
  induction ys with
  | nil => exact h
  | cons y ys ih =>
    have hb : wordB (betT j) = true := by cases j <;> decide
    exact good_w hb (good_w (good_name (hy y (by simp))) (ih (fun z hz => hy z (by simp [hz]))))
theorem good_src (j : Bool) (ys : List Int) (hy : ∀ y ∈ ys, inS y = true) {r : List It} (h : Good r) : Good (srcI j ys ++ r) := by
  cases ys with
  | nil => exact h
  | cons y ys => exact good_w (good_name (hy y (by simp))) (good_rest j ys (fun z hz => hy z (by simp [hz])) h)
theorem items_fit {q : Qy} {e f : Ex} (h : Trees q e f) : Fit2 (itemsQ q e f) := by
  obtain ⟨c1, c2, c3, c4, c5, c6⟩ := checkQ_ok.1 h.ok
  have hin : ∀ y ∈ q.src, inS y = true := fun y hy => List.all_eq_true.1 (sources_ok.1 c4).2.2.2.1 y hy
  have g1 := good_src q.join q.src hin (good_cond h.cond (good_win c5 (good_key (q := q) (good_late q))))
  have g2 : Good (tailI q f) := ⟨⟨by decide, .inr (good_w (x := tFrom) (by decide) g1).ends, (good_w (by decide) g1).fit⟩, ends_close _⟩
  have g3 : Fit (argI q e ++ tailI q f) := by
    unfold argI
    split
    · exact ⟨by decide, .inr g2.ends, g2.fit⟩
    · rename_i hg
      obtain ⟨a, _, b, _⟩ := h.arg hg
      exact its_fit e a b 0 _ g2.fit g2.ends
  have hagg : wordB (aggT q.agg) = true := by
    unfold aggT
    split
    · decide
    · split
      · decide
      · split <;> decide
  have g4 : Fit2 ((0, 3, tLeft) :: (argI q e ++ tailI q f)) := ⟨by decide, .inl rfl, fit2_of g3⟩
  have g5 : Fit2 (W (aggT q.agg) :: (0, 3, tLeft) :: (argI q e ++ tailI q f)) := ⟨hagg, .inr (.inr ⟨rfl, _, _, rfl, rfl, rfl⟩), g4⟩
  exact ⟨by decide, .inr (.inl (ends_blank (g := 1) (by decide) rfl _)), g5⟩

/-! ### Exactly the grammar -/
theorem odd_one {l : List Tok} (h : TsOk l) {q : Qy} (h1 : l.length % 2 ≠ wtQ q % 2) : (queryP l).e ≠ 0 ∨ alikeQ (queryP l).q q = false := by
  by_cases he : (queryP l).e = 0
  · right
    obtain ⟨_, _, _, _, h2⟩ := (query_law h).2.1 he
    rw [Bool.eq_false_iff]
    intro ha
    rw [wt_alike ha] at h2
    exact h1 h2
  · exact .inl he
theorem join_cases {ts : List Tok} (hn : ts.length ≤ 200) (hv : ∀ t ∈ ts, validT t = true) : (joinV ts).2 = 0 ∨ (joinV ts).2 = 18 := by
  unfold joinV
  rw [if_neg (by omega), if_neg (by rw [List.all_eq_true.2 hv]; simp)]
  split
  · exact .inr rfl
  · exact .inl rfl
theorem join_ok {ts : List Tok} (hv : ∀ t ∈ ts, validT t = true) (he : (joinV ts).2 = 0) : (allV (joinV ts).1).2.2 = 0 ∧ ts.map tc = (allV (joinV ts).1).1.map tc := by
  obtain ⟨h1, h2, _⟩ := join_read (List.all_eq_true.2 hv) he
  exact ⟨by rw [h1], of_decide_eq_true h2⟩
/-- The text of a query, and all that is claimed of it. -/
structure ExactLaw (q : Qy) : Prop where
  long : 400 < (textQ q).length → allV (textQ q) = ([], 0, 4)
  errs : (textQ q).length ≤ 400 → (allV (textQ q)).2.2 = 4 ∨ (allV (textQ q)).2.2 = 0
  place : (allV (textQ q)).2.2 = 0 → (parseP (textQ q)).2.1 = (textQ q).length ∧ (parseP (textQ q)).2.2 = 0
  alike : (allV (textQ q)).2.2 = 0 → alikeQ (parseP (textQ q)).1 q = true ∧ checkQ (parseP (textQ q)).1 = 0
  four : (allV (textQ q)).2.2 = 0 → 4 ≤ (allV (textQ q)).1.length
  less : (allV (textQ q)).2.2 = 0 → ∀ i, i < (allV (textQ q)).1.length →
    (joinV ((allV (textQ q)).1.take i ++ (allV (textQ q)).1.drop (i + 1))).2 = 18 ∨
    ((joinV ((allV (textQ q)).1.take i ++ (allV (textQ q)).1.drop (i + 1))).2 = 0 ∧ ((parseP (joinV ((allV (textQ q)).1.take i ++ (allV (textQ q)).1.drop (i + 1))).1).2.2 ≠ 0 ∨ alikeQ (parseP (joinV ((allV (textQ q)).1.take i ++ (allV (textQ q)).1.drop (i + 1))).1).1 q = false))
  arg : (allV (textQ q)).2.2 = 0 → q.agg ≠ 1 → ∃ c : Nat, parseV (allV (textQ q)).1 3 = ((parseP (textQ q)).1.arg, (c : Int), 0) ∧ sameV (parseP (textQ q)).1.arg q.arg = (true, 0)
  cond : (allV (textQ q)).2.2 = 0 → ∀ (i : Nat) (h : i < (allV (textQ q)).1.length), (allV (textQ q)).1[i].kind = 2 → (allV (textQ q)).1[i].text = tWhere → ∃ c : Nat, parseV (allV (textQ q)).1 ((i : Int) + 1) = ((parseP (textQ q)).1.cond, (c : Int), 0)
theorem expr_place {ts : List Tok} (h : TsOk ts) {a : Nat} (ha : a ≤ ts.length) {y : List Nd} {r : List Tok} (he : exprP (ts.drop a) = (0, y, r)) : ∃ c : Nat, parseV ts (a : Int) = (y, (c : Int), 0) := by
  have hv : askedV ts (a : Int) = 0 := asked_ok.2 ⟨h.1, h.2, by omega, by omega⟩
  unfold parseV
  rw [if_pos hv, Int.toNat_natCast]
  unfold exprP at he
  cases hp : parse (syms (ts.drop a)) with
  | ok x rest =>
    rw [hp] at he
    have h1 := go_less hp
    have hl : (syms (ts.drop a)).length = ts.length - a := by unfold syms; rw [List.length_map, List.length_drop]
    simp only [Prod.mk.injEq, true_and] at he
    refine ⟨ts.length - rest.length, ?_⟩
    show (x, ((ts.length : Int) - rest.length), (0 : Int)) = _
    rw [he.1, show ((ts.length : Int) - rest.length) = ((ts.length - rest.length : Nat) : Int) by omega]
  | err c rest =>
    rw [hp] at he
    exfalso
    obtain ⟨hc, _⟩ := parse_err hp
    simp only [Prod.mk.injEq] at he
    omega
theorem exact_law {q : Qy} (h : checkQ q = 0) (ha : Wide q.arg) (hc : Wide q.cond) : ExactLaw q := by
  obtain ⟨e, f, ht, he, hf⟩ := trees_of h ha hc
  have hs := items_str ht he hf
  have hfit := items_fit ht
  have hqp : ∀ {l : List Tok}, l = placed 0 (itemsQ q e f) → (textQ q).length ≤ 400 → Pl (itemsQ q e f) l := fun e2 hl => ⟨0, e2, by rw [hs]; omega⟩
  have hcase : (textQ q).length ≤ 400 → (allV (textQ q)).2.2 = 4 ∨ allV (textQ q) = (placed 0 (itemsQ q e f), (textQ q).length, 0) := fun hl => by
    obtain ⟨h1, h2⟩ := all_str2 hfit (by rw [hs]; exact hl)
    rw [hs] at h1 h2
    rcases Nat.lt_or_ge 200 (itemsQ q e f).length with h3 | h3
    · exact .inl (h2 h3)
    · exact .inr (h1 h3)
  have hok : (allV (textQ q)).2.2 = 0 → (textQ q).length ≤ 400 ∧ allV (textQ q) = (placed 0 (itemsQ q e f), (textQ q).length, 0) := fun h0 => by
    have hl := all_len h0
    refine ⟨hl, ?_⟩
    rcases hcase hl with h4 | h4
    · rw [h0] at h4; cases h4
    · exact h4
  have hread : (allV (textQ q)).2.2 = 0 → _ := fun h0 => query_read ht (all_ok_ts (textQ q)) (hqp (by rw [(hok h0).2]) (hok h0).1)
  have hpp : (allV (textQ q)).2.2 = 0 → (parseP (textQ q)).1 = (queryP (allV (textQ q)).1).q ∧ (parseP (textQ q)).2.1 = (textQ q).length ∧ (parseP (textQ q)).2.2 = 0 := fun h0 => by
    obtain ⟨r1, r2, _⟩ := hread h0
    rw [parseP_ok h0, r1, r2]
    exact ⟨rfl, rfl, rfl⟩
  have hlen : (allV (textQ q)).2.2 = 0 → (allV (textQ q)).1.length = (itemsQ q e f).length := fun h0 => by rw [(hok h0).2]; exact placed_len _ _
  refine ⟨fun hl => ?_, fun hl => ?_, fun h0 => (hpp h0).2, fun h0 => ?_, fun h0 => ?_, fun h0 i hi => ?_, fun h0 hg => ?_, fun h0 i hi hk hx => ?_⟩
  · unfold allV; rw [if_pos hl]
  · rcases hcase hl with h4 | h4
    · exact .inl h4
    · exact .inr (by rw [h4])
  · obtain ⟨r1, _, r3, _⟩ := hread h0
    rw [(hpp h0).1]
    exact ⟨by rw [alikeQ_symm]; exact r3.alike, ((query_law (all_ok_ts (textQ q))).2.1 r1).1⟩
  · rw [hlen h0]
    unfold itemsQ headI tailI
    simp only [List.length_append, List.length_cons]
    omega
  · obtain ⟨r1, _, r3, _⟩ := hread h0
    have hT := all_ok_ts (textQ q)
    obtain ⟨L, hL⟩ : ∃ L, (allV (textQ q)).1 = L := ⟨_, rfl⟩
    rw [hL] at hi hT r1 r3 ⊢
    obtain ⟨M, hM⟩ : ∃ M, L.take i ++ L.drop (i + 1) = M := ⟨_, rfl⟩
    have hMl : M.length + 1 = L.length := by rw [← hM, List.length_append, List.length_take, List.length_drop]; omega
    have hMv : ∀ t ∈ M, validT t = true := fun t htm => by
      rw [← hM] at htm
      rcases List.mem_append.1 htm with h | h
      · exact (hT.2 t (List.mem_of_mem_take h)).1
      · exact (hT.2 t (List.mem_of_mem_drop h)).1
    rw [hM]
    rcases join_cases (by have := hT.1; omega) hMv with h1 | h1
    · refine .inr ⟨h1, ?_⟩
      obtain ⟨j1, j2⟩ := join_ok hMv h1
      have hNl : (allV (joinV M).1).1.length = M.length := by simpa using (congrArg List.length j2).symm
      have hw := (query_law hT).2.1 r1
      have hodd := odd_one (all_ok_ts (joinV M).1) (q := q) (by
        have h3 := hw.2.2.2.2
        rw [← wt_alike r3.alike] at h3
        omega)
      rw [parseP_ok j1]
      exact hodd
    · exact .inl h1
  · obtain ⟨r1, _, r3, r4, _⟩ := hread h0
    obtain ⟨l4, hx⟩ := r4 hg
    have hT := all_ok_ts (textQ q)
    have hdr : (allV (textQ q)).1.tail.tail.tail = (allV (textQ q)).1.drop 3 := by
      cases (allV (textQ q)).1 with
      | nil => rfl
      | cons a l =>
        cases l with
        | nil => rfl
        | cons b l =>
          cases l with
          | nil => rfl
          | cons c l => rfl
    rw [hdr] at hx
    have h4 : 4 ≤ (allV (textQ q)).1.length := by
      rw [hlen h0]
      unfold itemsQ headI tailI
      simp only [List.length_append, List.length_cons]
      omega
    obtain ⟨c, hp⟩ := expr_place hT (show 3 ≤ _ by omega) hx
    rw [(hpp h0).1]
    refine ⟨c, hp, ?_⟩
    obtain ⟨c1, c2, _⟩ := checkQ_ok.1 h
    obtain ⟨d1, d2, _⟩ := checkQ_ok.1 ((query_law hT).2.1 r1).1
    unfold argV at c2 d2
    rw [if_neg hg] at c2
    rw [if_neg (by rw [← r3.agg]; exact hg)] at d2
    unfold sameV
    rw [if_pos d2, if_pos c2]
    exact Prod.ext (decide_eq_true r3.arg.symm) rfl
  · obtain ⟨r1, _, r3, _, r5⟩ := hread h0
    have hT := all_ok_ts (textQ q)
    obtain ⟨w1, w2⟩ := where_at ht (hqp (by rw [(hok h0).2]) (hok h0).1) hi hk hx
    obtain ⟨l6, hx6⟩ := r5 w1
    rw [← w2] at hx6
    obtain ⟨c, hp⟩ := expr_place hT (show i + 1 ≤ _ by omega) hx6
    rw [(hpp h0).1]
    exact ⟨c, by rw [← hp]; rfl⟩

/-! ### Any text -/
structure ValidLaw (s : List UInt8) : Prop where
  bad : (allV s).2.2 = 0 → (parseP s).2.2 ≠ 0 → (parseP s).1 = noQ ∧ ((parseP s).2.1 = s.length ∨ ∃ t ∈ (allV s).1, t.at_ = (parseP s).2.1)
  good : (allV s).2.2 = 0 → (parseP s).2.2 = 0 → (parseP s).2.1 = s.length ∧ checkQ (parseP s).1 = 0 ∧ 0 < (allV s).1.length ∧ Placed (allV s).1 (parseP s).1.arg ∧ Placed (allV s).1 (parseP s).1.cond
  cut : (allV s).2.2 = 0 → (parseP s).2.2 = 0 → ∀ (h : (allV s).1.length - 1 < (allV s).1.length), ∃ c : Nat, (allV s).1[(allV s).1.length - 1].at_ = (c : Int) ∧ c ≤ s.length ∧ ((parseP (s.take c)).2.2 ≠ 0 ∨ alikeQ (parseP (s.take c)).1 (parseP s).1 = false)
theorem valid_law (s : List UInt8) : ValidLaw s := by
  have hT := all_ok_ts s
  have hq := query_law hT
  refine ⟨fun h0 h1 => ?_, fun h0 h1 => ?_, fun h0 h1 hlt => ?_⟩
  · rw [parseP_ok h0] at h1 ⊢
    simp only at h1 ⊢
    refine ⟨hq.2.2 h1, ?_⟩
    cases hl : (queryP (allV s).1).l with
    | nil => exact .inl rfl
    | cons t r =>
      refine .inr ⟨t, hq.1.subset (by rw [hl]; simp), rfl⟩
  · rw [parseP_ok h0] at h1 ⊢
    simp only at h1 ⊢
    obtain ⟨a, b, c, d, e⟩ := hq.2.1 h1
    refine ⟨by rw [b], a, ?_, c, d⟩
    rcases Nat.eq_zero_or_pos (allV s).1.length with hz | hz
    · exfalso
      have hz2 := List.length_eq_zero_iff.1 hz
      rw [hz2] at h1
      exact absurd h1 (by decide)
    · exact hz
  · obtain ⟨p, t, hp⟩ : ∃ p t, (allV s).1 = p ++ [t] := by
      refine ⟨(allV s).1.dropLast, (allV s).1.getLast (fun e => by rw [e] at hlt; simp at hlt), ?_⟩
      exact (List.dropLast_concat_getLast _).symm
    obtain ⟨c, h2, h3, h4⟩ := all_cut h0 hp
    refine ⟨c, ?_, h3, ?_⟩
    · have : (allV s).1[(allV s).1.length - 1] = t := by
        have h5 : (allV s).1[(allV s).1.length - 1]? = some t := by
          rw [hp]; simp
        rw [List.getElem?_eq_getElem hlt] at h5
        exact Option.some.inj h5
      rw [this, h2]
    · have hp1 : (parseP s).1 = (queryP (allV s).1).q := by rw [parseP_ok h0]
      rw [parseP_ok h0] at h1
      simp only at h1
      obtain ⟨_, _, _, _, e⟩ := hq.2.1 h1
      have hlen : (allV s).1.length = p.length + 1 := by rw [hp]; simp
      have h5 : (allV (s.take c)).2.2 = 0 := by rw [h4]
      rw [parseP_ok h5, hp1]
      have h6 : (allV (s.take c)).1 = p := by rw [h4]
      exact odd_one (all_ok_ts (s.take c)) (by rw [h6]; omega)
/-- Blanks. -/
theorem alike_law {s t : List UInt8} (h1 : (allV s).2.2 = 0) (h2 : (allV t).2.2 = 0) (h : (allV s).1.map tc = (allV t).1.map tc) : (parseP s).2.2 = (parseP t).2.2 ∧ alikeQ (parseP s).1 (parseP t).1 = true := by
  obtain ⟨a, b⟩ := query_like ⟨h, all_ok_ts s, all_ok_ts t⟩
  rw [parseP_ok h1, parseP_ok h2]
  exact ⟨a, b⟩
end Go.Proofs.YtdinaedknlkicaaGreatDoor.Prs

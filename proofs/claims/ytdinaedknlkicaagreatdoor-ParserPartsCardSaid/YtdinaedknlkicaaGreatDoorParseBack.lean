/-
  Written with brackets it is read (layer 5), plainly: how much is needed to read, and the expression of the text with brackets. No program in this text.
-/
import Derived.Test.YtdinaedknlkicaaGreatDoorParseMath
namespace Go.Proofs.YtdinaedknlkicaaGreatDoor.Exprs
open Nodes

/-! ### Enough is enough -/
def need (n : Nat) (acc : Option (List Nd)) (l : List S) : Nat :=
  match acc with
  | some _ => 20 * l.length + 19
  | none => 20 * l.length + 2 * (9 - n)
theorem then_congr {r : R} {F G : List Nd → List S → R} (h : ∀ x rest, r = .ok x rest → F x rest = G x rest) : r.then F = r.then G := by
  cases r with
  | ok x rest => exact h x rest rfl
  | err c rest => rfl
theorem go_fuel (f : Nat) : ∀ (g n : Nat) (acc : Option (List Nd)) (l : List S), n ≤ 8 → (acc ≠ none → n ≤ 6) → need n acc l < f → need n acc l < g → go f n acc l = go g n acc l := by
  induction f with
  | zero => intro g n acc l _ _ h; omega
  | succ f ih =>
    intro g n acc l hn hs hf hg
    cases g with
    | zero => omega
    | succ g =>
      cases acc with
      | some a =>
        have hn6 := hs (by simp)
        show backR n (go f (n + 1) none) (fun z rest => if n = 3 then .ok z rest else go f n (some z) rest) a l = backR n (go g (n + 1) none) (fun z rest => if n = 3 then .ok z rest else go g n (some z) rest) a l
        unfold backR
        split
        · rename_i k p r
          split
          · simp only [need, List.length_cons] at hf hg
            rw [ih g (n + 1) none r (by omega) (fun h => absurd rfl h) (by simp only [need]; omega) (by simp only [need]; omega)]
            refine then_congr fun y rest h1 => then_congr fun z rest2 h2 => ?_
            obtain ⟨_, rfl, _⟩ := mk_ok h2
            have hl := go_less h1
            split
            · rfl
            · exact ih g n (some z) _ hn (fun _ => hn6) (by simp only [need]; omega) (by simp only [need]; omega)
          · rfl
        · rfl
      | none =>
        simp only [need] at hf hg
        unfold go
        split
        · rename_i h8
          unfold primR
          split
          · rfl
          · rfl
          · rename_i p r
            simp only [List.length_cons] at hf hg
            rw [ih g 0 none r (by omega) (fun h => absurd rfl h) (by simp only [need]; omega) (by simp only [need]; omega)]
          · rfl
        split
        · rename_i h7
          subst h7
          unfold negR
          split
          · rename_i k p r
            simp only [List.length_cons] at hf hg
            split
            · rw [ih g 7 none r (by omega) (fun h => absurd rfl h) (by simp only [need]; omega) (by simp only [need]; omega)]
            · exact ih g 8 none _ (by omega) (fun h => absurd rfl h) (by simp only [need, List.length_cons]; omega) (by simp only [need, List.length_cons]; omega)
          · exact ih g 8 none _ (by omega) (fun h => absurd rfl h) (by simp only [need]; omega) (by simp only [need]; omega)
        split
        · rename_i h2
          subst h2
          unfold notR
          split
          · rename_i p r
            simp only [List.length_cons] at hf hg
            rw [ih g 2 none r (by omega) (fun h => absurd rfl h) (by simp only [need]; omega) (by simp only [need]; omega)]
          · exact ih g 3 none _ (by omega) (fun h => absurd rfl h) (by simp only [need]; omega) (by simp only [need]; omega)
        · rw [ih g (n + 1) none l (by omega) (fun h => absurd rfl h) (by simp only [need]; omega) (by simp only [need]; omega)]
          refine then_congr fun x rest h1 => ?_
          have hl := go_less h1
          exact ih g n (some x) rest hn (fun _ => by omega) (by simp only [need]; omega) (by simp only [need]; omega)
/-- What is read with enough. -/
def Reads (n : Nat) (l : List S) (x : List Nd) (rest : List S) : Prop := ∃ F, ∀ f, F ≤ f → go f n none l = .ok x rest
theorem parse_reads {l : List S} {x : List Nd} {rest : List S} (h : Reads 0 l x rest) : parse l = .ok x rest := by
  obtain ⟨F, hF⟩ := h
  unfold parse
  rw [go_fuel (20 * l.length + 40) (F + 20 * l.length + 40) 0 none l (by omega) (fun h => absurd rfl h) (by simp only [need]; omega) (by simp only [need]; omega)]
  exact hF _ (by omega)

/-! ### Lines that have nothing to do -/
/-- No operator of a line from m on stands there. -/
def Stops (m : Nat) (rest : List S) : Prop := ∀ k p r, rest = (.bin k, p) :: r → line k < m
theorem Stops.mono {m n : Nat} {rest : List S} (h : Stops m rest) (hmn : m ≤ n) : Stops n rest := fun k p r e => Nat.lt_of_lt_of_le (h k p r e) hmn
theorem back_stops {n : Nat} {down : List S → R} {ag : List Nd → List S → R} {x : List Nd} {rest : List S} (h : Stops n rest) : backR n down ag x rest = .ok x rest := by
  unfold backR
  split
  · rename_i k p r
    have := h k p r rfl
    rw [if_neg (by omega)]
  · rfl
/-- A beginning that is no sign and no "not". -/
def Plain (l : List S) : Prop := ∀ s r, l = s :: r → s.1 ≠ .no ∧ ∀ k, s.1 = .bin k → k ≠ 9
theorem pass_line {n : Nat} (h8 : n < 7) (h2 : n ≠ 2) {l : List S} {x : List Nd} {rest : List S} (h : Reads (n + 1) l x rest) (hs : Stops n rest) : Reads n l x rest := by
  obtain ⟨F, hF⟩ := h
  refine ⟨F + 2, fun f hf => ?_⟩
  obtain ⟨g, rfl⟩ : ∃ g, f = g + 2 := ⟨f - 2, by omega⟩
  show (if n = 8 then _ else if n = 7 then _ else if n = 2 then _ else _) = _
  rw [if_neg (by omega), if_neg (by omega), if_neg h2, hF (g + 1) (by omega)]
  show backR n _ _ x rest = _
  exact back_stops hs
theorem pass_not {l : List S} {x : List Nd} {rest : List S} (h : Reads 3 l x rest) (hp : ∀ p r, l ≠ (.no, p) :: r) : Reads 2 l x rest := by
  obtain ⟨F, hF⟩ := h
  refine ⟨F + 1, fun f hf => ?_⟩
  obtain ⟨g, rfl⟩ : ∃ g, f = g + 1 := ⟨f - 1, by omega⟩
  show notR (go g 2 none) (go g 3 none) l = _
  unfold notR
  split
  · rename_i p r; exact absurd rfl (hp p r)
  · exact hF g (by omega)
theorem pass_neg {l : List S} {x : List Nd} {rest : List S} (h : Reads 8 l x rest) (hp : ∀ k p r, l = (.bin k, p) :: r → k ≠ 9) : Reads 7 l x rest := by
  obtain ⟨F, hF⟩ := h
  refine ⟨F + 1, fun f hf => ?_⟩
  obtain ⟨g, rfl⟩ : ∃ g, f = g + 1 := ⟨f - 1, by omega⟩
  show negR (go g 7 none) (go g 8 none) l = _
  unfold negR
  split
  · rename_i k p r
    rw [if_neg (hp k p r rfl)]
    exact hF g (by omega)
  · exact hF g (by omega)
/-- From a line on down to another one. -/
theorem pass_down {l : List S} {x : List Nd} {rest : List S} (hp : ∀ p r, l ≠ (.no, p) :: r) (d : Nat) : ∀ n m, m = n + d → m ≤ 7 → Reads m l x rest → Stops n rest → Reads n l x rest := by
  induction d with
  | zero => intro n m e _ h _; rw [e] at h; exact h
  | succ d ih =>
    intro n m e hm h hs
    have h1 := ih (n + 1) m (by omega) hm h (hs.mono (by omega))
    by_cases h2 : n = 2
    · subst h2; exact pass_not h1 hp
    · exact pass_line (by omega) h2 h1 hs
/-- Behind "not" alone. -/
theorem pass_low {l : List S} {x : List Nd} {rest : List S} (h : Reads 2 l x rest) (hs : Stops 0 rest) : Reads 0 l x rest :=
  pass_line (by decide) (by decide) (pass_line (by decide) (by decide) h (hs.mono (by decide))) hs

/-! ### Expressions as trees -/
inductive Ex where
  | leaf (k n : Int)
  | one (k : Int) (e : Ex)
  | two (k : Int) (e f : Ex)
def flat : Ex → List Nd
  | .leaf k n => madeL k n 0 []
  | .one k e => madeL k 0 0 [flat e]
  | .two k e f => madeL k 0 0 [flat e, flat f]
def Wf : Ex → Prop
  | .leaf k n => (k = 1 ∧ 0 ≤ n) ∨ (2 ≤ k ∧ k ≤ 4 ∧ n = 0)
  | .one k e => (k = 5 ∨ k = 6) ∧ Wf e
  | .two k e f => 7 ≤ k ∧ k ≤ 19 ∧ Wf e ∧ Wf f
def leafS (k n : Int) : Sy := if k = 1 then .num n else .leaf k
def isLeaf : Ex → Bool
  | .leaf _ _ => true
  | _ => false
/-- The symbols of the text with brackets. -/
def toks : Ex → List Sy
  | .leaf k n => [leafS k n]
  | .one k e => (if k = 5 then Sy.bin 9 else Sy.no) :: (if isLeaf e then toks e else .left :: toks e ++ [.right])
  | .two k e f => (if isLeaf e then toks e else .left :: toks e ++ [.right]) ++ .bin k :: (if isLeaf f then toks f else .left :: toks f ++ [.right])
def partS (e : Ex) : List Sy := if isLeaf e then toks e else .left :: toks e ++ [.right]
theorem toks_one (k : Int) (e : Ex) : toks (.one k e) = (if k = 5 then Sy.bin 9 else Sy.no) :: partS e := rfl
theorem toks_two (k : Int) (e f : Ex) : toks (.two k e f) = partS e ++ .bin k :: partS f := rfl

/-! ### Alike but for places -/
def AtOk (l : List Nd) : Prop := ∀ x ∈ l, 0 ≤ x.at_ ∧ x.at_ ≤ 400
theorem right_core {x y : Nd} (h : core x = core y) (ha : 0 ≤ y.at_ ∧ y.at_ ≤ 400) (a b : Int) (hr : rightB x a b = true) : rightB y a b = true := by
  simp only [core, Prod.mk.injEq] at h
  obtain ⟨e1, e2, e3, e4⟩ := h
  rw [right_iff] at hr ⊢
  rw [← e1, ← e2, ← e3, ← e4]
  exact ⟨hr.1, hr.2.1, hr.2.2.1, hr.2.2.2.1, ha.1, ha.2, hr.2.2.2.2.2.2⟩
theorem run_alike (l : List Nd) : ∀ (m : List Nd) (acc r : Acc), l.map core = m.map core → AtOk m → run acc l = some r → run acc m = some r := by
  induction l with
  | nil =>
    intro m acc r h _ hr
    cases m with
    | nil => exact hr
    | cons y m => simp at h
  | cons x l ih =>
    intro m acc r h ha hr
    cases m with
    | nil => simp at h
    | cons y m =>
      simp only [List.map_cons, List.cons.injEq] at h
      replace hr : ((step acc x).bind fun p => run (acc ++ [p]) l) = some r := hr
      cases hs : step acc x with
      | none => rw [hs] at hr; cases hr
      | some q =>
        rw [hs] at hr
        have hk : y.kind = x.kind := by have := h.1; simp only [core, Prod.mk.injEq] at this; exact this.1.symm
        have := step_as hk (fun a b e => right_core h.1 (ha y (by simp)) a b e) hs
        show ((step acc y).bind fun p => run (acc ++ [p]) m) = some r
        rw [this]
        exact ih m _ _ h.2 (fun u hu => ha u (by simp [hu])) hr
theorem check_alike {l m : List Nd} (h : l.map core = m.map core) (ha : AtOk m) (hc : checkV l = 0) : checkV m = 0 := by
  obtain ⟨hr, h0, h60, hs, hd⟩ := check_acc hc
  have hl : l.length = m.length := by simpa using congrArg List.length h
  exact check_ok.2 ⟨_, run_alike l m [] _ h ha hr, by omega, by omega, by rw [← hl]; exact hs, by rw [← hl]; exact hd⟩
theorem check_at {l : List Nd} (h : checkV l = 0) : AtOk l := by
  intro x hx
  obtain ⟨i, hi, rfl⟩ := List.getElem_of_mem hx
  obtain ⟨_, _, _, _, h5, h6, _⟩ := node_facts h hi
  exact ⟨h5, h6⟩
theorem core_shift (d : Int) (l m : List Nd) (h : l.map core = m.map core) : (l.map (shift d)).map core = (m.map (shift d)).map core := by
  have e : ∀ l : List Nd, (l.map (shift d)).map core = (l.map core).map fun c => (c.1, c.2.1, (if 0 < arity c.1 then c.2.2.1 - d else c.2.2.1), (if 1 < arity c.1 then c.2.2.2 - d else c.2.2.2)) := fun l => by
    rw [List.map_map, List.map_map]; rfl
  rw [e, e, h]
theorem made_core (k n p q : Int) (ps qs : List (List Nd)) (h : ps.map (·.map core) = qs.map (·.map core)) : (madeL k n p ps).map core = (madeL k n q qs).map core := by
  match ps, qs, h with
  | [], [], _ => rfl
  | [a], [b], h =>
    simp only [List.map_cons, List.map_nil, List.cons.injEq, and_true] at h
    have hl : a.length = b.length := by simpa using congrArg List.length h
    show (a ++ [_]).map core = (b ++ [_]).map core
    rw [List.map_append, List.map_append, h, hl]; rfl
  | a :: c :: as, b :: d :: bs, h =>
    simp only [List.map_cons, List.cons.injEq] at h
    have hl : a.length = b.length := by simpa using congrArg List.length h.1
    have hl2 : c.length = d.length := by simpa using congrArg List.length h.2.1
    show (a ++ c.map (shift (-(a.length : Int))) ++ [_]).map core = (b ++ d.map (shift (-(b.length : Int))) ++ [_]).map core
    rw [List.map_append, List.map_append, List.map_append, List.map_append, h.1, ← hl, core_shift _ _ _ h.2.1, hl2]; rfl
  | [], _ :: _, h => simp at h
  | _ :: _, [], h => simp at h
  | [_], _ :: _ :: _, h => simp at h
  | _ :: _ :: _, [_], h => simp at h
theorem made_at {k n p : Int} {ps : List (List Nd)} (hp : 0 ≤ p ∧ p ≤ 400) (h : ∀ q ∈ ps, AtOk q) : AtOk (madeL k n p ps) := by
  intro x hx
  match ps, h with
  | [], _ => simp [madeL] at hx; subst hx; exact hp
  | [a], h =>
    simp only [madeL, List.mem_append, List.mem_singleton] at hx
    rcases hx with hx | rfl
    · exact h a (by simp) x hx
    · exact hp
  | a :: c :: as, h =>
    simp only [madeL, List.mem_append, List.mem_singleton, List.mem_map] at hx
    rcases hx with (hx | ⟨y, hy, rfl⟩) | rfl
    · exact h a (by simp) x hx
    · exact h c (by simp) y hy
    · exact hp
/-- A node is made where it is one of the same expression elsewhere. -/
theorem mk_back {k n p : Int} {ys qs : List (List Nd)} {here rest : List S} (hp : 0 ≤ p ∧ p ≤ 400) (h : qs.map (·.map core) = ys.map (·.map core)) (hy : ∀ y ∈ ys, AtOk y) (hc : checkV (madeL k n 0 qs) = 0) :
    mk k n p ys here rest = .ok (madeL k n p ys) rest ∧ (madeL k n p ys).map core = (madeL k n 0 qs).map core ∧ AtOk (madeL k n p ys) := by
  have e := made_core k n 0 p qs ys h
  have ha := made_at (k := k) (n := n) hp hy
  obtain ⟨_, _, h60, _, h20⟩ := check_acc (check_alike e ha hc)
  refine ⟨?_, e.symm, ha⟩
  unfold mk
  rw [if_neg (by omega), if_neg (by omega)]

theorem flat_at (e : Ex) : AtOk (flat e) := by
  induction e with
  | leaf k n => exact made_at (ps := []) ⟨by decide, by decide⟩ (fun q hq => by cases hq)
  | one k e ih => exact made_at ⟨by decide, by decide⟩ (fun q hq => by simp at hq; subst hq; exact ih)
  | two k e f ihe ihf => exact made_at ⟨by decide, by decide⟩ (fun q hq => by
      simp at hq
      rcases hq with rfl | rfl
      · exact ihe
      · exact ihf)

/-! ### Read again -/
/-- Every part of it is valid too. -/
def OkE : Ex → Prop
  | .leaf k n => checkV (flat (.leaf k n)) = 0
  | .one k e => checkV (flat (.one k e)) = 0 ∧ OkE e
  | .two k e f => checkV (flat (.two k e f)) = 0 ∧ OkE e ∧ OkE f
def AtL (t : List S) : Prop := ∀ s ∈ t, 0 ≤ s.2 ∧ s.2 ≤ 400
/-- Read as an expression, whatever is behind it (that P allows). -/
def ReadAs (n : Nat) (t : List S) (P : List S → Prop) (e : Ex) : Prop := ∃ y, (flat e).map core = y.map core ∧ AtOk y ∧ ∀ rest, P rest → Reads n (t ++ rest) y rest
def Full (e : Ex) : Prop := ∀ t, t.map (·.1) = toks e → AtL t → ReadAs 0 t (Stops 0) e
def Part (e : Ex) : Prop := ∀ t, t.map (·.1) = partS e → AtL t → ReadAs 8 t (fun _ => True) e
theorem leaf_part (k n : Int) (hw : Wf (.leaf k n)) (ho : OkE (.leaf k n)) : Part (.leaf k n) := by
  intro t ht ha
  match t, ht with
  | [(s, p)], ht =>
    have hs : s = leafS k n := by simpa [partS, isLeaf, toks] using ht
    subst hs
    have hp := ha (leafS k n, p) (by simp)
    have hm := fun here rest => mk_back (k := k) (n := n) (p := p) (ys := []) (qs := []) (here := here) (rest := rest) hp rfl (fun y hy => by cases hy) ho
    refine ⟨_, (hm [] []).2.1.symm, (hm [] []).2.2, fun rest _ => ⟨1, fun f hf => ?_⟩⟩
    have h1 := (hm ((leafS k n, p) :: rest) rest).1
    obtain ⟨g, rfl⟩ : ∃ g, f = g + 1 := ⟨f - 1, by omega⟩
    show primR (go g 0 none) ((leafS k n, p) :: rest) = _
    unfold leafS at h1 ⊢
    rcases hw with ⟨rfl, h0⟩ | ⟨k2, k4, rfl⟩
    · rw [if_pos rfl] at h1 ⊢
      exact h1
    · rw [if_neg (by omega)] at h1 ⊢
      exact h1
  | [], ht => simp [partS, isLeaf, toks] at ht
  | _ :: _ :: _, ht => simp [partS, isLeaf, toks] at ht
/-- An expression in brackets, one without parts too. -/
theorem bracketed (e : Ex) (h : Full e) (t : List S) (ht : t.map (·.1) = .left :: toks e ++ [.right]) (ha : AtL t) : ReadAs 8 t (fun _ => True) e := by
  obtain ⟨⟨s0, p0⟩, t1, rfl⟩ : ∃ s t1, t = s :: t1 := by
    cases t with
    | nil => simp at ht
    | cons s t1 => exact ⟨s, t1, rfl⟩
  simp only [List.map_cons, List.cons_append, List.cons.injEq] at ht
  obtain ⟨rfl, ht⟩ := ht
  obtain ⟨t2, u, rfl, h2, hu⟩ := List.map_eq_append_iff.1 ht
  obtain ⟨⟨s1, p1⟩, hu1⟩ : ∃ s, u = [s] := by
    match u, hu with
    | [s], _ => exact ⟨s, rfl⟩
    | [], hu => simp at hu
    | _ :: _ :: _, hu => simp at hu
  subst hu1
  simp only [List.map_cons, List.map_nil, List.cons.injEq, and_true] at hu
  subst hu
  obtain ⟨y, hc, hy, hr⟩ := h t2 h2 (fun s hs => ha s (by simp [hs]))
  refine ⟨y, hc, hy, fun rest _ => ?_⟩
  obtain ⟨F, hF⟩ := hr ((.right, p1) :: rest) (fun k p r e => by cases e)
  refine ⟨F + 1, fun f hf => ?_⟩
  obtain ⟨g, rfl⟩ : ∃ g, f = g + 1 := ⟨f - 1, by omega⟩
  show primR (go g 0 none) ((.left, p0) :: (t2 ++ [(.right, p1)] ++ rest)) = _
  rw [List.append_assoc]
  show (go g 0 none (t2 ++ ((.right, p1) :: rest))).then _ = _
  rw [hF g (by omega)]
  rfl
theorem full_part (e : Ex) (hl : isLeaf e = false) (h : Full e) : Part e := by
  intro t ht ha
  unfold partS at ht
  rw [hl] at ht
  simp only [Bool.false_eq_true, if_false] at ht
  exact bracketed e h t ht ha
/-- How a part begins. -/
theorem head_sure (t rest : List S) (hh : ∃ s t1, t = s :: t1 ∧ (s.1 = .left ∨ (∃ n, s.1 = .num n) ∨ ∃ k, s.1 = .leaf k)) : (∀ p r, t ++ rest ≠ (.no, p) :: r) ∧ (∀ k p r, t ++ rest = (.bin k, p) :: r → k ≠ 9) := by
  obtain ⟨s, t1, rfl, hs⟩ := hh
  constructor
  · intro p r e
    simp only [List.cons_append, List.cons.injEq] at e
    rw [e.1] at hs
    rcases hs with hs | ⟨n, hs⟩ | ⟨k, hs⟩ <;> cases hs
  · intro k p r e
    simp only [List.cons_append, List.cons.injEq] at e
    rw [e.1] at hs
    rcases hs with hs | ⟨n, hs⟩ | ⟨k, hs⟩ <;> cases hs
theorem left_head {t : List S} {m : List Sy} (ht : t.map (·.1) = .left :: m) : ∃ s t1, t = s :: t1 ∧ (s.1 = .left ∨ (∃ n, s.1 = .num n) ∨ ∃ k, s.1 = .leaf k) := by
  cases t with
  | nil => simp at ht
  | cons s t1 => exact ⟨s, t1, rfl, .inl (by simp only [List.map_cons, List.cons.injEq] at ht; exact ht.1)⟩
theorem part_head (e : Ex) (t : List S) (ht : t.map (·.1) = partS e) : ∃ s t1, t = s :: t1 ∧ (s.1 = .left ∨ (∃ n, s.1 = .num n) ∨ ∃ k, s.1 = .leaf k) := by
  unfold partS at ht
  cases e with
  | leaf k n =>
    simp only [isLeaf, if_true, toks] at ht
    match t, ht with
    | [s], ht =>
      simp only [List.map_cons, List.map_nil, List.cons.injEq, and_true] at ht
      refine ⟨s, [], rfl, ?_⟩
      unfold leafS at ht
      split at ht
      · exact .inr (.inl ⟨_, ht⟩)
      · exact .inr (.inr ⟨_, ht⟩)
    | [], ht => simp at ht
    | _ :: _ :: _, ht => simp at ht
  | one k e =>
    simp only [isLeaf, Bool.false_eq_true, if_false, List.cons_append] at ht
    exact left_head ht
  | two k e f =>
    simp only [isLeaf, Bool.false_eq_true, if_false, List.cons_append] at ht
    exact left_head ht
/-- What a primary is, each line is from which on no operator follows. -/
theorem prim_line {e : Ex} {t : List S} (hh : ∃ s t1, t = s :: t1 ∧ (s.1 = .left ∨ (∃ n, s.1 = .num n) ∨ ∃ k, s.1 = .leaf k)) (h : ReadAs 8 t (fun _ => True) e) (n : Nat) (hn : n ≤ 7) : ReadAs n t (Stops n) e := by
  obtain ⟨y, hc, hy, hr⟩ := h
  refine ⟨y, hc, hy, fun rest hs => ?_⟩
  obtain ⟨b1, b2⟩ := head_sure t rest hh
  exact pass_down b1 (7 - n) n 7 (by omega) (Nat.le_refl _) (pass_neg (hr rest trivial) b2) hs
theorem part_line (e : Ex) (h : Part e) (n : Nat) (hn : n ≤ 7) (t : List S) (ht : t.map (·.1) = partS e) (ha : AtL t) : ReadAs n t (Stops n) e :=
  prim_line (part_head e t ht) (h t ht ha) n hn
theorem line_le (k : Int) : line k ≤ 6 ∧ line k ≠ 2 := by
  unfold line
  repeat' split
  all_goals omega
/-- An operator between two things that its line's next one reads. -/
theorem two_line {k : Int} {e f : Ex} (_hk : 7 ≤ k ∧ k ≤ 19) (hc : checkV (flat (.two k e f)) = 0) {t1 t2 : List S} {p : Int} (hp : 0 ≤ p ∧ p ≤ 400) (he : ReadAs (line k + 1) t1 (Stops (line k + 1)) e) (hf : ReadAs (line k + 1) t2 (Stops (line k + 1)) f) :
    ReadAs (line k) (t1 ++ (.bin k, p) :: t2) (Stops (if line k = 3 then 4 else line k)) (.two k e f) := by
  obtain ⟨l6, l2⟩ := line_le k
  obtain ⟨m, hm⟩ : ∃ m, line k = m := ⟨_, rfl⟩
  rw [hm] at l6 l2 he hf ⊢
  obtain ⟨y1, hc1, hy1, hr1⟩ := he
  obtain ⟨y2, hc2, hy2, hr2⟩ := hf
  have hmk := fun here rest => mk_back (k := k) (n := 0) (p := p) (ys := [y1, y2]) (qs := [flat e, flat f]) (here := here) (rest := rest) hp (by simp [hc1, hc2]) (fun z hz => by
    simp at hz
    rcases hz with rfl | rfl
    · exact hy1
    · exact hy2) hc
  refine ⟨_, (hmk [] []).2.1.symm, (hmk [] []).2.2, fun rest hs => ?_⟩
  have hs4 : Stops (m + 1) rest := hs.mono (by split <;> omega)
  obtain ⟨F1, hF1⟩ := hr1 ((.bin k, p) :: (t2 ++ rest)) (fun k' p' r' e' => by
    injection e' with e1 _
    injection e1 with e2 _
    injection e2 with e3
    rw [← e3, hm]; omega)
  obtain ⟨F2, hF2⟩ := hr2 rest hs4
  have m1 := (hmk ((.bin k, p) :: (t2 ++ rest)) rest).1
  have hl : t1 ++ (Sy.bin k, p) :: t2 ++ rest = t1 ++ (.bin k, p) :: (t2 ++ rest) := by simp
  rw [hl]
  refine ⟨F1 + F2 + 3, fun f hf => ?_⟩
  obtain ⟨g, rfl⟩ : ∃ g, f = g + 3 := ⟨f - 3, by omega⟩
  show (if m = 8 then _ else if m = 7 then _ else if m = 2 then _ else _) = _
  rw [if_neg (by omega), if_neg (by omega), if_neg l2, hF1 (g + 2) (by omega)]
  show backR m (go (g + 1) (m + 1) none) (fun z rest => if m = 3 then .ok z rest else go (g + 1) m (some z) rest) y1 ((.bin k, p) :: (t2 ++ rest)) = _
  unfold backR
  simp only
  rw [if_pos hm, hF2 (g + 1) (by omega)]
  show (mk k 0 p [y1, y2] _ rest).then _ = _
  rw [m1]
  show (if m = 3 then R.ok _ rest else go (g + 1) m (some _) rest) = _
  split
  · rfl
  · rename_i h3
    rw [if_neg h3] at hs
    exact back_stops hs
theorem read_down {m : Nat} {t : List S} {e : Ex} (hm : m ≤ 7) (hh : ∃ s t1, t = s :: t1 ∧ (s.1 = .left ∨ (∃ n, s.1 = .num n) ∨ ∃ k, s.1 = .leaf k)) {P : List S → Prop} (h : ReadAs m t P e) (n : Nat) (hn : n ≤ m) (hP : ∀ rest, Stops n rest → P rest) : ReadAs n t (Stops n) e := by
  obtain ⟨y, hc, hy, hr⟩ := h
  refine ⟨y, hc, hy, fun rest hs => ?_⟩
  exact pass_down (head_sure t rest hh).1 (m - n) n m (by omega) hm (hr rest (hP rest hs)) hs
theorem back (e : Ex) : Wf e → OkE e → Full e ∧ Part e := by
  induction e with
  | leaf k n =>
    intro hw ho
    have hp := leaf_part k n hw ho
    exact ⟨fun t ht ha => part_line _ hp 0 (by decide) t ht ha, hp⟩
  | one k e ih =>
    intro hw ho
    obtain ⟨_, hp⟩ := ih hw.2 ho.2
    have hf : Full (.one k e) := by
      intro t ht ha
      rw [toks_one] at ht
      obtain ⟨⟨s, p⟩, t1, rfl⟩ : ∃ s t1, t = s :: t1 := by
        cases t with
        | nil => simp at ht
        | cons s t1 => exact ⟨s, t1, rfl⟩
      simp only [List.map_cons, List.cons.injEq] at ht
      obtain ⟨hs1, ht1⟩ := ht
      have ha1 : AtL t1 := fun u hu => ha u (by simp [hu])
      have hp1 := ha (s, p) (by simp)
      rcases hw.1 with rfl | rfl
      · rw [if_pos rfl] at hs1
        subst hs1
        obtain ⟨y, hc, hy, hr⟩ := part_line e hp 7 (by decide) t1 ht1 ha1
        have hm := fun here rest => mk_back (k := 5) (n := 0) (p := p) (ys := [y]) (qs := [flat e]) (here := here) (rest := rest) hp1 (by simp [hc]) (fun z hz => by simp at hz; subst hz; exact hy) ho.1
        refine ⟨_, (hm [] []).2.1.symm, (hm [] []).2.2, fun rest hs => ?_⟩
        obtain ⟨F, hF⟩ := hr rest (hs.mono (by decide))
        refine pass_down (fun p r e => by cases e) 7 0 7 rfl (Nat.le_refl _) ⟨F + 1, fun f hf => ?_⟩ hs
        obtain ⟨g, rfl⟩ : ∃ g, f = g + 1 := ⟨f - 1, by omega⟩
        show negR (go g 7 none) (go g 8 none) ((.bin 9, p) :: (t1 ++ rest)) = _
        unfold negR
        simp only [if_true]
        rw [hF g (by omega)]
        exact (hm _ rest).1
      · rw [if_neg (by decide)] at hs1
        subst hs1
        obtain ⟨y, hc, hy, hr⟩ := part_line e hp 2 (by decide) t1 ht1 ha1
        have hm := fun here rest => mk_back (k := 6) (n := 0) (p := p) (ys := [y]) (qs := [flat e]) (here := here) (rest := rest) hp1 (by simp [hc]) (fun z hz => by simp at hz; subst hz; exact hy) ho.1
        refine ⟨_, (hm [] []).2.1.symm, (hm [] []).2.2, fun rest hs => ?_⟩
        obtain ⟨F, hF⟩ := hr rest (hs.mono (by decide))
        refine pass_low ⟨F + 1, fun f hf => ?_⟩ hs
        obtain ⟨g, rfl⟩ : ∃ g, f = g + 1 := ⟨f - 1, by omega⟩
        show notR (go g 2 none) (go g 3 none) ((.no, p) :: (t1 ++ rest)) = _
        unfold notR
        simp only
        rw [hF g (by omega)]
        exact (hm _ rest).1
    exact ⟨hf, full_part _ rfl hf⟩
  | two k e f ihe ihf =>
    intro hw ho
    obtain ⟨_, hpe⟩ := ihe hw.2.2.1 ho.2.1
    obtain ⟨_, hpf⟩ := ihf hw.2.2.2 ho.2.2
    have hfull : Full (.two k e f) := by
      intro t ht ha
      rw [toks_two] at ht
      obtain ⟨t1, u, rfl, ht1, hu⟩ := List.map_eq_append_iff.1 ht
      obtain ⟨⟨s, p⟩, t2, rfl⟩ : ∃ s t1, u = s :: t1 := by
        cases u with
        | nil => simp at hu
        | cons s t1 => exact ⟨s, t1, rfl⟩
      simp only [List.map_cons, List.cons.injEq] at hu
      obtain ⟨rfl, ht2⟩ := hu
      have ha1 : AtL t1 := fun u hu => ha u (by simp [hu])
      have ha2 : AtL t2 := fun u hu => ha u (by simp [hu])
      have hp1 := ha (.bin k, p) (by simp)
      have l6 := (line_le k).1
      have h2 := two_line ⟨hw.1, hw.2.1⟩ ho.1 hp1 (part_line e hpe (line k + 1) (by omega) t1 ht1 ha1) (part_line f hpf (line k + 1) (by omega) t2 ht2 ha2)
      obtain ⟨s, t3, e1, hs1⟩ := part_head e t1 ht1
      exact read_down (by omega) ⟨s, t3 ++ (.bin k, p) :: t2, by rw [e1]; rfl, hs1⟩ h2 0 (by omega) (fun rest hs => hs.mono (by split <;> omega))
    exact ⟨hfull, full_part _ rfl hfull⟩

/-! ### Each valid expression is that of a tree -/
theorem tree_of (n : Nat) : ∀ l : List Nd, l.length ≤ n → checkV l = 0 → ∃ e, Wf e ∧ OkE e ∧ (flat e).map core = l.map core := by
  induction n with
  | zero =>
    intro l hl hc
    have := (check_acc hc).2.1
    omega
  | succ n ih =>
    intro l hl hc
    obtain ⟨hr, h0, h60, hsz, _⟩ := check_acc hc
    have hi : l.length - 1 < l.length := by omega
    have hm := node_made hc hi
    rw [hsz, cut_whole h0] at hm
    obtain ⟨k1, k2, k3, k4, k5, k6, hcase⟩ := node_facts hc hi
    obtain ⟨x, hx⟩ : ∃ x, l[l.length - 1] = x := ⟨_, rfl⟩
    rw [hx] at hm k1 k2 k3 k4 k5 k6 hcase
    have hmade : ∀ ps, nodeV x.kind x.n x.at_ ps = (l, 0) → madeL x.kind x.n x.at_ ps = l := by
      intro ps h
      unfold nodeV at h
      split at h
      · split at h
        · rename_i p hp
          have := List.find?_some hp
          unfold badP at this
          simp only [Prod.mk.injEq] at h
          rw [h.2] at this
          simp at this
        · split at h
          · simp only [Prod.mk.injEq] at h; exact h.1
          · rename_i hne
            simp only [Prod.mk.injEq] at h
            exact absurd h.2 hne
      · simp at h
    unfold partsOf at hm
    have hsm : ∀ i, i < l.length - 1 → checkV (cutL l (sz (accV l) i) i) = 0 ∧ (cutL l (sz (accV l) i) i).length ≤ n := by
      intro i hil
      obtain ⟨c1, c2, _⟩ := cut_ok hc (show i < l.length by omega)
      have := (good_sz hr i (by omega)).2.1
      exact ⟨c1, by omega⟩
    rcases hcase with ⟨a0, e1, e2, e3⟩ | ⟨a0, g0, e1, e2, e3⟩ | ⟨a0, g0, gz, e1, e2, e3⟩
    · rw [a0, if_pos rfl] at hm
      have hl2 := hmade _ hm
      have hk4 : x.kind ≤ 4 := by
        unfold arity at a0
        split at a0
        · assumption
        · split at a0 <;> omega
      have hcore : (flat (.leaf x.kind x.n)).map core = l.map core := by
        rw [← hl2]; exact made_core _ _ _ _ _ _ rfl
      refine ⟨.leaf x.kind x.n, ?_, ?_, hcore⟩
      · rcases k4 with h | h
        · by_cases h1 : x.kind = 1
          · exact .inl ⟨h1, k3⟩
          · exact .inr ⟨by omega, hk4, h⟩
        · exact .inl ⟨h, k3⟩
      · exact check_alike hcore.symm (made_at (ps := []) ⟨by decide, by decide⟩ (fun q hq => by cases hq)) hc
    · have hi2 : l.length - 1 - 1 < l.length := by omega
      rw [a0, if_neg (by omega), if_pos rfl, e1, part_ok hc hi2] at hm
      obtain ⟨c1, c2⟩ := hsm (l.length - 1 - 1) (by omega)
      obtain ⟨e, w1, o1, q1⟩ := ih _ c2 c1
      have hn : x.n = 0 := by
        rcases k4 with h | h
        · exact h
        · rw [h] at a0; cases a0
      rw [hn] at hm hmade
      have hl2 := hmade _ hm
      have hcore : (flat (.one x.kind e)).map core = l.map core := by
        rw [← hl2]; exact made_core _ _ _ _ _ _ (by simp [q1])
      have hk : x.kind = 5 ∨ x.kind = 6 := by
        unfold arity at a0
        split at a0
        · omega
        · split at a0 <;> omega
      refine ⟨.one x.kind e, ⟨hk, w1⟩, ⟨?_, o1⟩, hcore⟩
      exact check_alike hcore.symm (made_at ⟨by decide, by decide⟩ (fun q hq => by simp at hq; subst hq; exact flat_at e)) hc
    · have hi2 : l.length - 1 - 1 < l.length := by omega
      obtain ⟨i3, hi3⟩ : ∃ i, l.length - 1 - 1 - sz (accV l) (l.length - 1 - 1) = i := ⟨_, rfl⟩
      rw [hi3] at e1
      rw [a0, if_neg (by omega), if_neg (by omega), e1, e2, part_ok hc hi2, part_ok hc (show i3 < l.length by omega)] at hm
      obtain ⟨c1, c2⟩ := hsm (l.length - 1 - 1) (by omega)
      obtain ⟨c3, c4⟩ := hsm i3 (by omega)
      obtain ⟨e, w1, o1, q1⟩ := ih _ c4 c3
      obtain ⟨f, w2, o2, q2⟩ := ih _ c2 c1
      have hn : x.n = 0 := by
        rcases k4 with h | h
        · exact h
        · rw [h] at a0; cases a0
      rw [hn] at hm hmade
      have hl2 := hmade _ hm
      have hcore : (flat (.two x.kind e f)).map core = l.map core := by
        rw [← hl2]; exact made_core _ _ _ _ _ _ (by simp [q1, q2])
      have hk : 7 ≤ x.kind := by
        unfold arity at a0
        split at a0
        · omega
        · split at a0 <;> omega
      refine ⟨.two x.kind e f, ⟨hk, k2, w1, w2⟩, ⟨?_, o1, o2⟩, hcore⟩
      exact check_alike hcore.symm (made_at ⟨by decide, by decide⟩ (fun q hq => by
        simp at hq
        rcases hq with rfl | rfl
        · exact flat_at e
        · exact flat_at f)) hc
/-- Written with brackets it is read: the symbols of the text of a valid expression are parsed as the same one, all of them. -/
theorem parse_back {l : List Nd} (hc : checkV l = 0) : ∃ e, (flat e).map core = l.map core ∧ Wf e ∧ ∀ t, t.map (·.1) = toks e → AtL t → ∃ y, parse t = .ok y [] ∧ alikeB l y = true := by
  obtain ⟨e, hw, ho, hcr⟩ := tree_of l.length l (Nat.le_refl _) hc
  refine ⟨e, hcr, hw, fun t ht ha => ?_⟩
  obtain ⟨y, hy, _, hr⟩ := (back e hw ho).1 t ht ha
  replace hr := hr [] (fun k p r e => by cases e)
  rw [List.append_nil] at hr
  exact ⟨y, parse_reads hr, decide_eq_true (by rw [← hcr, hy])⟩
end Go.Proofs.YtdinaedknlkicaaGreatDoor.Exprs

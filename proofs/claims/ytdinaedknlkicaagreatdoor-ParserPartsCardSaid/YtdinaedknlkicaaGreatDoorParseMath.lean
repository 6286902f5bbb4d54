/-
  Parsing expressions, plainly (layer 5): symbols of tokens, what is read from a token on, line by line of the grammar. No program in this text.
-/
import Derived.Test.YtdinaedknlkicaaGreatDoorNodeMade
namespace Go.Proofs.YtdinaedknlkicaaGreatDoor.Exprs
open Nodes

/-- What a token is for parsing. -/
inductive Sy where
  | num (n : Int)
  | leaf (kind : Int)
  | left
  | right
  | bin (kind : Int)
  | no
  | other
abbrev S := Sy × Int
/-- What is read: an expression and what is left, or an error and what begins with the token at which it is. -/
inductive R where
  | ok (x : List Nd) (rest : List S)
  | err (code : Int) (rest : List S)
/-- A node of parts, if it is not too great. -/
def mk (k n at_ : Int) (ps : List (List Nd)) (here rest : List S) : R :=
  if 60 < (madeL k n at_ ps).length then .err 4 here
  else if 20 < dp (accV (madeL k n at_ ps)) ((madeL k n at_ ps).length - 1) then .err 34 here
  else .ok (madeL k n at_ ps) rest
/-- The line of the grammar of a binary kind: 0 or, 1 and, 3 comparisons, 4 shifts, 5 sums, 6 products. -/
def line (k : Int) : Nat := if k = 19 then 0 else if k = 18 then 1 else if 12 ≤ k then 3 else if 10 ≤ k then 4 else if 8 ≤ k then 5 else 6
def R.then (r : R) (f : List Nd → List S → R) : R :=
  match r with
  | .ok x rest => f x rest
  | .err c rest => .err c rest
/-- A primary; g reads what is in brackets. -/
def primR (g : List S → R) : List S → R
  | (.num v, p) :: r => mk 1 v p [] ((.num v, p) :: r) r
  | (.leaf k, p) :: r => mk k 0 p [] ((.leaf k, p) :: r) r
  | (.left, _) :: r => (g r).then fun x rest => match rest with | (.right, _) :: rest => .ok x rest | rest => .err 12 rest
  | l => .err 12 l
/-- Signs in front, and "not" in front. -/
def negR (same up : List S → R) : List S → R
  | (.bin k, p) :: r => if k = 9 then (same r).then fun x rest => mk 5 0 p [x] ((.bin k, p) :: r) rest else up ((.bin k, p) :: r)
  | l => up l
def notR (same up : List S → R) : List S → R
  | (.no, p) :: r => (same r).then fun x rest => mk 6 0 p [x] ((.no, p) :: r) rest
  | l => up l
/-- An operator of a line, and what it has behind it. -/
def backR (n : Nat) (down : List S → R) (again : List Nd → List S → R) (x : List Nd) : List S → R
  | (.bin k, p) :: r => if line k = n then (down r).then fun y rest => (mk k 0 p [x, y] ((.bin k, p) :: r) rest).then again else .ok x ((.bin k, p) :: r)
  | l => .ok x l
/-- A line of the grammar read (none), or gone on with behind what is read already (some). -/
def go : Nat → Nat → Option (List Nd) → List S → R
  | 0, _, _, l => .err 0 l
  | f + 1, n, some x, l => backR n (go f (n + 1) none) (fun z rest => if n = 3 then .ok z rest else go f n (some z) rest) x l
  | f + 1, n, none, l =>
    if n = 8 then primR (go f 0 none) l
    else if n = 7 then negR (go f 7 none) (go f 8 none) l
    else if n = 2 then notR (go f 2 none) (go f 3 none) l
    else (go f (n + 1) none l).then fun x rest => go f n (some x) rest
/-- What Parse reads from the beginning of a list of symbols on. -/
def parse (l : List S) : R := go (20 * l.length + 40) 0 none l
theorem then_ok {r : R} {f : List Nd → List S → R} {x : List Nd} {rest : List S} (h : r.then f = .ok x rest) : ∃ y m, r = .ok y m ∧ f y m = .ok x rest := by
  cases r with
  | ok y m => exact ⟨y, m, rfl, h⟩
  | err c m => cases h
theorem mk_ok {k n at_ : Int} {ps : List (List Nd)} {here rest : List S} {x : List Nd} {m : List S} (h : mk k n at_ ps here rest = .ok x m) : x = madeL k n at_ ps ∧ m = rest ∧ x.length ≤ 60 ∧ dp (accV x) (x.length - 1) ≤ 20 := by
  unfold mk at h
  split at h
  · cases h
  split at h
  · cases h
  · injection h with h1 h2
    subst h1
    exact ⟨rfl, h2.symm, by omega, by omega⟩

/-! ### What is taken from the list -/
/-- A token that is that of a node. -/
def isNode : Sy → Bool
  | .left => false
  | .right => false
  | _ => true
def nodeAts (l : List S) : List Int := (l.filter fun s => isNode s.1).map (·.2)
theorem nodeAts_append (l m : List S) : nodeAts (l ++ m) = nodeAts l ++ nodeAts m := by
  unfold nodeAts; rw [List.filter_append, List.map_append]
theorem made_ats (k n at_ : Int) (ps : List (List Nd)) (h : ps.length ≤ 2) : (madeL k n at_ ps).map (·.at_) = (ps.map (fun p => p.map (·.at_))).flatten ++ [at_] := by
  match ps, h with
  | [], _ => rfl
  | [p], _ => simp [madeL]
  | [p, q], _ => simp [madeL, Function.comp_def, shift]
/-- Brackets that match: behind d that are open. -/
def bal : Nat → List S → Option Nat
  | d, [] => some d
  | d, (.left, _) :: l => bal (d + 1) l
  | 0, (.right, _) :: _ => none
  | d + 1, (.right, _) :: l => bal d l
  | d, _ :: l => bal d l
/-- The tokens that are taken: those of the nodes, and brackets that match. -/
def Taken (a : List Nd) (l : List S) (x : List Nd) (rest : List S) : Prop :=
  ∃ t, l = t ++ rest ∧ (x.map (·.at_)).Perm (a.map (·.at_) ++ nodeAts t) ∧ ∀ d m, bal d (t ++ m) = bal d m
theorem Taken.none (a : List Nd) (l : List S) : Taken a l a l := ⟨[], rfl, by simp [nodeAts], fun _ _ => rfl⟩
theorem Taken.trans {a b x : List Nd} {l m rest : List S} (h : Taken a l b m) (h2 : Taken b m x rest) : Taken a l x rest := by
  obtain ⟨t, rfl, h1, hb⟩ := h
  obtain ⟨u, rfl, h3, hb2⟩ := h2
  refine ⟨t ++ u, by rw [List.append_assoc], ?_, fun d m => by rw [List.append_assoc, hb, hb2]⟩
  rw [nodeAts_append, ← List.append_assoc]
  exact h3.trans (List.Perm.append_right _ h1)
theorem bal_node (s : S) (h : isNode s.1 = true) (d : Nat) (m : List S) : bal d (s :: m) = bal d m := by
  obtain ⟨y, p⟩ := s
  cases y <;> first | (cases h; done) | (cases d <;> rfl)
theorem taken_node {s : S} (h : isNode s.1 = true) {k n : Int} {r : List S} : Taken [] (s :: r) (madeL k n s.2 []) r :=
  ⟨[s], rfl, by simp [madeL, nodeAts, h], fun d m => bal_node s h d m⟩
theorem prim_taken {g : List S → R} (hg : ∀ l x rest, g l = .ok x rest → Taken [] l x rest) {l : List S} {x : List Nd} {rest : List S} (h : primR g l = .ok x rest) : Taken [] l x rest := by
  unfold primR at h
  split at h
  · obtain ⟨rfl, rfl, _⟩ := mk_ok h
    exact taken_node (s := (.num _, _)) rfl
  · obtain ⟨rfl, rfl, _⟩ := mk_ok h
    exact taken_node (s := (.leaf _, _)) rfl
  · rename_i p0 r0
    obtain ⟨y, m, h1, h2⟩ := then_ok h
    obtain ⟨t, rfl, hp, hb⟩ := hg _ _ _ h1
    split at h2
    · rename_i q rest2
      injection h2 with h3 h4
      subst h3; subst h4
      refine ⟨(.left, p0) :: t ++ [(.right, q)], by simp, ?_, fun d m => ?_⟩
      · have : nodeAts ((Sy.left, p0) :: t ++ [(Sy.right, q)]) = nodeAts t := by
          rw [nodeAts_append]
          simp [nodeAts, isNode]
        rw [this]; exact hp
      · show bal (d + 1) (t ++ [(.right, q)] ++ m) = _
        rw [List.append_assoc, hb]
        rfl
    · cases h2
  · cases h
theorem neg_taken {g u : List S → R} (hg : ∀ l x rest, g l = .ok x rest → Taken [] l x rest) (hu : ∀ l x rest, u l = .ok x rest → Taken [] l x rest) {l : List S} {x : List Nd} {rest : List S} (h : negR g u l = .ok x rest) : Taken [] l x rest := by
  unfold negR at h
  split at h
  · rename_i k0 p0 r0
    split at h
    · obtain ⟨y, m, h1, h2⟩ := then_ok h
      obtain ⟨t, rfl, hp, hb⟩ := hg _ _ _ h1
      obtain ⟨rfl, rfl, _⟩ := mk_ok h2
      refine ⟨(.bin k0, p0) :: t, by simp, ?_, fun d m => ?_⟩
      · rw [made_ats _ _ _ _ (by simp)]
        simp only [List.map_cons, List.map_nil, List.flatten_cons, List.flatten_nil, List.append_nil, List.nil_append]
        have e : nodeAts ((Sy.bin k0, p0) :: t) = p0 :: nodeAts t := rfl
        rw [e]
        exact (List.perm_append_singleton _ _).trans (List.Perm.cons _ (by simpa using hp))
      · show bal d ((.bin k0, p0) :: (t ++ m)) = _
        rw [bal_node _ rfl, hb]
    · exact hu _ _ _ h
  · exact hu _ _ _ h
theorem not_taken {g u : List S → R} (hg : ∀ l x rest, g l = .ok x rest → Taken [] l x rest) (hu : ∀ l x rest, u l = .ok x rest → Taken [] l x rest) {l : List S} {x : List Nd} {rest : List S} (h : notR g u l = .ok x rest) : Taken [] l x rest := by
  unfold notR at h
  split at h
  · rename_i p0 r0
    obtain ⟨y, m, h1, h2⟩ := then_ok h
    obtain ⟨t, rfl, hp, hb⟩ := hg _ _ _ h1
    obtain ⟨rfl, rfl, _⟩ := mk_ok h2
    refine ⟨(.no, p0) :: t, by simp, ?_, fun d m => ?_⟩
    · rw [made_ats _ _ _ _ (by simp)]
      simp only [List.map_cons, List.map_nil, List.flatten_cons, List.flatten_nil, List.append_nil, List.nil_append]
      have e : nodeAts ((Sy.no, p0) :: t) = p0 :: nodeAts t := rfl
      rw [e]
      exact (List.perm_append_singleton _ _).trans (List.Perm.cons _ (by simpa using hp))
    · show bal d ((.no, p0) :: (t ++ m)) = _
      rw [bal_node _ rfl, hb]
  · exact hu _ _ _ h
theorem back_taken {n : Nat} {g : List S → R} {ag : List Nd → List S → R} (hg : ∀ l x rest, g l = .ok x rest → Taken [] l x rest) (ha : ∀ z l x rest, ag z l = .ok x rest → Taken z l x rest) {a : List Nd} {l : List S} {x : List Nd} {rest : List S} (h : backR n g ag a l = .ok x rest) : Taken a l x rest := by
  unfold backR at h
  split at h
  · rename_i k0 p0 r0
    split at h
    · obtain ⟨y, m, h1, h2⟩ := then_ok h
      obtain ⟨z, m2, h3, h4⟩ := then_ok h2
      obtain ⟨rfl, rfl, _⟩ := mk_ok h3
      obtain ⟨t, rfl, hp, hb⟩ := hg _ _ _ h1
      refine Taken.trans ?_ (ha _ _ _ _ h4)
      refine ⟨(.bin k0, p0) :: t, by simp, ?_, fun d m => ?_⟩
      · rw [made_ats _ _ _ _ (by simp)]
        simp only [List.map_cons, List.map_nil, List.flatten_cons, List.flatten_nil, List.append_nil]
        have e : nodeAts ((Sy.bin k0, p0) :: t) = p0 :: nodeAts t := rfl
        rw [e, List.append_assoc]
        refine List.Perm.append_left _ ?_
        exact (List.perm_append_singleton _ _).trans (List.Perm.cons _ (by simpa using hp))
      · show bal d ((.bin k0, p0) :: (t ++ m)) = _
        rw [bal_node _ rfl, hb]
    · injection h with h1 h2
      subst h1; subst h2
      exact Taken.none _ _
  · injection h with h1 h2
    subst h1; subst h2
    exact Taken.none _ _
theorem go_taken (f : Nat) : ∀ (n : Nat) (acc : Option (List Nd)) (l : List S) (x : List Nd) (rest : List S), go f n acc l = .ok x rest → Taken (acc.getD []) l x rest := by
  induction f with
  | zero => intro n acc l x rest h; cases h
  | succ f ih =>
    intro n acc l x rest h
    cases acc with
    | some a =>
      refine back_taken (n := n) (fun l x rest h => ih _ none l x rest h) (fun z l x rest h => ?_) h
      split at h
      · injection h with h1 h2
        subst h1; subst h2
        exact Taken.none _ _
      · exact ih _ (some z) l x rest h
    | none =>
      unfold go at h
      split at h
      · exact prim_taken (fun l x rest h => ih _ none l x rest h) h
      split at h
      · exact neg_taken (fun l x rest h => ih _ none l x rest h) (fun l x rest h => ih _ none l x rest h) h
      split at h
      · exact not_taken (fun l x rest h => ih _ none l x rest h) (fun l x rest h => ih _ none l x rest h) h
      · obtain ⟨y, m, h1, h2⟩ := then_ok h
        exact Taken.trans (ih _ none _ _ _ h1) (ih _ (some y) _ _ _ h2)
/-! ### What is read is valid -/
def Fine (s : S) : Prop := (0 ≤ s.2 ∧ s.2 ≤ 400) ∧ match s.1 with
  | .num n => 0 ≤ n
  | .leaf k => 2 ≤ k ∧ k ≤ 4
  | .bin k => 7 ≤ k ∧ k ≤ 19
  | _ => True
def FineL (l : List S) : Prop := ∀ s ∈ l, Fine s
theorem FineL.head {s : S} {l : List S} (h : FineL (s :: l)) : Fine s := h s (by simp)
theorem FineL.tail {s : S} {l : List S} (h : FineL (s :: l)) : FineL l := fun u hu => h u (by simp [hu])
theorem FineL.rest {a x : List Nd} {l rest : List S} (h : FineL l) (ht : Taken a l x rest) : FineL rest := by
  obtain ⟨t, rfl, _⟩ := ht
  exact fun u hu => h u (by simp [hu])
theorem mk_valid {k n at_ : Int} {ps : List (List Nd)} {here rest : List S} {x : List Nd} {m : List S} (h : mk k n at_ ps here rest = .ok x m) (h1 : 1 ≤ k ∧ k ≤ 19 ∧ arity k = ps.length ∧ 0 ≤ n ∧ (n = 0 ∨ k = 1) ∧ 0 ≤ at_ ∧ at_ ≤ 400) (h2 : ∀ p ∈ ps, checkV p = 0) : checkV x = 0 := by
  obtain ⟨rfl, _, h60, h20⟩ := mk_ok h
  rw [made_check h1 h2, if_neg (by omega), if_neg (by omega)]
theorem arity_bin {k : Int} (h : 7 ≤ k) : arity k = 2 := by unfold arity; rw [if_neg (by omega), if_neg (by omega)]
theorem arity_leaf {k : Int} (h : k ≤ 4) : arity k = 0 := by unfold arity; rw [if_pos h]
theorem go_valid (f : Nat) : ∀ (n : Nat) (acc : Option (List Nd)) (l : List S) (x : List Nd) (rest : List S), go f n acc l = .ok x rest → FineL l → (∀ a, acc = some a → checkV a = 0) → checkV x = 0 := by
  induction f with
  | zero => intro n acc l x rest h; cases h
  | succ f ih =>
    intro n acc l x rest h hl ha
    cases acc with
    | some a =>
      replace h : backR n (go f (n + 1) none) (fun z rest => if n = 3 then .ok z rest else go f n (some z) rest) a l = .ok x rest := h
      unfold backR at h
      split at h
      · rename_i k p r
        split at h
        · obtain ⟨y, m, h1, h2⟩ := then_ok h
          obtain ⟨z, m2, h3, h4⟩ := then_ok h2
          have hy := ih _ none _ _ _ h1 hl.tail (fun a e => by cases e)
          have hh := hl.head
          have hz := mk_valid h3 ⟨by have := hh.2; omega, hh.2.2, arity_bin hh.2.1, Int.le_refl _, .inl rfl, hh.1.1, hh.1.2⟩ (fun q hq => by
            simp at hq
            rcases hq with rfl | rfl
            · exact ha _ rfl
            · exact hy)
          obtain ⟨_, rfl, _⟩ := mk_ok h3
          split at h4
          · injection h4 with h5 h6
            subst h5; exact hz
          · exact ih _ (some z) _ _ _ h4 (hl.tail.rest (go_taken f _ none _ _ _ h1)) (fun a e => by cases e; exact hz)
        · injection h with h1 h2
          subst h1; exact ha _ rfl
      · injection h with h1 h2
        subst h1; exact ha _ rfl
    | none =>
      unfold go at h
      split at h
      · unfold primR at h
        split at h
        · have hh := hl.head
          exact mk_valid h ⟨by decide, by decide, rfl, hh.2, .inr rfl, hh.1.1, hh.1.2⟩ (fun q hq => by cases hq)
        · have hh := hl.head
          exact mk_valid h ⟨by have := hh.2; omega, by have := hh.2; omega, arity_leaf hh.2.2, Int.le_refl _, .inl rfl, hh.1.1, hh.1.2⟩ (fun q hq => by cases hq)
        · obtain ⟨y, m, h1, h2⟩ := then_ok h
          have hy := ih _ none _ _ _ h1 hl.tail (fun a e => by cases e)
          split at h2
          · injection h2 with h3 h4
            subst h3; exact hy
          · cases h2
        · cases h
      split at h
      · unfold negR at h
        split at h
        · split at h
          · obtain ⟨y, m, h1, h2⟩ := then_ok h
            have hh := hl.head
            have hy := ih _ none _ _ _ h1 hl.tail (fun a e => by cases e)
            exact mk_valid h2 ⟨by decide, by decide, rfl, Int.le_refl _, .inl rfl, hh.1.1, hh.1.2⟩ (fun q hq => by simp at hq; subst hq; exact hy)
          · exact ih _ none _ _ _ h hl (fun a e => by cases e)
        · exact ih _ none _ _ _ h hl (fun a e => by cases e)
      split at h
      · unfold notR at h
        split at h
        · obtain ⟨y, m, h1, h2⟩ := then_ok h
          have hh := hl.head
          have hy := ih _ none _ _ _ h1 hl.tail (fun a e => by cases e)
          exact mk_valid h2 ⟨by decide, by decide, rfl, Int.le_refl _, .inl rfl, hh.1.1, hh.1.2⟩ (fun q hq => by simp at hq; subst hq; exact hy)
        · exact ih _ none _ _ _ h hl (fun a e => by cases e)
      · obtain ⟨y, m, h1, h2⟩ := then_ok h
        have hy := ih _ none _ _ _ h1 hl (fun a e => by cases e)
        exact ih _ (some y) _ _ _ h2 (hl.rest (go_taken f _ none _ _ _ h1)) (fun a e => by cases e; exact hy)

/-! ### Something is read -/
theorem taken_less {l : List S} {x : List Nd} {rest : List S} (h : Taken [] l x rest) (hx : x ≠ []) : rest.length < l.length := by
  obtain ⟨t, rfl, hp, _⟩ := h
  rw [List.length_append]
  cases t with
  | nil =>
    exfalso
    have := hp.length_eq
    simp [nodeAts] at this
    exact hx this
  | cons s t => simp only [List.length_cons]; omega
theorem made_ne (k n at_ : Int) (ps : List (List Nd)) : madeL k n at_ ps ≠ [] := by
  match ps with
  | [] => simp [madeL]
  | [p] => simp [madeL]
  | p :: q :: r => simp [madeL]
theorem go_ne (f : Nat) : ∀ (n : Nat) (acc : Option (List Nd)) (l : List S) (x : List Nd) (rest : List S), go f n acc l = .ok x rest → (∀ a, acc = some a → a ≠ []) → x ≠ [] := by
  induction f with
  | zero => intro n acc l x rest h; cases h
  | succ f ih =>
    intro n acc l x rest h ha
    cases acc with
    | some a =>
      replace h : backR n (go f (n + 1) none) (fun z rest => if n = 3 then .ok z rest else go f n (some z) rest) a l = .ok x rest := h
      unfold backR at h
      split at h
      · split at h
        · obtain ⟨y, m, h1, h2⟩ := then_ok h
          obtain ⟨z, m2, h3, h4⟩ := then_ok h2
          obtain ⟨rfl, _⟩ := mk_ok h3
          split at h4
          · injection h4 with h5 h6
            subst h5; exact made_ne _ _ _ _
          · exact ih _ _ _ _ _ h4 (fun a e => by cases e; exact made_ne _ _ _ _)
        · injection h with h1 h2
          subst h1; exact ha _ rfl
      · injection h with h1 h2
        subst h1; exact ha _ rfl
    | none =>
      unfold go at h
      split at h
      · unfold primR at h
        split at h
        · obtain ⟨rfl, _⟩ := mk_ok h; exact made_ne _ _ _ _
        · obtain ⟨rfl, _⟩ := mk_ok h; exact made_ne _ _ _ _
        · obtain ⟨y, m, h1, h2⟩ := then_ok h
          have hy := ih _ none _ _ _ h1 (fun a e => by cases e)
          split at h2
          · injection h2 with h3 h4
            subst h3; exact hy
          · cases h2
        · cases h
      split at h
      · unfold negR at h
        split at h
        · split at h
          · obtain ⟨y, m, h1, h2⟩ := then_ok h
            obtain ⟨rfl, _⟩ := mk_ok h2; exact made_ne _ _ _ _
          · exact ih _ none _ _ _ h (fun a e => by cases e)
        · exact ih _ none _ _ _ h (fun a e => by cases e)
      split at h
      · unfold notR at h
        split at h
        · obtain ⟨y, m, h1, h2⟩ := then_ok h
          obtain ⟨rfl, _⟩ := mk_ok h2; exact made_ne _ _ _ _
        · exact ih _ none _ _ _ h (fun a e => by cases e)
      · obtain ⟨y, m, h1, h2⟩ := then_ok h
        have hy := ih _ none _ _ _ h1 (fun a e => by cases e)
        exact ih _ (some y) _ _ _ h2 (fun a e => by cases e; exact hy)
theorem go_less {f n : Nat} {l : List S} {x : List Nd} {rest : List S} (h : go f n none l = .ok x rest) : rest.length < l.length :=
  taken_less (go_taken f n none l x rest h) (go_ne f n none l x rest h (fun a e => by cases e))
end Go.Proofs.YtdinaedknlkicaaGreatDoor.Exprs

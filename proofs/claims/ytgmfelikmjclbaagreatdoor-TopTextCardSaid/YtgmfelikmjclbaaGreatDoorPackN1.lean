/-
  Texts of this seat in one: NodeMath; NodeLaws; NodeMade; KindMath.
-/
import Init
/-
  Expressions as lists of nodes, plainly (layer 4): sizes and depths of all nodes, what is valid, the expression of a node, what is made of parts. No program in this text.
-/
namespace Go.Proofs.YtgmfelikmjclbaaGreatDoor.Nodes

structure Nd where
  kind : Int
  n : Int
  a : Int
  b : Int
  at_ : Int
def full (x : Nd) : Int × Int × Int × Int × Int := (x.kind, x.n, x.a, x.b, x.at_)
def core (x : Nd) : Int × Int × Int × Int := (x.kind, x.n, x.a, x.b)
theorem full_inj {x y : Nd} (h : full x = full y) : x = y := by
  cases x; cases y; simp [full] at h ⊢; exact h
/-- How many parts a kind has. -/
def arity (k : Int) : Nat := if k ≤ 4 then 0 else if k ≤ 6 then 1 else 2
theorem arity_cases (k : Int) : arity k = 0 ∨ arity k = 1 ∨ arity k = 2 := by
  unfold arity; split
  · exact .inl rfl
  split
  · exact .inr (.inl rfl)
  · exact .inr (.inr rfl)
/-- A node by itself is right, with parts that are told. -/
def rightB (x : Nd) (a b : Int) : Bool := decide (1 ≤ x.kind ∧ x.kind ≤ 19 ∧ 0 ≤ x.n ∧ (x.n = 0 ∨ x.kind = 1) ∧ 0 ≤ x.at_ ∧ x.at_ ≤ 400 ∧ x.a = a ∧ x.b = b)
theorem right_iff {x : Nd} {a b : Int} : rightB x a b = true ↔ (1 ≤ x.kind ∧ x.kind ≤ 19 ∧ 0 ≤ x.n ∧ (x.n = 0 ∨ x.kind = 1) ∧ 0 ≤ x.at_ ∧ x.at_ ≤ 400 ∧ x.a = a ∧ x.b = b) := by
  unfold rightB; exact decide_eq_true_iff

/-! ### Sizes and depths -/
abbrev Acc := List (Nat × Nat)
def sz (acc : Acc) (i : Nat) : Nat := ((acc[i]?).getD (0, 0)).1
def dp (acc : Acc) (i : Nat) : Nat := ((acc[i]?).getD (0, 0)).2
/-- Size and depth of a node behind others. -/
def step (acc : Acc) (x : Nd) : Option (Nat × Nat) :=
  if arity x.kind = 0 then (if rightB x 0 0 then some (1, 1) else none)
  else if acc.length = 0 then none
  else if arity x.kind = 1 then (if rightB x ((acc.length - 1 : Nat) : Int) 0 then some (1 + sz acc (acc.length - 1), 1 + dp acc (acc.length - 1)) else none)
  else if acc.length - 1 < sz acc (acc.length - 1) then none
  else if rightB x ((acc.length - 1 - sz acc (acc.length - 1) : Nat) : Int) ((acc.length - 1 : Nat) : Int) then
    some (1 + sz acc (acc.length - 1) + sz acc (acc.length - 1 - sz acc (acc.length - 1)), max (1 + dp acc (acc.length - 1)) (1 + dp acc (acc.length - 1 - sz acc (acc.length - 1))))
  else none
def run : Acc → List Nd → Option Acc
  | acc, [] => some acc
  | acc, x :: l => (step acc x).bind fun p => run (acc ++ [p]) l
theorem run_append (l m : List Nd) : ∀ acc, run acc (l ++ m) = (run acc l).bind fun acc' => run acc' m := by
  induction l with
  | nil => intro acc; rfl
  | cons x l ih =>
    intro acc
    show (step acc x).bind (fun p => run (acc ++ [p]) (l ++ m)) = ((step acc x).bind fun p => run (acc ++ [p]) l).bind _
    cases step acc x with
    | none => rfl
    | some p => exact ih _
theorem run_one (acc : Acc) (x : Nd) : run acc [x] = (step acc x).map fun p => acc ++ [p] := by
  show (step acc x).bind (fun p => some (acc ++ [p])) = _
  cases step acc x <;> rfl
theorem run_length (l : List Nd) : ∀ acc r, run acc l = some r → r.length = acc.length + l.length := by
  induction l with
  | nil => intro acc r h; cases h; rfl
  | cons x l ih =>
    intro acc r h
    replace h : ((step acc x).bind fun p => run (acc ++ [p]) l) = some r := h
    cases hs : step acc x with
    | none => rw [hs] at h; cases h
    | some p =>
      rw [hs] at h
      have := ih _ _ h
      simp only [List.length_append, List.length_cons, List.length_nil] at this ⊢
      omega
/-- The sizes of a beginning are the beginning of the sizes. -/
theorem run_take {l : List Nd} {r : Acc} (h : run [] l = some r) (k : Nat) (hk : k ≤ l.length) : run [] (l.take k) = some (r.take k) := by
  induction k with
  | zero => rfl
  | succ k ih =>
    have hlt : k < l.length := by omega
    have h1 := ih (by omega)
    have e : l = l.take (k + 1) ++ l.drop (k + 1) := (List.take_append_drop _ _).symm
    rw [List.take_succ_eq_append_getElem hlt, run_append, h1]
    show run (r.take k) [l[k]] = _
    rw [e, run_append, List.take_succ_eq_append_getElem hlt, run_append, h1] at h
    replace h : (run (r.take k) [l[k]]).bind (fun acc' => run acc' (l.drop (k + 1))) = some r := h
    rw [run_one] at h ⊢
    cases hs : step (r.take k) l[k] with
    | none => rw [hs] at h; cases h
    | some p =>
      rw [hs] at h
      replace h : run (r.take k ++ [p]) (l.drop (k + 1)) = some r := h
      have hr : (r.take k).length = k := by
        have := run_length _ _ _ h1
        rw [this, List.length_take]; simp; omega
      have hpre : (r.take k ++ [p]) <+: r := by
        have pre : ∀ (m : List Nd) (a r : Acc), run a m = some r → a <+: r := by
          intro m
          induction m with
          | nil => intro a r h; cases h; exact List.prefix_refl _
          | cons x m ih =>
            intro a r h
            replace h : ((step a x).bind fun p => run (a ++ [p]) m) = some r := h
            cases hs : step a x with
            | none => rw [hs] at h; cases h
            | some p => rw [hs] at h; exact (List.prefix_append a [p]).trans (ih _ _ h)
        exact pre _ _ _ h
      have := List.prefix_iff_eq_take.1 hpre
      rw [List.length_append, hr] at this
      show some (r.take k ++ [p]) = _
      exact congrArg some this
theorem sz_take {r : Acc} {k i : Nat} (h : i < k) : sz (r.take k) i = sz r i := by
  unfold sz; rw [List.getElem?_take_of_lt h]
theorem dp_take {r : Acc} {k i : Nat} (h : i < k) : dp (r.take k) i = dp r i := by
  unfold dp; rw [List.getElem?_take_of_lt h]
theorem at_eq {r : Acc} {i : Nat} (h : i < r.length) : r[i]? = some (sz r i, dp r i) := by
  unfold sz dp; rw [List.getElem?_eq_getElem h]; rfl

/-- What a node's place, size and depth have to do with those in front. -/
def Good (acc : Acc) (i : Nat) (x : Nd) : Prop :=
  (arity x.kind = 0 ∧ sz acc i = 1 ∧ dp acc i = 1 ∧ rightB x 0 0 = true) ∨
  (arity x.kind = 1 ∧ 1 ≤ i ∧ sz acc i = 1 + sz acc (i - 1) ∧ dp acc i = 1 + dp acc (i - 1) ∧ rightB x ((i - 1 : Nat) : Int) 0 = true) ∨
  (arity x.kind = 2 ∧ 1 ≤ i ∧ sz acc (i - 1) ≤ i - 1 ∧ sz acc i = 1 + sz acc (i - 1) + sz acc (i - 1 - sz acc (i - 1)) ∧ dp acc i = max (1 + dp acc (i - 1)) (1 + dp acc (i - 1 - sz acc (i - 1))) ∧
    rightB x ((i - 1 - sz acc (i - 1) : Nat) : Int) ((i - 1 : Nat) : Int) = true)
theorem step_good {r : Acc} {i : Nat} {x : Nd} (hi : i < r.length) : step (r.take i) x = r[i]? ↔ Good r i x := by
  have hl : (r.take i).length = i := by rw [List.length_take]; omega
  have hsome := at_eq hi
  unfold step Good
  rw [hl, hsome]
  rcases arity_cases x.kind with h | h | h
  · rw [h, if_pos rfl]
    constructor
    · intro e
      split at e
      · rename_i hr
        simp only [Option.some.injEq, Prod.mk.injEq] at e
        exact .inl ⟨rfl, e.1.symm, e.2.symm, hr⟩
      · cases e
    · rintro (⟨_, h1, h2, h3⟩ | ⟨h1, _⟩ | ⟨h1, _⟩)
      · rw [if_pos h3, h1, h2]
      · omega
      · omega
  · rw [h, if_neg (by omega)]
    constructor
    · intro e
      split at e
      · cases e
      rename_i h0
      rw [if_pos rfl] at e
      split at e
      · rename_i hr
        simp only [Option.some.injEq, Prod.mk.injEq] at e
        rw [sz_take (by omega), dp_take (by omega)] at e
        exact .inr (.inl ⟨rfl, by omega, e.1.symm, e.2.symm, hr⟩)
      · cases e
    · rintro (⟨h1, _⟩ | ⟨_, h1, h2, h3, h4⟩ | ⟨h1, _⟩)
      · omega
      · rw [if_neg (by omega), if_pos rfl, if_pos h4, h2, h3, sz_take (by omega), dp_take (by omega)]
      · omega
  · rw [h, if_neg (by omega)]
    constructor
    · intro e
      split at e
      · cases e
      rename_i h0
      rw [if_neg (by omega)] at e
      split at e
      · cases e
      rename_i hz
      rw [sz_take (by omega)] at hz
      split at e
      · rename_i hr
        simp only [Option.some.injEq, Prod.mk.injEq] at e
        rw [sz_take (by omega), sz_take (by omega), dp_take (by omega), dp_take (by omega)] at e
        rw [sz_take (by omega)] at hr
        exact .inr (.inr ⟨rfl, by omega, by omega, e.1.symm, e.2.symm, hr⟩)
      · cases e
    · rintro (⟨h1, _⟩ | ⟨h1, _⟩ | ⟨_, h1, h2, h3, h4, h5⟩)
      · omega
      · omega
      · have e1 : sz (r.take i) (i - 1) = sz r (i - 1) := sz_take (by omega)
        rw [if_neg (by omega), if_neg (by omega), e1, if_neg (by omega), if_pos h5, h3, h4, sz_take (by omega), dp_take (by omega), dp_take (by omega)]
theorem run_good {l : List Nd} {r : Acc} : run [] l = some r ↔ r.length = l.length ∧ ∀ i x, l[i]? = some x → Good r i x := by
  constructor
  · intro h
    have hl : r.length = l.length := by have := run_length _ _ _ h; simpa using this
    refine ⟨hl, fun i x hx => ?_⟩
    obtain ⟨hi, hx⟩ := List.getElem?_eq_some_iff.1 hx
    have h1 := run_take h i (by omega)
    have h2 := run_take h (i + 1) (by omega)
    rw [List.take_succ_eq_append_getElem hi, run_append, h1] at h2
    replace h2 : run (r.take i) [l[i]] = some (r.take (i + 1)) := h2
    rw [run_one, hx] at h2
    rw [← step_good (by omega)]
    cases hs : step (r.take i) x with
    | none => rw [hs] at h2; cases h2
    | some p =>
      rw [hs] at h2
      simp only [Option.map_some, Option.some.injEq] at h2
      rw [List.take_succ_eq_append_getElem (show i < r.length by omega)] at h2
      have := List.append_cancel_left h2
      rw [List.getElem?_eq_getElem (by omega)]
      simp only [List.cons.injEq, and_true] at this
      rw [this]
  · rintro ⟨hl, hg⟩
    have all : ∀ k, k ≤ l.length → run [] (l.take k) = some (r.take k) := by
      intro k
      induction k with
      | zero => intro _; rfl
      | succ k ih =>
        intro hk
        have hlt : k < l.length := by omega
        rw [List.take_succ_eq_append_getElem hlt, run_append, ih (by omega)]
        show run (r.take k) [l[k]] = _
        rw [run_one, (step_good (by omega)).2 (hg k l[k] (List.getElem?_eq_getElem hlt)), List.getElem?_eq_getElem (by omega), List.take_succ_eq_append_getElem (by omega)]
        rfl
    have := all l.length (Nat.le_refl _)
    rwa [List.take_length, ← hl, List.take_length] at this

/-! ### All nodes are nested -/
theorem good_sz {l : List Nd} {r : Acc} (h : run [] l = some r) : ∀ i, i < l.length → 1 ≤ sz r i ∧ sz r i ≤ i + 1 ∧ 1 ≤ dp r i ∧ dp r i ≤ sz r i := by
  have hg := (run_good.1 h).2
  intro i
  induction i using Nat.strongRecOn with
  | ind i ih =>
    intro hi
    rcases hg i _ (List.getElem?_eq_getElem hi) with ⟨_, h1, h2, _⟩ | ⟨_, h0, h1, h2, _⟩ | ⟨_, h0, hz, h1, h2, _⟩
    · omega
    · have := ih (i - 1) (by omega) (by omega)
      omega
    · have a1 := ih (i - 1) (by omega) (by omega)
      have a2 := ih (i - 1 - sz r (i - 1)) (by omega) (by omega)
      omega
theorem good_nest {l : List Nd} {r : Acc} (h : run [] l = some r) : ∀ i, i < l.length → ∀ j, j ≤ i → i + 1 ≤ j + sz r i → i + sz r j ≤ j + sz r i ∧ dp r j ≤ dp r i := by
  have hg := (run_good.1 h).2
  have hs := good_sz h
  intro i
  induction i using Nat.strongRecOn with
  | ind i ih =>
    intro hi j hj hl
    by_cases he : j = i
    · subst he; exact ⟨Nat.le_refl _, Nat.le_refl _⟩
    rcases hg i _ (List.getElem?_eq_getElem hi) with ⟨_, h1, h2, _⟩ | ⟨_, h0, h1, h2, _⟩ | ⟨_, h0, hz, h1, h2, _⟩
    · omega
    · have := ih (i - 1) (by omega) (by omega) j (by omega) (by omega)
      omega
    · by_cases hlast : i ≤ j + sz r (i - 1)
      · have := ih (i - 1) (by omega) (by omega) j (by omega) (by omega)
        omega
      · have a2 := hs (i - 1 - sz r (i - 1)) (by omega)
        have := ih (i - 1 - sz r (i - 1)) (by omega) (by omega) j (by omega) (by omega)
        omega

/-! ### What is valid -/
def checkV (l : List Nd) : Int :=
  if 60 < l.length then 4 else
    match run [] l with
    | none => 8
    | some r => if 0 < l.length ∧ sz r (l.length - 1) = l.length then (if 20 < dp r (l.length - 1) then 34 else 0) else 8
theorem check_ok {l : List Nd} : checkV l = 0 ↔ ∃ r, run [] l = some r ∧ 0 < l.length ∧ l.length ≤ 60 ∧ sz r (l.length - 1) = l.length ∧ dp r (l.length - 1) ≤ 20 := by
  unfold checkV
  constructor
  · intro h
    split at h
    · simp at h
    cases hr : run [] l with
    | none => rw [hr] at h; simp at h
    | some r =>
      rw [hr] at h
      simp only at h
      split at h
      · rename_i h1
        split at h
        · simp at h
        · exact ⟨r, rfl, h1.1, by omega, h1.2, by omega⟩
      · simp at h
  · rintro ⟨r, hr, h0, h60, h1, h2⟩
    rw [if_neg (by omega), hr]
    simp only
    rw [if_pos ⟨h0, h1⟩, if_neg (by omega)]
/-- Sizes and depths of a valid list; of another one: none. -/
def accV (l : List Nd) : Acc := (run [] l).getD []
theorem check_acc {l : List Nd} (h : checkV l = 0) : run [] l = some (accV l) ∧ 0 < l.length ∧ l.length ≤ 60 ∧ sz (accV l) (l.length - 1) = l.length ∧ dp (accV l) (l.length - 1) ≤ 20 := by
  obtain ⟨r, hr, h1⟩ := check_ok.1 h
  unfold accV
  rw [hr]
  exact ⟨rfl, h1⟩
theorem acc_is {l : List Nd} {r : Acc} (h : run [] l = some r) : accV l = r := by unfold accV; rw [h]; rfl

/-! ### The expression of a node -/
def shift (d : Int) (x : Nd) : Nd := ⟨x.kind, x.n, if 0 < arity x.kind then x.a - d else x.a, if 1 < arity x.kind then x.b - d else x.b, x.at_⟩
theorem shift_add (d e : Int) (x : Nd) : shift d (shift e x) = shift (d + e) x := by
  unfold shift
  rcases arity_cases x.kind with h | h | h <;> simp [h] <;> omega
theorem shift_zero (x : Nd) : shift 0 x = x := by
  unfold shift
  cases x; simp
/-- .. which is the last of so many nodes that stand behind each other. -/
def cutL (l : List Nd) (s at_ : Nat) : List Nd := ((l.drop (at_ + 1 - s)).take s).map (shift ((at_ + 1 - s : Nat) : Int))
theorem cut_len {l : List Nd} {s at_ : Nat} (hs : s ≤ at_ + 1) (ha : at_ < l.length) : (cutL l s at_).length = s := by
  unfold cutL; rw [List.length_map, List.length_take, List.length_drop]; omega
theorem cut_get {l : List Nd} {s at_ : Nat} (j : Nat) (hj : j < s) : (cutL l s at_)[j]? = (l[at_ + 1 - s + j]?).map (shift ((at_ + 1 - s : Nat) : Int)) := by
  unfold cutL; rw [List.getElem?_map, List.getElem?_take_of_lt hj, List.getElem?_drop]
theorem cut_run {l : List Nd} {r : Acc} (h : run [] l = some r) {at_ : Nat} (ha : at_ < l.length) : run [] (cutL l (sz r at_) at_) = some ((r.drop (at_ + 1 - sz r at_)).take (sz r at_)) := by
  obtain ⟨hl, hg⟩ := run_good.1 h
  have hs := good_sz h
  have hn := good_nest h at_ ha
  have sa := hs at_ ha
  rw [run_good]
  have hsz : ∀ j, j < sz r at_ → sz ((r.drop (at_ + 1 - sz r at_)).take (sz r at_)) j = sz r (at_ + 1 - sz r at_ + j) := fun j hj => by
    rw [sz_take hj]; unfold sz; rw [List.getElem?_drop]
  have hdp : ∀ j, j < sz r at_ → dp ((r.drop (at_ + 1 - sz r at_)).take (sz r at_)) j = dp r (at_ + 1 - sz r at_ + j) := fun j hj => by
    rw [dp_take hj]; unfold dp; rw [List.getElem?_drop]
  refine ⟨?_, fun j x hx => ?_⟩
  · rw [cut_len sa.2.1 ha, List.length_take, List.length_drop]; omega
  have hj : j < sz r at_ := by
    have := (List.getElem?_eq_some_iff.1 hx).1
    rwa [cut_len sa.2.1 ha] at this
  rw [cut_get j hj] at hx
  obtain ⟨f, hf⟩ : ∃ f, at_ + 1 - sz r at_ = f := ⟨_, rfl⟩
  rw [hf] at hx hsz hdp ⊢
  have hfj : f + j < l.length := by omega
  rw [List.getElem?_eq_getElem hfj] at hx
  simp only [Option.map_some, Option.some.injEq] at hx
  have n1 := (hn (f + j) (by omega) (by omega)).1
  have hgj := hg (f + j) _ (List.getElem?_eq_getElem hfj)
  obtain ⟨y, hy⟩ : ∃ y, l[f + j] = y := ⟨_, rfl⟩
  rw [hy] at hx hgj
  subst hx
  have ek : (shift (f : Int) y).kind = y.kind := rfl
  rcases hgj with ⟨h0, h1, h2, h3⟩ | ⟨h0, hi, h1, h2, h3⟩ | ⟨h0, hi, hz, h1, h2, h3⟩
  · refine .inl ⟨h0, (hsz j hj).trans h1, (hdp j hj).trans h2, ?_⟩
    rw [right_iff] at h3 ⊢
    simp only [shift, h0, Nat.lt_irrefl, if_false, Nat.not_lt_zero]
    exact h3
  · have s1 := hs (f + j - 1) (by omega)
    have hj1 : 1 ≤ j := by omega
    have e1 : f + j - 1 = f + (j - 1) := by omega
    rw [e1] at h1 h2
    refine .inr (.inl ⟨h0, hj1, ?_, ?_, ?_⟩)
    · rw [hsz j hj, hsz (j - 1) (by omega), h1]
    · rw [hdp j hj, hdp (j - 1) (by omega), h2]
    · rw [right_iff] at h3 ⊢
      simp only [shift, h0, Nat.lt_irrefl, if_false, Nat.zero_lt_one, if_true]
      obtain ⟨k1, k2, k3, k4, k5, k6, k7, k8⟩ := h3
      exact ⟨k1, k2, k3, k4, k5, k6, by rw [k7]; omega, k8⟩
  · have s1 := hs (f + j - 1) (by omega)
    have s2 := hs (f + j - 1 - sz r (f + j - 1)) (by omega)
    have hj1 : 1 ≤ j := by omega
    have e1 : f + j - 1 = f + (j - 1) := by omega
    rw [e1] at h1 h2 h3 s1 s2 hz
    have hz2 : sz r (f + (j - 1)) ≤ j - 1 := by omega
    have e2 : f + (j - 1) - sz r (f + (j - 1)) = f + (j - 1 - sz r (f + (j - 1))) := by omega
    rw [e2] at h1 h2 h3
    have e3 := hsz (j - 1) (by omega)
    refine .inr (.inr ⟨h0, hj1, ?_, ?_, ?_, ?_⟩)
    · rw [e3]; exact hz2
    · rw [hsz j hj, e3, hsz _ (by omega), h1]
    · rw [hdp j hj, e3, hdp _ (by omega), hdp _ (by omega), h2]
    · rw [e3]
      rw [right_iff] at h3 ⊢
      have g2 : (0 : Nat) < 2 := by omega
      have g1 : (1 : Nat) < 2 := by omega
      simp only [shift, h0, g1, g2, if_true]
      obtain ⟨k1, k2, k3, k4, k5, k6, k7, k8⟩ := h3
      exact ⟨k1, k2, k3, k4, k5, k6, by rw [k7]; omega, by rw [k8]; omega⟩
/-- The expression of a node of a valid one is valid, has its size, and is no deeper. -/
theorem cut_ok {l : List Nd} (h : checkV l = 0) {at_ : Nat} (ha : at_ < l.length) :
    checkV (cutL l (sz (accV l) at_) at_) = 0 ∧ (cutL l (sz (accV l) at_) at_).length = sz (accV l) at_ ∧ dp (accV (cutL l (sz (accV l) at_) at_)) (sz (accV l) at_ - 1) = dp (accV l) at_ ∧ dp (accV l) at_ ≤ dp (accV l) (l.length - 1) := by
  obtain ⟨hr, h0, h60, hsz, hdp⟩ := check_acc h
  have sa := good_sz hr at_ ha
  have hlen := cut_len (l := l) sa.2.1 ha
  have hrun := cut_run hr ha
  have hn := good_nest hr (l.length - 1) (by omega) at_ (by omega) (by omega)
  have e1 : sz (((accV l).drop (at_ + 1 - sz (accV l) at_)).take (sz (accV l) at_)) (sz (accV l) at_ - 1) = sz (accV l) at_ := by
    rw [sz_take (by omega)]; unfold sz; rw [List.getElem?_drop]
    show ((accV l)[at_ + 1 - sz (accV l) at_ + (sz (accV l) at_ - 1)]?.getD (0, 0)).1 = sz (accV l) at_
    rw [show at_ + 1 - sz (accV l) at_ + (sz (accV l) at_ - 1) = at_ by omega]; rfl
  have e2 : dp (((accV l).drop (at_ + 1 - sz (accV l) at_)).take (sz (accV l) at_)) (sz (accV l) at_ - 1) = dp (accV l) at_ := by
    rw [dp_take (by omega)]; unfold dp; rw [List.getElem?_drop]
    show ((accV l)[at_ + 1 - sz (accV l) at_ + (sz (accV l) at_ - 1)]?.getD (0, 0)).2 = dp (accV l) at_
    rw [show at_ + 1 - sz (accV l) at_ + (sz (accV l) at_ - 1) = at_ by omega]; rfl
  refine ⟨check_ok.2 ⟨_, hrun, ?_, ?_, ?_, ?_⟩, hlen, ?_, hn.2⟩
  · omega
  · omega
  · rw [hlen]; exact e1
  · rw [hlen, e2]; omega
  · rw [acc_is hrun]; exact e2
/-- The whole is the expression itself. -/
theorem cut_whole {l : List Nd} (h : 0 < l.length) : cutL l l.length (l.length - 1) = l := by
  unfold cutL
  rw [show l.length - 1 + 1 - l.length = 0 by omega, List.drop_zero, List.take_length]
  conv => rhs; rw [← List.map_id l]
  exact List.map_congr_left fun x _ => shift_zero x
end Go.Proofs.YtgmfelikmjclbaaGreatDoor.Nodes
/-
  What the calls of layer 4 return, plainly, and the laws of its statements: made of parts, sizes, the same, something else. No program in this text.
-/
namespace Go.Proofs.YtgmfelikmjclbaaGreatDoor.Nodes

def depthV (l : List Nd) : Int × Int := if checkV l = 0 then (((dp (accV l) (l.length - 1) : Nat) : Int), 0) else (0, checkV l)
def sizeV (l : List Nd) (at_ : Int) : Int × Int := if checkV l = 0 then (if 0 ≤ at_ ∧ at_ < l.length then (((sz (accV l) at_.toNat : Nat) : Int), 0) else (0, 2)) else (0, checkV l)
def partV (l : List Nd) (at_ : Int) : List Nd × Int := if checkV l = 0 then (if 0 ≤ at_ ∧ at_ < l.length then (cutL l (sz (accV l) at_.toNat) at_.toNat, 0) else ([], 2)) else ([], checkV l)
def alikeB (a b : List Nd) : Bool := decide (a.map core = b.map core)
def equalB (a b : List Nd) : Bool := decide (a.map full = b.map full)
def sameV (a b : List Nd) : Bool × Int := if checkV a = 0 then (if checkV b = 0 then (alikeB a b, 0) else (false, checkV b)) else (false, checkV a)
def partsV (k : Int) : Int × Int := if 1 ≤ k ∧ k ≤ 19 then (((arity k : Nat) : Int), 0) else (0, 2)
/-- Some parts, and their whole. -/
def madeL (k n at_ : Int) : List (List Nd) → List Nd
  | [] => [⟨k, n, 0, 0, at_⟩]
  | [p] => p ++ [⟨k, n, (p.length : Int) - 1, 0, at_⟩]
  | p :: q :: _ => p ++ q.map (shift (-(p.length : Int))) ++ [⟨k, n, (p.length : Int) - 1, (p.length : Int) + q.length - 1, at_⟩]
def badP (p : List Nd) : Bool := checkV p != 0
def nodeV (k n at_ : Int) (ps : List (List Nd)) : List Nd × Int :=
  if 1 ≤ k ∧ k ≤ 19 ∧ arity k = ps.length ∧ 0 ≤ n ∧ (n = 0 ∨ k = 1) ∧ 0 ≤ at_ ∧ at_ ≤ 400 then
    match ps.find? badP with
    | some p => ([], checkV p)
    | none => if checkV (madeL k n at_ ps) = 0 then (madeL k n at_ ps, 0) else ([], checkV (madeL k n at_ ps))
  else ([], 2)
theorem nodeV_ok {k n at_ : Int} {ps : List (List Nd)} (h1 : 1 ≤ k ∧ k ≤ 19 ∧ arity k = ps.length ∧ 0 ≤ n ∧ (n = 0 ∨ k = 1) ∧ 0 ≤ at_ ∧ at_ ≤ 400) (h2 : ∀ p ∈ ps, checkV p = 0) (h3 : checkV (madeL k n at_ ps) = 0) : nodeV k n at_ ps = (madeL k n at_ ps, 0) := by
  unfold nodeV
  rw [if_pos h1]
  have : ps.find? badP = none := List.find?_eq_none.2 fun p hp => by unfold badP; rw [h2 p hp]; simp
  rw [this]
  simp only
  rw [if_pos h3]

/-! ### A node of a valid expression -/
/-- The facts on a node: its parts are there, their sizes add up, and Node makes it of them. -/
theorem node_facts {l : List Nd} (h : checkV l = 0) {i : Nat} (hi : i < l.length) :
    1 ≤ l[i].kind ∧ l[i].kind ≤ 19 ∧ 0 ≤ l[i].n ∧ (l[i].n = 0 ∨ l[i].kind = 1) ∧ 0 ≤ l[i].at_ ∧ l[i].at_ ≤ 400 ∧
    ((arity l[i].kind = 0 ∧ l[i].a = 0 ∧ l[i].b = 0 ∧ sz (accV l) i = 1) ∨
     (arity l[i].kind = 1 ∧ 1 ≤ i ∧ l[i].a = ((i - 1 : Nat) : Int) ∧ l[i].b = 0 ∧ sz (accV l) i = 1 + sz (accV l) (i - 1)) ∨
     (arity l[i].kind = 2 ∧ 1 ≤ i ∧ sz (accV l) (i - 1) ≤ i - 1 ∧ l[i].a = ((i - 1 - sz (accV l) (i - 1) : Nat) : Int) ∧ l[i].b = ((i - 1 : Nat) : Int) ∧ sz (accV l) i = 1 + sz (accV l) (i - 1) + sz (accV l) (i - 1 - sz (accV l) (i - 1)))) := by
  obtain ⟨hr, _⟩ := check_acc h
  rcases (run_good.1 hr).2 i _ (List.getElem?_eq_getElem hi) with ⟨h0, h1, _, h3⟩ | ⟨h0, h1, h2, _, h3⟩ | ⟨h0, h1, hz, h2, _, h3⟩ <;>
    obtain ⟨k1, k2, k3, k4, k5, k6, k7, k8⟩ := right_iff.1 h3
  · exact ⟨k1, k2, k3, k4, k5, k6, .inl ⟨h0, k7, k8, h1⟩⟩
  · exact ⟨k1, k2, k3, k4, k5, k6, .inr (.inl ⟨h0, h1, k7, k8, h2⟩)⟩
  · exact ⟨k1, k2, k3, k4, k5, k6, .inr (.inr ⟨h0, h1, hz, k7, k8, h2⟩)⟩
theorem part_ok {l : List Nd} (h : checkV l = 0) {i : Nat} (hi : i < l.length) : partV l (i : Int) = (cutL l (sz (accV l) i) i, 0) := by
  unfold partV; rw [if_pos h, if_pos ⟨by omega, by omega⟩, Int.toNat_natCast]
theorem size_ok {l : List Nd} (h : checkV l = 0) {i : Nat} (hi : i < l.length) : sizeV l (i : Int) = (((sz (accV l) i : Nat) : Int), 0) := by
  unfold sizeV; rw [if_pos h, if_pos ⟨by omega, by omega⟩, Int.toNat_natCast]
theorem depth_ok {l : List Nd} (h : checkV l = 0) : depthV l = (((dp (accV l) (l.length - 1) : Nat) : Int), 0) := by
  unfold depthV; rw [if_pos h]
theorem parts_ok {k : Int} (h1 : 1 ≤ k) (h2 : k ≤ 19) : partsV k = (((arity k : Nat) : Int), 0) := by
  unfold partsV; rw [if_pos ⟨h1, h2⟩]
/-- The expressions of a node's parts. -/
def partsOf (l : List Nd) (x : Nd) : List (List Nd) :=
  if arity x.kind = 0 then [] else if arity x.kind = 1 then [(partV l x.a).1] else [(partV l x.a).1, (partV l x.b).1]
theorem node_made {l : List Nd} (h : checkV l = 0) {i : Nat} (hi : i < l.length) : nodeV l[i].kind l[i].n l[i].at_ (partsOf l l[i]) = (cutL l (sz (accV l) i) i, 0) := by
  obtain ⟨hr, _⟩ := check_acc h
  obtain ⟨k1, k2, k3, k4, k5, k6, hc⟩ := node_facts h hi
  obtain ⟨c1, c2, _⟩ := cut_ok h hi
  have hs := good_sz hr i hi
  have e2 : partsOf l l[i] = (if arity l[i].kind = 0 then [] else if arity l[i].kind = 1 then [(partV l l[i].a).1] else [(partV l l[i].a).1, (partV l l[i].b).1]) := rfl
  obtain ⟨x, hx⟩ : ∃ x, l[i] = x := ⟨_, rfl⟩
  rw [hx] at k1 k2 k3 k4 k5 k6 hc e2
  rw [hx, e2]
  -- the list made is the expression itself
  have key : ∀ ps : List (List Nd), arity x.kind = ps.length → (∀ p ∈ ps, checkV p = 0) → madeL x.kind x.n x.at_ ps = cutL l (sz (accV l) i) i → nodeV x.kind x.n x.at_ ps = (cutL l (sz (accV l) i) i, 0) := by
    intro ps ha hp hm
    rw [nodeV_ok ⟨k1, k2, ha, k3, k4, k5, k6⟩ hp (by rw [hm]; exact c1), hm]
  -- a cut's elements
  have get : ∀ s p j, j < s → p < l.length → s ≤ p + 1 → (cutL l s p)[j]? = (l[p + 1 - s + j]?).map (shift ((p + 1 - s : Nat) : Int)) := fun s p j hj _ _ => cut_get j hj
  rcases hc with ⟨h0, ha, hb, h1⟩ | ⟨h0, hi1, ha, hb, h1⟩ | ⟨h0, hi1, hz, ha, hb, h1⟩
  · rw [h0, if_pos rfl]
    refine key [] h0 (fun p hp => by cases hp) ?_
    apply List.ext_getElem?
    intro j
    rw [h1]
    cases j with
    | zero =>
      rw [cut_get 0 (by omega), show i + 1 - 1 + 0 = i by omega, List.getElem?_eq_getElem hi, hx]
      simp only [madeL, List.getElem?_cons_zero, Option.map_some]
      have : shift ((i + 1 - 1 : Nat) : Int) x = ⟨x.kind, x.n, 0, 0, x.at_⟩ := by
        unfold shift; rw [h0, ha, hb]; simp
      rw [this]
    | succ j =>
      rw [List.getElem?_eq_none (by simp [madeL]), List.getElem?_eq_none (by rw [cut_len (by omega) hi]; omega)]
  · have hi2 : i - 1 < l.length := by omega
    have s1 := good_sz hr (i - 1) hi2
    obtain ⟨d1, d2, _⟩ := cut_ok h hi2
    rw [h0, if_neg (by omega), if_pos rfl, ha, part_ok h hi2]
    obtain ⟨p, hp⟩ : ∃ p, cutL l (sz (accV l) (i - 1)) (i - 1) = p := ⟨_, rfl⟩
    rw [hp] at d1 d2 ⊢
    refine key [p] h0 (fun q hq => by simp at hq; rw [hq]; exact d1) ?_
    apply List.ext_getElem?
    intro j
    show (p ++ [_])[j]? = _
    rcases Nat.lt_trichotomy j p.length with hj | hj | hj
    · rw [List.getElem?_append_left hj, ← hp, cut_get j (by omega), cut_get j (by omega)]
      rw [show i - 1 + 1 - sz (accV l) (i - 1) = i + 1 - sz (accV l) i by omega]
    · subst hj
      rw [List.getElem?_append_right (Nat.le_refl _), Nat.sub_self, cut_get p.length (by omega), show i + 1 - sz (accV l) i + p.length = i by omega, List.getElem?_eq_getElem hi, hx]
      simp only [List.getElem?_cons_zero, Option.map_some, Option.some.injEq]
      unfold shift
      rw [h0, ha, hb]
      simp only [Nat.zero_lt_one, if_true, Nat.lt_irrefl, if_false, Nd.mk.injEq, true_and, and_true]
      omega
    · rw [List.getElem?_eq_none (by simp; omega), List.getElem?_eq_none (by rw [cut_len (by omega) hi]; omega)]
  · have hi2 : i - 1 < l.length := by omega
    have hi3 : i - 1 - sz (accV l) (i - 1) < l.length := by omega
    have s1 := good_sz hr (i - 1) hi2
    have s2 := good_sz hr _ hi3
    obtain ⟨d1, d2, _⟩ := cut_ok h hi2
    obtain ⟨d3, d4, _⟩ := cut_ok h hi3
    obtain ⟨f, hf⟩ : ∃ f, i - 1 - sz (accV l) (i - 1) = f := ⟨_, rfl⟩
    rw [hf] at ha h1 hi3 s2 d3 d4
    rw [h0, if_neg (by omega), if_neg (by omega), ha, hb, part_ok h hi2, part_ok h hi3]
    obtain ⟨p, hp⟩ : ∃ p, cutL l (sz (accV l) f) f = p := ⟨_, rfl⟩
    obtain ⟨q, hq⟩ : ∃ q, cutL l (sz (accV l) (i - 1)) (i - 1) = q := ⟨_, rfl⟩
    rw [hp] at d3 d4
    rw [hq] at d1 d2
    rw [hp, hq]
    refine key [p, q] h0 (fun y hy => by
      simp at hy
      rcases hy with rfl | rfl
      · exact d3
      · exact d1) ?_
    apply List.ext_getElem?
    intro j
    show (p ++ q.map (shift (-(p.length : Int))) ++ [_])[j]? = _
    have hpq : (p ++ q.map (shift (-(p.length : Int)))).length = p.length + q.length := by rw [List.length_append, List.length_map]
    rcases Nat.lt_trichotomy j (p.length + q.length) with hj | hj | hj
    · rw [List.getElem?_append_left (by omega)]
      by_cases hjp : j < p.length
      · rw [List.getElem?_append_left hjp, ← hp, cut_get j (by omega), cut_get j (by omega)]
        rw [show f + 1 - sz (accV l) f = i + 1 - sz (accV l) i by omega]
      · rw [List.getElem?_append_right (by omega), List.getElem?_map, ← hq, cut_get (j - p.length) (by omega), cut_get j (by omega), Option.map_map]
        rw [show i - 1 + 1 - sz (accV l) (i - 1) + (j - p.length) = i + 1 - sz (accV l) i + j by omega]
        congr 1
        funext y
        show shift _ (shift _ y) = _
        rw [shift_add]
        congr 1
        omega
    · subst hj
      rw [List.getElem?_append_right (by omega), hpq, Nat.sub_self, cut_get (p.length + q.length) (by omega), show i + 1 - sz (accV l) i + (p.length + q.length) = i by omega, List.getElem?_eq_getElem hi, hx]
      simp only [List.getElem?_cons_zero, Option.map_some, Option.some.injEq]
      unfold shift
      have g2 : (0 : Nat) < 2 := by omega
      have g1 : (1 : Nat) < 2 := by omega
      rw [h0, ha, hb]
      simp only [g1, g2, if_true, Nd.mk.injEq, true_and, and_true]
      constructor <;> omega
    · rw [List.getElem?_eq_none (by rw [List.length_append, hpq]; simp; omega), List.getElem?_eq_none (by rw [cut_len (by omega) hi]; omega)]

/-! ### The same -/
theorem alike_symm (a b : List Nd) : alikeB a b = alikeB b a := by
  unfold alikeB; exact decide_eq_decide.2 ⟨Eq.symm, Eq.symm⟩
theorem alike_refl (a : List Nd) : alikeB a a = true := decide_eq_true rfl
theorem equal_refl (a : List Nd) : equalB a a = true := decide_eq_true rfl
theorem equal_alike {a b : List Nd} (h : equalB a b = true) : alikeB a b = true := by
  unfold equalB at h; unfold alikeB
  rw [decide_eq_true_iff] at h ⊢
  have e : ∀ l : List Nd, l.map core = (l.map full).map fun x => (x.1, x.2.1, x.2.2.1, x.2.2.2.1) := fun l => by rw [List.map_map]; rfl
  rw [e, e, h]
theorem equal_eq {a b : List Nd} (h : equalB a b = true) : a = b := by
  unfold equalB at h
  rw [decide_eq_true_iff] at h
  have inj : ∀ x y : Nd, full x = full y → x = y := fun x y => full_inj
  exact List.map_inj_right (fun {x y} e => inj x y e) |>.1 h
theorem step0 {acc : Acc} {x : Nd} (h : arity x.kind = 0) : step acc x = if rightB x 0 0 then some (1, 1) else none := by
  unfold step; rw [if_pos h]
theorem step1 {acc : Acc} {x : Nd} (h : arity x.kind = 1) : step acc x = if acc.length = 0 then none else if rightB x ((acc.length - 1 : Nat) : Int) 0 then some (1 + sz acc (acc.length - 1), 1 + dp acc (acc.length - 1)) else none := by
  unfold step; rw [if_neg (by omega), if_pos h]
theorem step2 {acc : Acc} {x : Nd} (h : arity x.kind = 2) : step acc x = if acc.length = 0 then none else if acc.length - 1 < sz acc (acc.length - 1) then none
    else if rightB x ((acc.length - 1 - sz acc (acc.length - 1) : Nat) : Int) ((acc.length - 1 : Nat) : Int) then
      some (1 + sz acc (acc.length - 1) + sz acc (acc.length - 1 - sz acc (acc.length - 1)), max (1 + dp acc (acc.length - 1)) (1 + dp acc (acc.length - 1 - sz acc (acc.length - 1)))) else none := by
  unfold step
  rw [if_neg (show ¬ arity x.kind = 0 by omega), if_neg (show ¬ arity x.kind = 1 by omega)]
/-- A node that may stand for another one wherever that is right. -/
theorem step_as {acc : Acc} {x y : Nd} {q : Nat × Nat} (hk : y.kind = x.kind) (hr : ∀ a b, rightB x a b = true → rightB y a b = true) (h : step acc x = some q) : step acc y = some q := by
  rcases arity_cases x.kind with ha | ha | ha
  · rw [step0 ha] at h
    rw [step0 (by rw [hk]; exact ha)]
    split at h
    · rename_i hh; rw [if_pos (hr _ _ hh)]; exact h
    · cases h
  · rw [step1 ha] at h
    rw [step1 (by rw [hk]; exact ha)]
    split at h
    · cases h
    rename_i h0
    rw [if_neg h0]
    split at h
    · rename_i hh; rw [if_pos (hr _ _ hh)]; exact h
    · cases h
  · rw [step2 ha] at h
    rw [step2 (by rw [hk]; exact ha)]
    split at h
    · cases h
    rename_i h0
    rw [if_neg h0]
    split at h
    · cases h
    rename_i h1
    rw [if_neg h1]
    split at h
    · rename_i hh; rw [if_pos (hr _ _ hh)]; exact h
    · cases h
theorem step_not {acc : Acc} {x y : Nd} {q : Nat × Nat} (hk : y.kind = x.kind) (hr : ∀ a b, rightB x a b = true → rightB y a b = false) (h : step acc x = some q) : step acc y = none := by
  rcases arity_cases x.kind with ha | ha | ha
  · rw [step0 ha] at h
    rw [step0 (by rw [hk]; exact ha)]
    split at h
    · rename_i hh; rw [if_neg (by rw [hr _ _ hh]; simp)]
    · cases h
  · rw [step1 ha] at h
    rw [step1 (by rw [hk]; exact ha)]
    split at h
    · cases h
    rename_i h0
    rw [if_neg h0]
    split at h
    · rename_i hh; rw [if_neg (by rw [hr _ _ hh]; simp)]
    · cases h
  · rw [step2 ha] at h
    rw [step2 (by rw [hk]; exact ha)]
    split at h
    · cases h
    rename_i h0
    rw [if_neg h0]
    split at h
    · cases h
    rename_i h1
    rw [if_neg h1]
    split at h
    · rename_i hh; rw [if_neg (by rw [hr _ _ hh]; simp)]
    · cases h
theorem step_value {acc : Acc} {x : Nd} {p : Nat × Nat} (h : step acc x = some p) :
    p = if arity x.kind = 0 then (1, 1) else if arity x.kind = 1 then (1 + sz acc (acc.length - 1), 1 + dp acc (acc.length - 1)) else
      (1 + sz acc (acc.length - 1) + sz acc (acc.length - 1 - sz acc (acc.length - 1)), max (1 + dp acc (acc.length - 1)) (1 + dp acc (acc.length - 1 - sz acc (acc.length - 1)))) := by
  rcases arity_cases x.kind with ha | ha | ha
  · rw [step0 ha] at h
    rw [if_pos ha]
    split at h
    · cases h; rfl
    · cases h
  · rw [step1 ha] at h
    rw [if_neg (by omega), if_pos ha]
    split at h
    · cases h
    split at h
    · cases h; rfl
    · cases h
  · rw [step2 ha] at h
    rw [if_neg (by omega), if_neg (by omega)]
    split at h
    · cases h
    split at h
    · cases h
    split at h
    · cases h; rfl
    · cases h
theorem step_core {acc : Acc} {x y : Nd} {p q : Nat × Nat} (h : core x = core y) (hp : step acc x = some p) (hq : step acc y = some q) : p = q := by
  simp only [core, Prod.mk.injEq] at h
  rw [step_value hp, step_value hq, h.1]
theorem run_core (l : List Nd) : ∀ (m : List Nd) (acc r s : Acc), l.map core = m.map core → run acc l = some r → run acc m = some s → r = s := by
  induction l with
  | nil =>
    intro m acc r s h hr hs
    cases m with
    | nil => cases hr; cases hs; rfl
    | cons y m => simp at h
  | cons x l ih =>
    intro m acc r s h hr hs
    cases m with
    | nil => simp at h
    | cons y m =>
      simp only [List.map_cons, List.cons.injEq] at h
      replace hr : ((step acc x).bind fun p => run (acc ++ [p]) l) = some r := hr
      replace hs : ((step acc y).bind fun p => run (acc ++ [p]) m) = some s := hs
      cases h1 : step acc x with
      | none => rw [h1] at hr; cases hr
      | some p =>
        cases h2 : step acc y with
        | none => rw [h2] at hs; cases hs
        | some q =>
          rw [h1] at hr
          rw [h2] at hs
          obtain rfl := step_core h.1 h1 h2
          exact ih m _ _ _ h.2 hr hs
/-- The same expressions have the same depth and as many nodes. -/
theorem alike_same {a b : List Nd} (ha : checkV a = 0) (hb : checkV b = 0) (h : alikeB a b = true) : depthV a = depthV b ∧ a.length = b.length := by
  unfold alikeB at h
  rw [decide_eq_true_iff] at h
  have hl : a.length = b.length := by simpa using congrArg List.length h
  have := run_core a b [] _ _ h (check_acc ha).1 (check_acc hb).1
  rw [depth_ok ha, depth_ok hb, this, hl]
  exact ⟨rfl, rfl⟩
/-- An expression at another place. -/
def moveL (p : Int) (l : List Nd) : List Nd := l.map fun x => ⟨x.kind, x.n, x.a, x.b, p⟩
theorem move_alike (p : Int) (l : List Nd) : alikeB l (moveL p l) = true := by
  unfold alikeB moveL
  rw [decide_eq_true_iff, List.map_map]
  exact List.map_congr_left fun x _ => rfl
theorem step_move {acc : Acc} {x : Nd} {p : Int} {q : Nat × Nat} (h0 : 0 ≤ p) (h1 : p ≤ 400) (h : step acc x = some q) : step acc ⟨x.kind, x.n, x.a, x.b, p⟩ = some q := by
  refine step_as (x := x) (y := ⟨x.kind, x.n, x.a, x.b, p⟩) rfl (fun a b e => ?_) h
  rw [right_iff] at e ⊢
  exact ⟨e.1, e.2.1, e.2.2.1, e.2.2.2.1, h0, h1, e.2.2.2.2.2.2⟩
theorem run_move (p : Int) (h0 : 0 ≤ p) (h1 : p ≤ 400) (l : List Nd) : ∀ acc r, run acc l = some r → run acc (moveL p l) = some r := by
  induction l with
  | nil => intro acc r h; exact h
  | cons x l ih =>
    intro acc r h
    replace h : ((step acc x).bind fun p => run (acc ++ [p]) l) = some r := h
    cases hs : step acc x with
    | none => rw [hs] at h; cases h
    | some q =>
      rw [hs] at h
      show ((step acc ⟨x.kind, x.n, x.a, x.b, p⟩).bind fun p' => run (acc ++ [p']) (moveL p l)) = some r
      rw [step_move h0 h1 hs]
      exact ih _ _ h
theorem move_ok {p : Int} {l : List Nd} (h0 : 0 ≤ p) (h1 : p ≤ 400) (h : checkV l = 0) : checkV (moveL p l) = 0 := by
  obtain ⟨hr, k0, k1, k2, k3⟩ := check_acc h
  have hl : (moveL p l).length = l.length := by unfold moveL; rw [List.length_map]
  exact check_ok.2 ⟨_, run_move p h0 h1 l _ _ hr, by omega, by omega, by rw [hl]; exact k2, by rw [hl]; exact k3⟩

/-! ### Something else -/
theorem set_alike {l : List Nd} {i : Nat} (hi : i < l.length) {y : Nd} (h : core y ≠ core l[i]) : alikeB l (l.set i y) = false := by
  unfold alikeB
  rw [decide_eq_false_iff_not]
  intro e
  apply h
  have := congrArg (·[i]?) e
  simp only [List.getElem?_map] at this
  rw [List.getElem?_eq_getElem hi, List.getElem?_set_self hi] at this
  simpa using this.symm
/-- A list of which a node is not right with the parts that it must have is no expression. -/
theorem set_bad {l : List Nd} (h : checkV l = 0) {i : Nat} (hi : i < l.length) {y : Nd} (hk : y.kind = l[i].kind) (hbad : ∀ a b, rightB l[i] a b = true → rightB y a b = false) : checkV (l.set i y) = 8 := by
  obtain ⟨hr, k0, k1, _⟩ := check_acc h
  have hrun : run [] (l.set i y) = none := by
    have e : l.set i y = l.take i ++ y :: l.drop (i + 1) := by rw [List.set_eq_take_append_cons_drop, if_pos hi]
    have hg := (run_good.1 hr).2 i _ (List.getElem?_eq_getElem hi)
    have hl := (run_good.1 hr).1
    have hst := (step_good (x := l[i]) (show i < (accV l).length by omega)).2 hg
    rw [at_eq (by omega)] at hst
    have hy : step ((accV l).take i) y = none := step_not hk hbad hst
    rw [e, run_append, run_take hr i (by omega)]
    show (step ((accV l).take i) y).bind _ = none
    rw [hy]; rfl
  unfold checkV
  rw [List.length_set, if_neg (by omega), hrun]
theorem same_other {l : List Nd} (h : checkV l = 0) {i : Nat} (hi : i < l.length) {y : Nd} (hm : checkV (l.set i y) = 0) (hc : core y ≠ core l[i]) : sameV l (l.set i y) = (false, 0) := by
  unfold sameV
  rw [if_pos h, if_pos hm, set_alike hi hc]
end Go.Proofs.YtgmfelikmjclbaaGreatDoor.Nodes
/-
  A node made of valid parts is valid, unless it is too great (layers 4 and 5). No program in this text.
-/
namespace Go.Proofs.YtgmfelikmjclbaaGreatDoor.Nodes

theorem sz_right (a r : Acc) (i : Nat) : sz (a ++ r) (a.length + i) = sz r i := by
  unfold sz; rw [List.getElem?_append_right (by omega), Nat.add_sub_cancel_left]
theorem dp_right (a r : Acc) (i : Nat) : dp (a ++ r) (a.length + i) = dp r i := by
  unfold dp; rw [List.getElem?_append_right (by omega), Nat.add_sub_cancel_left]
theorem right_shift {x : Nd} {a b : Int} {d : Int} (h : rightB x a b = true) : rightB (shift (-d) x) (if 0 < arity x.kind then a + d else a) (if 1 < arity x.kind then b + d else b) = true := by
  rw [right_iff] at h ⊢
  obtain ⟨h1, h2, h3, h4, h5, h6, h7, h8⟩ := h
  refine ⟨h1, h2, h3, h4, h5, h6, ?_, ?_⟩
  · unfold shift; simp only; split <;> omega
  · unfold shift; simp only; split <;> omega
/-- A step behind others: the indices are greater by how many those are. -/
theorem step_shift {a r : Acc} {x : Nd} {p : Nat × Nat} (h : step r x = some p) : step (a ++ r) (shift (-(a.length : Int)) x) = some p := by
  have hk : (shift (-(a.length : Int)) x).kind = x.kind := rfl
  rcases arity_cases x.kind with ha | ha | ha
  · rw [step0 ha] at h
    rw [step0 (by rw [hk]; exact ha)]
    split at h
    · rename_i hh
      have := right_shift (d := (a.length : Int)) hh
      rw [ha] at this
      simp only [Nat.lt_irrefl, if_false, Nat.not_lt_zero] at this
      rw [if_pos this]; exact h
    · cases h
  · rw [step1 ha] at h
    rw [step1 (by rw [hk]; exact ha)]
    split at h
    · cases h
    rename_i h0
    have hl : (a ++ r).length = a.length + r.length := List.length_append
    have e1 : (a ++ r).length - 1 = a.length + (r.length - 1) := by omega
    rw [if_neg (by omega), e1, sz_right, dp_right]
    split at h
    · rename_i hh
      have := right_shift (d := (a.length : Int)) hh
      rw [ha] at this
      simp only [Nat.lt_irrefl, if_false, Nat.zero_lt_one, if_true] at this
      rw [if_pos (by rw [show ((a.length + (r.length - 1) : Nat) : Int) = ((r.length - 1 : Nat) : Int) + (a.length : Int) by omega]; exact this)]
      exact h
    · cases h
  · rw [step2 ha] at h
    rw [step2 (by rw [hk]; exact ha)]
    split at h
    · cases h
    rename_i h0
    have hl : (a ++ r).length = a.length + r.length := List.length_append
    have e1 : (a ++ r).length - 1 = a.length + (r.length - 1) := by omega
    rw [if_neg (by omega), e1, sz_right, dp_right]
    split at h
    · cases h
    rename_i h1
    have e2 : a.length + (r.length - 1) - sz r (r.length - 1) = a.length + (r.length - 1 - sz r (r.length - 1)) := by omega
    rw [if_neg (by omega), e2, sz_right, dp_right]
    split at h
    · rename_i hh
      have := right_shift (d := (a.length : Int)) hh
      rw [ha] at this
      have g2 : (0 : Nat) < 2 := by omega
      have g1 : (1 : Nat) < 2 := by omega
      simp only [g1, g2, if_true] at this
      rw [if_pos (by
        rw [show ((a.length + (r.length - 1 - sz r (r.length - 1)) : Nat) : Int) = ((r.length - 1 - sz r (r.length - 1) : Nat) : Int) + (a.length : Int) by omega,
          show ((a.length + (r.length - 1) : Nat) : Int) = ((r.length - 1 : Nat) : Int) + (a.length : Int) by omega]
        exact this)]
      exact h
    · cases h
theorem run_shift (a : Acc) (l : List Nd) : ∀ r s, run r l = some s → run (a ++ r) (l.map (shift (-(a.length : Int)))) = some (a ++ s) := by
  induction l with
  | nil => intro r s h; cases h; rfl
  | cons x l ih =>
    intro r s h
    replace h : ((step r x).bind fun p => run (r ++ [p]) l) = some s := h
    cases hs : step r x with
    | none => rw [hs] at h; cases h
    | some p =>
      rw [hs] at h
      show ((step (a ++ r) (shift (-(a.length : Int)) x)).bind fun p => run (a ++ r ++ [p]) (l.map _)) = _
      rw [step_shift hs]
      have := ih (r ++ [p]) s h
      rw [← List.append_assoc] at this
      exact this
/-- What is made of valid parts: sizes and depths. -/
theorem made_run {k n at_ : Int} {ps : List (List Nd)} (h1 : 1 ≤ k ∧ k ≤ 19 ∧ arity k = ps.length ∧ 0 ≤ n ∧ (n = 0 ∨ k = 1) ∧ 0 ≤ at_ ∧ at_ ≤ 400) (h2 : ∀ p ∈ ps, checkV p = 0) :
    ∃ r, run [] (madeL k n at_ ps) = some r ∧ 0 < (madeL k n at_ ps).length ∧ sz r ((madeL k n at_ ps).length - 1) = (madeL k n at_ ps).length := by
  obtain ⟨k1, k2, ka, k3, k4, k5, k6⟩ := h1
  match ps, ka, h2 with
  | [], ka, _ =>
    refine ⟨[(1, 1)], ?_, by simp [madeL], rfl⟩
    show run [] [_] = _
    rw [run_one, step0 (by exact ka), if_pos (right_iff.2 ⟨k1, k2, k3, k4, k5, k6, rfl, rfl⟩)]
    rfl
  | [p], ka, h2 =>
    obtain ⟨hr, q0, _, qs, _⟩ := check_acc (h2 p (by simp))
    have hl := (run_good.1 hr).1
    refine ⟨accV p ++ [(1 + sz (accV p) (p.length - 1), 1 + dp (accV p) (p.length - 1))], ?_, by simp [madeL], ?_⟩
    · show run [] (p ++ [_]) = _
      rw [run_append, hr]
      show run (accV p) [_] = _
      rw [run_one, step1 (by exact ka), if_neg (by omega), hl, if_pos (right_iff.2 ⟨k1, k2, k3, k4, k5, k6, by show (p.length : Int) - 1 = _; omega, rfl⟩)]
      rfl
    · have e : (madeL k n at_ [p]).length = p.length + 1 := by simp [madeL]
      rw [e, Nat.add_sub_cancel]
      have := sz_right (accV p) [(1 + sz (accV p) (p.length - 1), 1 + dp (accV p) (p.length - 1))] 0
      rw [Nat.add_zero, hl] at this
      rw [this]
      show 1 + sz (accV p) (p.length - 1) = _
      rw [qs]; omega
  | [p, q], ka, h2 =>
    obtain ⟨hr, q0, _, qs, _⟩ := check_acc (h2 p (by simp))
    obtain ⟨hr2, t0, _, ts, _⟩ := check_acc (h2 q (by simp))
    have hl := (run_good.1 hr).1
    have hl2 := (run_good.1 hr2).1
    have hsh := run_shift (accV p) q [] (accV q) hr2
    rw [List.append_nil, hl] at hsh
    have hll : (accV p ++ accV q).length = p.length + q.length := by rw [List.length_append]; omega
    have e1 : p.length + q.length - 1 = (accV p).length + (q.length - 1) := by omega
    have s1 : sz (accV p ++ accV q) (p.length + q.length - 1) = q.length := by rw [e1, sz_right]; exact ts
    have e2 : p.length + q.length - 1 - q.length = p.length - 1 := by omega
    have s2 : sz (accV p ++ accV q) (p.length - 1) = p.length := by
      unfold sz
      rw [List.getElem?_append_left (by omega)]
      exact qs
    refine ⟨accV p ++ accV q ++ [(1 + q.length + p.length, max (1 + dp (accV p ++ accV q) (p.length + q.length - 1)) (1 + dp (accV p ++ accV q) (p.length - 1)))], ?_, by simp [madeL]; omega, ?_⟩
    · show run [] (p ++ q.map (shift (-(p.length : Int))) ++ [_]) = _
      rw [run_append, run_append, hr]
      show (run (accV p) (q.map (shift (-(p.length : Int))))).bind _ = _
      rw [hsh]
      show run (accV p ++ accV q) [_] = _
      rw [run_one, step2 (by exact ka), hll, if_neg (by omega), s1, if_neg (by omega), e2, s2, if_pos (right_iff.2 ⟨k1, k2, k3, k4, k5, k6, by show (p.length : Int) - 1 = _; omega, by show (p.length : Int) + q.length - 1 = _; omega⟩)]
      rfl
    · have e : (madeL k n at_ [p, q]).length = p.length + q.length + 1 := by simp [madeL]; omega
      rw [e, Nat.add_sub_cancel]
      have := sz_right (accV p ++ accV q) [(1 + q.length + p.length, max (1 + dp (accV p ++ accV q) (p.length + q.length - 1)) (1 + dp (accV p ++ accV q) (p.length - 1)))] 0
      rw [Nat.add_zero, hll] at this
      rw [this]
      show 1 + q.length + p.length = _
      omega
  | _ :: _ :: _ :: _, ka, _ =>
    exfalso
    simp only [List.length_cons] at ka
    rcases arity_cases k with h | h | h <;> omega
/-- .. so it is valid, or has too many nodes, or is too deep. -/
theorem made_check {k n at_ : Int} {ps : List (List Nd)} (h1 : 1 ≤ k ∧ k ≤ 19 ∧ arity k = ps.length ∧ 0 ≤ n ∧ (n = 0 ∨ k = 1) ∧ 0 ≤ at_ ∧ at_ ≤ 400) (h2 : ∀ p ∈ ps, checkV p = 0) :
    checkV (madeL k n at_ ps) = if 60 < (madeL k n at_ ps).length then 4 else if 20 < dp (accV (madeL k n at_ ps)) ((madeL k n at_ ps).length - 1) then 34 else 0 := by
  obtain ⟨r, hr, h0, hs⟩ := made_run h1 h2
  unfold checkV
  rw [acc_is hr, hr]
  by_cases h60 : 60 < (madeL k n at_ ps).length
  · rw [if_pos h60, if_pos h60]
  · rw [if_neg h60, if_neg h60]
    simp only
    rw [if_pos ⟨h0, hs⟩]
end Go.Proofs.YtgmfelikmjclbaaGreatDoor.Nodes
/-
  Kinds of expressions, plainly (layer 6): what a kind gives and takes, the first node that does not fit; parts of typed expressions, expressions of typed parts, other places and leaves. No program in this text.
-/
namespace Go.Proofs.YtgmfelikmjclbaaGreatDoor.Nodes

/-- Whether a kind gives a truth value. -/
def givesB (k : Int) : Bool := decide (k = 6 ∨ 12 ≤ k)
/-- Whether parts that give these are what a kind takes. -/
def fitB (k : Int) (a b : Bool) : Bool :=
  if k ≤ 4 then true else if k = 5 then !a else if k = 6 then a else if k = 16 ∨ k = 17 then a == b else if 18 ≤ k then a && b else !a && !b
def kindAt (l : List Nd) (i : Nat) : Int := ((l[i]?).map Nd.kind).getD 0
def gv (l : List Nd) (i : Int) : Bool := givesB (kindAt l i.toNat)
def fitsN (l : List Nd) (x : Nd) : Bool := fitB x.kind (gv l x.a) (gv l x.b)
/-- The first node that does not fit, or how many nodes there are. -/
def wrongV (l : List Nd) : Nat := l.findIdx fun x => !fitsN l x
theorem kindAt_get {l : List Nd} {i : Nat} (h : i < l.length) : kindAt l i = l[i].kind := by
  unfold kindAt; rw [List.getElem?_eq_getElem h]; rfl
theorem wrong_le (l : List Nd) : wrongV l ≤ l.length := List.findIdx_le_length
theorem wrong_fits {l : List Nd} {i : Nat} (h : i < wrongV l) (hi : i < l.length) : fitsN l l[i] = true := by
  have := List.not_of_lt_findIdx (p := fun x => !fitsN l x) h
  simpa using this
theorem wrong_not {l : List Nd} (h : wrongV l < l.length) : fitsN l (l[wrongV l]) = false := by
  have := List.findIdx_getElem (p := fun x => !fitsN l x) (w := h)
  show fitsN l (l[l.findIdx fun x => !fitsN l x]) = false
  simpa using this
theorem wrong_is {l : List Nd} {i : Nat} (hi : i < l.length) (h : ∀ j (hj : j < l.length), j < i → fitsN l l[j] = true) (hn : fitsN l l[i] = false) : wrongV l = i := by
  rcases Nat.lt_trichotomy (wrongV l) i with h1 | h1 | h1
  · have := h _ (by omega) h1
    rw [wrong_not (by omega)] at this
    cases this
  · exact h1
  · have := wrong_fits h1 hi
    rw [hn] at this
    cases this
theorem wrong_all {l : List Nd} (h : ∀ j (hj : j < l.length), fitsN l l[j] = true) : wrongV l = l.length := by
  rcases Nat.lt_or_ge (wrongV l) l.length with h1 | h1
  · have := h _ h1
    rw [wrong_not h1] at this
    cases this
  · exact Nat.le_antisymm (wrong_le l) h1

/-- What Of, All, Number and Truth return. -/
def ofV (l : List Nd) : Bool × Int × Int :=
  if checkV l = 0 then (if wrongV l < l.length then (false, ((wrongV l : Nat) : Int), 42) else (givesB (kindAt l (l.length - 1)), ((l.length - 1 : Nat) : Int), 0)) else (false, 0, checkV l)
def allOfV (l : List Nd) : List Bool × Int := if (ofV l).2.2 = 0 then (l.map fun x => givesB x.kind, 0) else ([], (ofV l).2.2)
def wantV (l : List Nd) (t : Bool) : Int × Int := if (ofV l).2.2 = 0 ∧ (ofV l).1 ≠ t then ((ofV l).2.1, 42) else (ofV l).2
theorem of_bad {l : List Nd} (h : checkV l ≠ 0) : ofV l = (false, 0, checkV l) := by unfold ofV; rw [if_neg h]
theorem of_wrong {l : List Nd} (h : checkV l = 0) (hw : wrongV l < l.length) : ofV l = (false, ((wrongV l : Nat) : Int), 42) := by unfold ofV; rw [if_pos h, if_pos hw]
theorem of_typed {l : List Nd} (h : checkV l = 0) (hw : wrongV l = l.length) : ofV l = (givesB (kindAt l (l.length - 1)), ((l.length - 1 : Nat) : Int), 0) := by unfold ofV; rw [if_pos h, if_neg (by omega)]
theorem of_ok {l : List Nd} (h : (ofV l).2.2 = 0) : checkV l = 0 ∧ wrongV l = l.length := by
  unfold ofV at h
  have := wrong_le l
  split at h
  · split at h
    · simp at h
    · exact ⟨by assumption, by omega⟩
  · rename_i hc; exact absurd h hc

/-! ### Parts of expressions -/
theorem fit_one {k : Int} (h : arity k = 1) (h1 : 1 ≤ k) (a b b' : Bool) : fitB k a b = fitB k a b' := by
  unfold arity at h
  split at h
  · omega
  split at h
  · have : k = 5 ∨ k = 6 := by omega
    rcases this with rfl | rfl <;> rfl
  · omega
theorem fit_none {k : Int} (h : arity k = 0) (a b : Bool) : fitB k a b = true := by
  unfold arity at h
  split at h
  · unfold fitB; rw [if_pos (by assumption)]
  split at h <;> omega
theorem cut_kind {l : List Nd} {s at_ : Nat} (j : Nat) (hj : j < s) : kindAt (cutL l s at_) j = kindAt l (at_ + 1 - s + j) := by
  unfold kindAt; rw [cut_get j hj, Option.map_map]; rfl
/-- A node of a part fits there just if it fits in the whole. -/
theorem cut_fits {l : List Nd} (h : checkV l = 0) {at_ : Nat} (ha : at_ < l.length) (j : Nat) (hj : j < sz (accV l) at_) (hc : j < (cutL l (sz (accV l) at_) at_).length) (hl : at_ + 1 - sz (accV l) at_ + j < l.length) :
    fitsN (cutL l (sz (accV l) at_) at_) ((cutL l (sz (accV l) at_) at_)[j]) = fitsN l (l[at_ + 1 - sz (accV l) at_ + j]) := by
  obtain ⟨c1, c2, _⟩ := cut_ok h ha
  have hs := good_sz (check_acc h).1 at_ ha
  have hsc := good_sz (check_acc c1).1 j hc
  obtain ⟨k1, _, _, _, _, _, hf⟩ := node_facts c1 hc
  have hg := cut_get (l := l) (at_ := at_) j hj
  rw [List.getElem?_eq_getElem hc, List.getElem?_eq_getElem hl] at hg
  simp only [Option.map_some, Option.some.injEq] at hg
  obtain ⟨c, hcc⟩ : ∃ c, cutL l (sz (accV l) at_) at_ = c := ⟨_, rfl⟩
  obtain ⟨f, hff⟩ : ∃ f, at_ + 1 - sz (accV l) at_ = f := ⟨_, rfl⟩
  have hk : ∀ i, i < sz (accV l) at_ → kindAt c i = kindAt l (f + i) := fun i hi => by rw [← hcc, ← hff]; exact cut_kind i hi
  simp only [hcc] at c1 c2 hc hsc k1 hf hg ⊢
  simp only [hff] at hl hg ⊢
  obtain ⟨x, hx⟩ : ∃ x, l[f + j] = x := ⟨_, rfl⟩
  rw [hx] at hg ⊢
  rw [hg] at k1 hf ⊢
  have ek : (shift (f : Int) x).kind = x.kind := rfl
  unfold fitsN
  rw [ek] at k1 hf ⊢
  rcases hf with ⟨a0, _⟩ | ⟨a0, h1, e1, _⟩ | ⟨a0, h1, hz, e1, e2, _⟩
  · rw [fit_none a0, fit_none a0]
  · have ea : (shift (f : Int) x).a = x.a - f := by unfold shift; rw [a0]; rfl
    rw [ea] at e1 ⊢
    rw [fit_one a0 k1 _ _ (gv l x.b)]
    have : gv c (x.a - f) = gv l x.a := by
      unfold gv
      rw [hk _ (by omega), show f + (x.a - f).toNat = x.a.toNat by omega]
    rw [this]
  · have ea : (shift (f : Int) x).a = x.a - f := by unfold shift; rw [a0]; rfl
    have eb : (shift (f : Int) x).b = x.b - f := by unfold shift; rw [a0]; rfl
    rw [ea] at e1 ⊢
    rw [eb] at e2 ⊢
    have t1 : gv c (x.a - f) = gv l x.a := by
      unfold gv
      rw [hk _ (by omega), show f + (x.a - f).toNat = x.a.toNat by omega]
    have t2 : gv c (x.b - f) = gv l x.b := by
      unfold gv
      rw [hk _ (by omega), show f + (x.b - f).toNat = x.b.toNat by omega]
    rw [t1, t2]
/-- The expressions of all nodes in front of the first one that does not fit are typed. -/
theorem part_typed {l : List Nd} (h : checkV l = 0) {i : Nat} (hi : i < l.length) (hw : i < wrongV l) :
    ofV (cutL l (sz (accV l) i) i) = (givesB l[i].kind, ((sz (accV l) i - 1 : Nat) : Int), 0) := by
  obtain ⟨c1, c2, _⟩ := cut_ok h hi
  have hs := good_sz (check_acc h).1 i hi
  have hall : wrongV (cutL l (sz (accV l) i) i) = (cutL l (sz (accV l) i) i).length := wrong_all fun j hj => by
    rw [cut_fits h hi j (by omega) hj (by omega)]
    exact wrong_fits (by omega) _
  rw [of_typed c1 hall, c2, cut_kind _ (by omega), show i + 1 - sz (accV l) i + (sz (accV l) i - 1) = i by omega, kindAt_get hi]
/-- .. and its own one is not, by its whole. -/
theorem part_wrong {l : List Nd} (h : checkV l = 0) (hw : wrongV l < l.length) :
    ofV (cutL l (sz (accV l) (wrongV l)) (wrongV l)) = (false, ((sz (accV l) (wrongV l) - 1 : Nat) : Int), 42) := by
  obtain ⟨c1, c2, _⟩ := cut_ok h hw
  have hs := good_sz (check_acc h).1 _ hw
  have hat : wrongV (cutL l (sz (accV l) (wrongV l)) (wrongV l)) = sz (accV l) (wrongV l) - 1 := wrong_is (by omega) (fun j hj hlt => by
    rw [cut_fits h hw j (by omega) hj (by omega)]
    exact wrong_fits (by omega) _) (by
    rw [cut_fits h hw _ (by omega) (by omega) (by omega)]
    have e : wrongV l + 1 - sz (accV l) (wrongV l) + (sz (accV l) (wrongV l) - 1) = wrongV l := by omega
    have := wrong_not hw
    simp only [e]
    exact this)
  rw [of_wrong c1 (by omega), hat]

/-! ### Expressions of typed parts -/
theorem kindAt_app {l m : List Nd} {i : Nat} (h : i < l.length) : kindAt (l ++ m) i = kindAt l i := by
  unfold kindAt; rw [List.getElem?_append_left h]
/-- A node's parts stand in front of it. -/
theorem parts_front {l : List Nd} (h : checkV l = 0) {i : Nat} (hi : i < l.length) : (arity l[i].kind = 0) ∨ (arity l[i].kind = 1 ∧ 1 ≤ l[i].kind ∧ 0 ≤ l[i].a ∧ l[i].a < i) ∨ (arity l[i].kind = 2 ∧ 0 ≤ l[i].a ∧ l[i].a < i ∧ 0 ≤ l[i].b ∧ l[i].b < i) := by
  obtain ⟨k1, _, _, _, _, _, hf⟩ := node_facts h hi
  rcases hf with ⟨a0, _⟩ | ⟨a0, h1, e1, _⟩ | ⟨a0, h1, hz, e1, e2, _⟩
  · exact .inl a0
  · exact .inr (.inl ⟨a0, k1, by omega, by omega⟩)
  · exact .inr (.inr ⟨a0, by omega, by omega, by omega, by omega⟩)
/-- Whether a node fits is told by the kinds of its parts. -/
theorem fits_same {l m : List Nd} {x y : Nd} (hk : x.kind = y.kind) (h : arity x.kind = 0 ∨ (arity x.kind = 1 ∧ 1 ≤ x.kind ∧ gv l x.a = gv m y.a) ∨ (gv l x.a = gv m y.a ∧ gv l x.b = gv m y.b)) : fitsN l x = fitsN m y := by
  unfold fitsN
  rw [← hk]
  rcases h with h | ⟨h, h1, e⟩ | ⟨e1, e2⟩
  · rw [fit_none h, fit_none h]
  · rw [fit_one h h1 _ _ (gv m y.b), e]
  · rw [e1, e2]
theorem gv_app {l m : List Nd} {i : Int} (h0 : 0 ≤ i) (h : i < l.length) : gv (l ++ m) i = gv l i := by
  unfold gv; rw [kindAt_app (by omega)]
theorem fits_app {l m : List Nd} (h : checkV l = 0) {i : Nat} (hi : i < l.length) : fitsN (l ++ m) l[i] = fitsN l l[i] := by
  refine fits_same rfl ?_
  rcases parts_front h hi with h0 | ⟨h0, h1, h2, h3⟩ | ⟨h0, h2, h3, h4, h5⟩
  · exact .inl h0
  · exact .inr (.inl ⟨h0, h1, gv_app h2 (by omega)⟩)
  · exact .inr (.inr ⟨gv_app h2 (by omega), gv_app h4 (by omega)⟩)
theorem gv_shift {p q : List Nd} {r : List Nd} {i : Int} (h0 : 0 ≤ i) (h : i < q.length) : gv (p ++ q.map (shift (-(p.length : Int))) ++ r) (i + p.length) = gv q i := by
  unfold gv kindAt
  have e : (i + p.length).toNat = p.length + i.toNat := by omega
  rw [e, List.append_assoc, List.getElem?_append_right (by omega), Nat.add_sub_cancel_left, List.getElem?_append_left (by rw [List.length_map]; omega), List.getElem?_map, Option.map_map]
  rfl
theorem fits_shift {p q r : List Nd} (h : checkV q = 0) {i : Nat} (hi : i < q.length) : fitsN (p ++ q.map (shift (-(p.length : Int))) ++ r) (shift (-(p.length : Int)) q[i]) = fitsN q q[i] := by
  refine fits_same rfl ?_
  show arity q[i].kind = 0 ∨ _
  rcases parts_front h hi with h0 | ⟨h0, h1, h2, h3⟩ | ⟨h0, h2, h3, h4, h5⟩
  · exact .inl h0
  · refine .inr (.inl ⟨h0, h1, ?_⟩)
    have : (shift (-(p.length : Int)) q[i]).a = q[i].a + p.length := by unfold shift; rw [h0]; simp
    rw [this]
    exact gv_shift h2 (by omega)
  · have e1 : (shift (-(p.length : Int)) q[i]).a = q[i].a + p.length := by unfold shift; rw [h0]; simp
    have e2 : (shift (-(p.length : Int)) q[i]).b = q[i].b + p.length := by unfold shift; rw [h0]; simp
    rw [e1, e2]
    exact .inr (.inr ⟨gv_shift h2 (by omega), gv_shift h4 (by omega)⟩)
theorem typed_fits {l : List Nd} (h : (ofV l).2.2 = 0) {i : Nat} (hi : i < l.length) : fitsN l l[i] = true :=
  wrong_fits (by rw [(of_ok h).2]; exact hi) hi
theorem gv_last {l : List Nd} (h : (ofV l).2.2 = 0) : gv l ((l.length : Int) - 1) = (ofV l).1 := by
  obtain ⟨h1, h2⟩ := of_ok h
  have := (check_acc h1).2.1
  rw [of_typed h1 h2]
  unfold gv
  rw [show ((l.length : Int) - 1).toNat = l.length - 1 by omega]
/-- An expression with one part that is typed. -/
theorem made_one {a : List Nd} {k n p : Int} (ha : (ofV a).2.2 = 0) (hl : checkV (madeL k n p [a]) = 0) (hk : arity k = 1) (h1 : 1 ≤ k) :
    ofV (madeL k n p [a]) = if fitB k (ofV a).1 false = true then (givesB k, (a.length : Int), 0) else (false, (a.length : Int), 42) := by
  have hlen : (madeL k n p [a]).length = a.length + 1 := by simp [madeL]
  have e : madeL k n p [a] = a ++ [⟨k, n, (a.length : Int) - 1, 0, p⟩] := rfl
  have hget : ∀ j (hj : j < a.length), (madeL k n p [a])[j]'(by omega) = a[j] := fun j hj => by
    apply Option.some.inj
    rw [← List.getElem?_eq_getElem, ← List.getElem?_eq_getElem, e, List.getElem?_append_left hj]
  have hlast : (madeL k n p [a])[a.length]'(by omega) = ⟨k, n, (a.length : Int) - 1, 0, p⟩ := by
    apply Option.some.inj
    rw [← List.getElem?_eq_getElem, e, List.getElem?_append_right (Nat.le_refl _), Nat.sub_self]
    rfl
  have hfront : ∀ j (hj : j < a.length), fitsN (madeL k n p [a]) ((madeL k n p [a])[j]'(by omega)) = true := fun j hj => by
    rw [hget j hj]
    show fitsN (a ++ [_]) a[j] = true
    rw [fits_app (of_ok ha).1 hj]
    exact typed_fits ha hj
  have hfl : fitsN (madeL k n p [a]) ((madeL k n p [a])[a.length]'(by omega)) = fitB k (ofV a).1 false := by
    rw [hlast]
    have hpos := (check_acc (of_ok ha).1).2.1
    unfold fitsN
    rw [fit_one hk h1 _ _ false]
    have : gv (madeL k n p [a]) ((a.length : Int) - 1) = (ofV a).1 := by
      show gv (a ++ [_]) _ = _
      rw [gv_app (by omega) (by omega), gv_last ha]
    simp only
    rw [this]
  split
  · rename_i hf
    have hw : wrongV (madeL k n p [a]) = (madeL k n p [a]).length := wrong_all fun j hj => by
      by_cases hj2 : j < a.length
      · exact hfront j hj2
      · obtain rfl : j = a.length := by omega
        rw [hfl]; exact hf
    rw [of_typed hl hw, hlen, Nat.add_sub_cancel, kindAt_get (by omega), hlast]
  · rename_i hf
    have hw : wrongV (madeL k n p [a]) = a.length := wrong_is (by omega) (fun j hj h2 => hfront j h2) (by rw [hfl]; simpa using hf)
    rw [of_wrong hl (by omega), hw]
/-- An expression of two parts that are typed. -/
theorem made_two {a b : List Nd} {k n p : Int} (ha : (ofV a).2.2 = 0) (hb : (ofV b).2.2 = 0) (hl : checkV (madeL k n p [a, b]) = 0) :
    ofV (madeL k n p [a, b]) = if fitB k (ofV a).1 (ofV b).1 = true then (givesB k, (a.length : Int) + b.length, 0) else (false, (a.length : Int) + b.length, 42) := by
  have hlen : (madeL k n p [a, b]).length = a.length + b.length + 1 := by simp [madeL]; omega
  have e : madeL k n p [a, b] = a ++ b.map (shift (-(a.length : Int))) ++ [⟨k, n, (a.length : Int) - 1, (a.length : Int) + b.length - 1, p⟩] := rfl
  have hfa : ∀ j (hj : j < a.length), fitsN (madeL k n p [a, b]) ((madeL k n p [a, b])[j]'(by omega)) = true := fun j hj => by
    have : (madeL k n p [a, b])[j]'(by omega) = a[j] := by
      apply Option.some.inj
      rw [← List.getElem?_eq_getElem, ← List.getElem?_eq_getElem, e, List.append_assoc, List.getElem?_append_left hj]
    rw [this, e, List.append_assoc, fits_app (of_ok ha).1 hj]
    exact typed_fits ha hj
  have hfb : ∀ j (hj : j < b.length), fitsN (madeL k n p [a, b]) ((madeL k n p [a, b])[a.length + j]'(by omega)) = true := fun j hj => by
    have : (madeL k n p [a, b])[a.length + j]'(by omega) = shift (-(a.length : Int)) b[j] := by
      apply Option.some.inj
      rw [← List.getElem?_eq_getElem, e, List.append_assoc, List.getElem?_append_right (by omega), Nat.add_sub_cancel_left, List.getElem?_append_left (by rw [List.length_map]; exact hj), List.getElem?_map, List.getElem?_eq_getElem hj]
      rfl
    rw [this, e, fits_shift (of_ok hb).1 hj]
    exact typed_fits hb hj
  have hlast : (madeL k n p [a, b])[a.length + b.length]'(by omega) = ⟨k, n, (a.length : Int) - 1, (a.length : Int) + b.length - 1, p⟩ := by
    apply Option.some.inj
    rw [← List.getElem?_eq_getElem, e, List.getElem?_append_right (by rw [List.length_append, List.length_map]; omega), List.length_append, List.length_map, Nat.sub_self]
    rfl
  have hfl : fitsN (madeL k n p [a, b]) ((madeL k n p [a, b])[a.length + b.length]'(by omega)) = fitB k (ofV a).1 (ofV b).1 := by
    rw [hlast]
    have hpa := (check_acc (of_ok ha).1).2.1
    have hpb := (check_acc (of_ok hb).1).2.1
    unfold fitsN
    have t1 : gv (madeL k n p [a, b]) ((a.length : Int) - 1) = (ofV a).1 := by
      rw [e, List.append_assoc, gv_app (by omega) (by omega), gv_last ha]
    have t2 : gv (madeL k n p [a, b]) ((a.length : Int) + b.length - 1) = (ofV b).1 := by
      rw [e, show (a.length : Int) + b.length - 1 = ((b.length : Int) - 1) + a.length by omega, gv_shift (by omega) (by omega), gv_last hb]
    simp only
    rw [t1, t2]
  have hfront : ∀ j (hj : j < a.length + b.length), fitsN (madeL k n p [a, b]) ((madeL k n p [a, b])[j]'(by omega)) = true := fun j hj => by
    by_cases hj2 : j < a.length
    · exact hfa j hj2
    · have h3 := hfb (j - a.length) (by omega)
      have e3 : a.length + (j - a.length) = j := by omega
      simp only [e3] at h3
      exact h3
  split
  · rename_i hf
    have hw : wrongV (madeL k n p [a, b]) = (madeL k n p [a, b]).length := wrong_all fun j hj => by
      by_cases hj2 : j < a.length + b.length
      · exact hfront j hj2
      · obtain rfl : j = a.length + b.length := by omega
        rw [hfl]; exact hf
    rw [of_typed hl hw, hlen, Nat.add_sub_cancel, kindAt_get (by omega), hlast]
    simp
  · rename_i hf
    have hw : wrongV (madeL k n p [a, b]) = a.length + b.length := wrong_is (by omega) (fun j hj h2 => hfront j h2) (by rw [hfl]; simpa using hf)
    rw [of_wrong hl (by omega), hw]
    simp

/-! ### Other places and leaves -/
def leafN (leaf p : Int) (x : Nd) : Nd := if x.kind ≤ 4 then ⟨leaf, 0, x.a, x.b, p⟩ else ⟨x.kind, x.n, x.a, x.b, p⟩
def leafL (leaf p : Int) (l : List Nd) : List Nd := l.map (leafN leaf p)
theorem leaf_step {acc : Acc} {x : Nd} {leaf p : Int} {q : Nat × Nat} (h1 : 1 ≤ leaf) (h4 : leaf ≤ 4) (h0 : 0 ≤ p) (hp : p ≤ 400) (h : step acc x = some q) : step acc (leafN leaf p x) = some q := by
  unfold leafN
  by_cases hk : x.kind ≤ 4
  · rw [if_pos hk]
    have ha : arity x.kind = 0 := by unfold arity; rw [if_pos hk]
    have hb : arity leaf = 0 := by unfold arity; rw [if_pos h4]
    rw [step0 ha] at h
    rw [step0 (x := ⟨leaf, 0, x.a, x.b, p⟩) hb]
    split at h
    · rename_i hr
      rw [right_iff] at hr
      have hr2 : rightB ⟨leaf, 0, x.a, x.b, p⟩ 0 0 = true := right_iff.2 ⟨h1, by show leaf ≤ 19; omega, Int.le_refl _, .inl rfl, h0, hp, hr.2.2.2.2.2.2.1, hr.2.2.2.2.2.2.2⟩
      rw [if_pos hr2]
      exact h
    · cases h
  · rw [if_neg hk]
    exact step_move h0 hp h
theorem leaf_run {leaf p : Int} (h1 : 1 ≤ leaf) (h4 : leaf ≤ 4) (h0 : 0 ≤ p) (hp : p ≤ 400) (l : List Nd) : ∀ acc r, run acc l = some r → run acc (leafL leaf p l) = some r := by
  induction l with
  | nil => intro acc r h; exact h
  | cons x l ih =>
    intro acc r h
    replace h : ((step acc x).bind fun p => run (acc ++ [p]) l) = some r := h
    cases hs : step acc x with
    | none => rw [hs] at h; cases h
    | some q =>
      rw [hs] at h
      show ((step acc (leafN leaf p x)).bind fun p' => run (acc ++ [p']) (leafL leaf p l)) = some r
      rw [leaf_step h1 h4 h0 hp hs]
      exact ih _ _ h
theorem leaf_len (leaf p : Int) (l : List Nd) : (leafL leaf p l).length = l.length := List.length_map ..
theorem leaf_ok {leaf p : Int} {l : List Nd} (h1 : 1 ≤ leaf) (h4 : leaf ≤ 4) (h0 : 0 ≤ p) (hp : p ≤ 400) (h : checkV l = 0) : checkV (leafL leaf p l) = 0 := by
  obtain ⟨hr, k0, k1, k2, k3⟩ := check_acc h
  have hl := leaf_len leaf p l
  exact check_ok.2 ⟨_, leaf_run h1 h4 h0 hp l _ _ hr, by omega, by omega, by rw [hl]; exact k2, by rw [hl]; exact k3⟩
theorem leaf_gives {leaf p : Int} (h4 : leaf ≤ 4) (x : Nd) : givesB (leafN leaf p x).kind = givesB x.kind := by
  unfold leafN
  by_cases hk : x.kind ≤ 4
  · rw [if_pos hk]
    unfold givesB
    rw [decide_eq_false (by simp only; omega), decide_eq_false (by omega)]
  · rw [if_neg hk]
theorem leaf_gv {leaf p : Int} (h4 : leaf ≤ 4) (l : List Nd) (i : Int) : gv (leafL leaf p l) i = gv l i := by
  unfold gv kindAt leafL
  rw [List.getElem?_map, Option.map_map]
  cases l[i.toNat]? with
  | none => rfl
  | some x => exact leaf_gives h4 x
theorem leaf_fits {leaf p : Int} (h4 : leaf ≤ 4) (l : List Nd) (x : Nd) : fitsN (leafL leaf p l) (leafN leaf p x) = fitsN l x := by
  unfold leafN
  by_cases hk : x.kind ≤ 4
  · rw [if_pos hk]
    unfold fitsN
    rw [fit_none (by unfold arity; rw [if_pos (by simpa using h4)]), fit_none (by unfold arity; rw [if_pos hk])]
  · rw [if_neg hk]
    unfold fitsN
    simp only [leaf_gv h4]
theorem leaf_wrong {leaf p : Int} (h4 : leaf ≤ 4) (l : List Nd) : wrongV (leafL leaf p l) = wrongV l := by
  unfold wrongV
  have : ∀ m : List Nd, (m.map (leafN leaf p)).findIdx (fun x => !fitsN (leafL leaf p l) x) = m.findIdx (fun x => !fitsN l x) := by
    intro m
    induction m with
    | nil => rfl
    | cons x m ih => rw [List.map_cons, List.findIdx_cons, List.findIdx_cons, leaf_fits h4, ih]
  exact this l
theorem leaf_of {leaf p : Int} {l : List Nd} (h1 : 1 ≤ leaf) (h4 : leaf ≤ 4) (h0 : 0 ≤ p) (hp : p ≤ 400) (h : checkV l = 0) : ofV (leafL leaf p l) = ofV l := by
  unfold ofV
  rw [if_pos h, if_pos (leaf_ok h1 h4 h0 hp h), leaf_wrong h4, leaf_len]
  have hpos := (check_acc h).2.1
  have : givesB (kindAt (leafL leaf p l) (l.length - 1)) = givesB (kindAt l (l.length - 1)) := by
    have := leaf_gv (p := p) h4 l ((l.length - 1 : Nat) : Int)
    unfold gv at this
    rwa [Int.toNat_natCast] at this
  rw [this]
end Go.Proofs.YtgmfelikmjclbaaGreatDoor.Nodes

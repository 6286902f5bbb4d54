/-
  Expressions as lists of nodes, plainly (layer 4): sizes and depths of all nodes, what is valid, the expression of a node, what is made of parts. No program in this text.
-/
import Init
namespace Go.Proofs.YtdinaedknlkicaaGreatDoor.Nodes

structure Nd where
  kind : Int
  n : Int
  a : Int
  b : Int
  at_ : Int
def full (x : Nd) : Int × Int × Int × Int × Int := (x.kind, x.n, x.a, x.b, x.at_)
def core (x : Nd) : Int × Int × Int × Int := (x.kind, x.n, x.a, x.b)
theorem full_inj {x y : Nd} (h : full x = full y) : x = y := by
  cases x; cases y; simp [full] at h ⊢; exact h
/-- How many parts a kind has. -/
def arity (k : Int) : Nat := if k ≤ 4 then 0 else if k ≤ 6 then 1 else 2
theorem arity_cases (k : Int) : arity k = 0 ∨ arity k = 1 ∨ arity k = 2 := by
  unfold arity; split
  · exact .inl rfl
  split
  · exact .inr (.inl rfl)
  · exact .inr (.inr rfl)
/-- A node by itself is right, with parts that are told. -/
def rightB (x : Nd) (a b : Int) : Bool := decide (1 ≤ x.kind ∧ x.kind ≤ 19 ∧ 0 ≤ x.n ∧ (x.n = 0 ∨ x.kind = 1) ∧ 0 ≤ x.at_ ∧ x.at_ ≤ 400 ∧ x.a = a ∧ x.b = b)
theorem right_iff {x : Nd} {a b : Int} : rightB x a b = true ↔ (1 ≤ x.kind ∧ x.kind ≤ 19 ∧ 0 ≤ x.n ∧ (x.n = 0 ∨ x.kind = 1) ∧ 0 ≤ x.at_ ∧ x.at_ ≤ 400 ∧ x.a = a ∧ x.b = b) := by
  unfold rightB; exact decide_eq_true_iff

/-! ### Sizes and depths -/
abbrev Acc := List (Nat × Nat)
def sz (acc : Acc) (i : Nat) : Nat := ((acc[i]?).getD (0, 0)).1
def dp (acc : Acc) (i : Nat) : Nat := ((acc[i]?).getD (0, 0)).2
/-- Size and depth of a node behind others. -/
def step (acc : Acc) (x : Nd) : Option (Nat × Nat) :=
  if arity x.kind = 0 then (if rightB x 0 0 then some (1, 1) else none)
  else if acc.length = 0 then none
  else if arity x.kind = 1 then (if rightB x ((acc.length - 1 : Nat) : Int) 0 then some (1 + sz acc (acc.length - 1), 1 + dp acc (acc.length - 1)) else none)
  else if acc.length - 1 < sz acc (acc.length - 1) then none
  else if rightB x ((acc.length - 1 - sz acc (acc.length - 1) : Nat) : Int) ((acc.length - 1 : Nat) : Int) then
    some (1 + sz acc (acc.length - 1) + sz acc (acc.length - 1 - sz acc (acc.length - 1)), max (1 + dp acc (acc.length - 1)) (1 + dp acc (acc.length - 1 - sz acc (acc.length - 1))))
  else none
def run : Acc → List Nd → Option Acc
  | acc, [] => some acc
  | acc, x :: l => (step acc x).bind fun p => run (acc ++ [p]) l
theorem run_append (l m : List Nd) : ∀ acc, run acc (l ++ m) = (run acc l).bind fun acc' => run acc' m := by
  induction l with
  | nil => intro acc; rfl
  | cons x l ih =>
    intro acc
    show (step acc x).bind (fun p => run (acc ++ [p]) (l ++ m)) = ((step acc x).bind fun p => run (acc ++ [p]) l).bind _
    cases step acc x with
    | none => rfl
    | some p => exact ih _
theorem run_one (acc : Acc) (x : Nd) : run acc [x] = (step acc x).map fun p => acc ++ [p] := by
  show (step acc x).bind (fun p => some (acc ++ [p])) = _
  cases step acc x <;> rfl
theorem run_length (l : List Nd) : ∀ acc r, run acc l = some r → r.length = acc.length + l.length := by
  induction l with
  | nil => intro acc r h; cases h; rfl
  | cons x l ih =>
    intro acc r h
    replace h : ((step acc x).bind fun p => run (acc ++ [p]) l) = some r := h
    cases hs : step acc x with
    | none => rw [hs] at h; cases h
    | some p =>
      rw [hs] at h
      have := ih _ _ h
      simp only [List.length_append, List.length_cons, List.length_nil] at this ⊢
      omega
/-- The sizes of a beginning are the beginning of the sizes. -/
theorem run_take {l : List Nd} {r : Acc} (h : run [] l = some r) (k : Nat) (hk : k ≤ l.length) : run [] (l.take k) = some (r.take k) := by
  induction k with
  | zero => rfl
  | succ k ih =>
    have hlt : k < l.length := by omega
    have h1 := ih (by omega)
    have e : l = l.take (k + 1) ++ l.drop (k + 1) := (List.take_append_drop _ _).symm
    rw [List.take_succ_eq_append_getElem hlt, run_append, h1]
    show run (r.take k) [l[k]] = _
    rw [e, run_append, List.take_succ_eq_append_getElem hlt, run_append, h1] at h
    replace h : (run (r.take k) [l[k]]).bind (fun acc' => run acc' (l.drop (k + 1))) = some r := h
    rw [run_one] at h ⊢
    cases hs : step (r.take k) l[k] with
    | none => rw [hs] at h; cases h
    | some p =>
      rw [hs] at h
      replace h : run (r.take k ++ [p]) (l.drop (k + 1)) = some r := h
      have hr : (r.take k).length = k := by
        have := run_length _ _ _ h1
        rw [this, List.length_take]; simp; omega
      have hpre : (r.take k ++ [p]) <+: r := by
        have pre : ∀ (m : List Nd) (a r : Acc), run a m = some r → a <+: r := by
          intro m
          induction m with
          | nil => intro a r h; cases h; exact List.prefix_refl _
          | cons x m ih =>
            intro a r h
            replace h : ((step a x).bind fun p => run (a ++ [p]) m) = some r := h
            cases hs : step a x with
            | none => rw [hs] at h; cases h
            | some p => rw [hs] at h; exact (List.prefix_append a [p]).trans (ih _ _ h)
        exact pre _ _ _ h
      have := List.prefix_iff_eq_take.1 hpre
      rw [List.length_append, hr] at this
      show some (r.take k ++ [p]) = _
      exact congrArg some this
theorem sz_take {r : Acc} {k i : Nat} (h : i < k) : sz (r.take k) i = sz r i := by
  unfold sz; rw [List.getElem?_take_of_lt h]
theorem dp_take {r : Acc} {k i : Nat} (h : i < k) : dp (r.take k) i = dp r i := by
  unfold dp; rw [List.getElem?_take_of_lt h]
theorem at_eq {r : Acc} {i : Nat} (h : i < r.length) : r[i]? = some (sz r i, dp r i) := by
  unfold sz dp; rw [List.getElem?_eq_getElem h]; rfl

/-- What a node's place, size and depth have to do with those in front. -/
def Good (acc : Acc) (i : Nat) (x : Nd) : Prop :=
  (arity x.kind = 0 ∧ sz acc i = 1 ∧ dp acc i = 1 ∧ rightB x 0 0 = true) ∨
  (arity x.kind = 1 ∧ 1 ≤ i ∧ sz acc i = 1 + sz acc (i - 1) ∧ dp acc i = 1 + dp acc (i - 1) ∧ rightB x ((i - 1 : Nat) : Int) 0 = true) ∨
  (arity x.kind = 2 ∧ 1 ≤ i ∧ sz acc (i - 1) ≤ i - 1 ∧ sz acc i = 1 + sz acc (i - 1) + sz acc (i - 1 - sz acc (i - 1)) ∧ dp acc i = max (1 + dp acc (i - 1)) (1 + dp acc (i - 1 - sz acc (i - 1))) ∧
    rightB x ((i - 1 - sz acc (i - 1) : Nat) : Int) ((i - 1 : Nat) : Int) = true)
theorem step_good {r : Acc} {i : Nat} {x : Nd} (hi : i < r.length) : step (r.take i) x = r[i]? ↔ Good r i x := by
  have hl : (r.take i).length = i := by rw [List.length_take]; omega
  have hsome := at_eq hi
  unfold step Good
  rw [hl, hsome]
  rcases arity_cases x.kind with h | h | h
  · rw [h, if_pos rfl]
    constructor
    · intro e
      split at e
      · rename_i hr
        simp only [Option.some.injEq, Prod.mk.injEq] at e
        exact .inl ⟨rfl, e.1.symm, e.2.symm, hr⟩
      · cases e
    · rintro (⟨_, h1, h2, h3⟩ | ⟨h1, _⟩ | ⟨h1, _⟩)
      · rw [if_pos h3, h1, h2]
      · omega
      · omega
  · rw [h, if_neg (by omega)]
    constructor
    · intro e
      split at e
      · cases e
      rename_i h0
      rw [if_pos rfl] at e
      split at e
      · rename_i hr
        simp only [Option.some.injEq, Prod.mk.injEq] at e
        rw [sz_take (by omega), dp_take (by omega)] at e
        exact .inr (.inl ⟨rfl, by omega, e.1.symm, e.2.symm, hr⟩)
      · cases e
    · rintro (⟨h1, _⟩ | ⟨_, h1, h2, h3, h4⟩ | ⟨h1, _⟩)
      · omega
      · rw [if_neg (by omega), if_pos rfl, if_pos h4, h2, h3, sz_take (by omega), dp_take (by omega)]
      · omega
  · rw [h, if_neg (by omega)]
    constructor
    · intro e
      split at e
      · cases e
      rename_i h0
      rw [if_neg (by omega)] at e
      split at e
      · cases e
      rename_i hz
      rw [sz_take (by omega)] at hz
      split at e
      · rename_i hr
        simp only [Option.some.injEq, Prod.mk.injEq] at e
        rw [sz_take (by omega), sz_take (by omega), dp_take (by omega), dp_take (by omega)] at e
        rw [sz_take (by omega)] at hr
        exact .inr (.inr ⟨rfl, by omega, by omega, e.1.symm, e.2.symm, hr⟩)
      · cases e
    · rintro (⟨h1, _⟩ | ⟨h1, _⟩ | ⟨_, h1, h2, h3, h4, h5⟩)
      · omega
      · omega
      · have e1 : sz (r.take i) (i - 1) = sz r (i - 1) := sz_take (by omega)
        rw [if_neg (by omega), if_neg (by omega), e1, if_neg (by omega), if_pos h5, h3, h4, sz_take (by omega), dp_take (by omega), dp_take (by omega)]
theorem run_good {l : List Nd} {r : Acc} : run [] l = some r ↔ r.length = l.length ∧ ∀ i x, l[i]? = some x → Good r i x := by
  constructor
  · intro h
    have hl : r.length = l.length := by have := run_length _ _ _ h; simpa using this
    refine ⟨hl, fun i x hx => ?_⟩
    obtain ⟨hi, hx⟩ := List.getElem?_eq_some_iff.1 hx
    have h1 := run_take h i (by omega)
    have h2 := run_take h (i + 1) (by omega)
    rw [List.take_succ_eq_append_getElem hi, run_append, h1] at h2
    replace h2 : run (r.take i) [l[i]] = some (r.take (i + 1)) := h2
    rw [run_one, hx] at h2
    rw [← step_good (by omega)]
    cases hs : step (r.take i) x with
    | none => rw [hs] at h2; cases h2
    | some p =>
      rw [hs] at h2
      simp only [Option.map_some, Option.some.injEq] at h2
      rw [List.take_succ_eq_append_getElem (show i < r.length by omega)] at h2
      have := List.append_cancel_left h2
      rw [List.getElem?_eq_getElem (by omega)]
      simp only [List.cons.injEq, and_true] at this
      rw [this]
  · rintro ⟨hl, hg⟩
    have all : ∀ k, k ≤ l.length → run [] (l.take k) = some (r.take k) := by
      intro k
      induction k with
      | zero => intro _; rfl
      | succ k ih =>
        intro hk
        have hlt : k < l.length := by omega
        rw [List.take_succ_eq_append_getElem hlt, run_append, ih (by omega)]
        show run (r.take k) [l[k]] = _
        rw [run_one, (step_good (by omega)).2 (hg k l[k] (List.getElem?_eq_getElem hlt)), List.getElem?_eq_getElem (by omega), List.take_succ_eq_append_getElem (by omega)]
        rfl
    have := all l.length (Nat.le_refl _)
    rwa [List.take_length, ← hl, List.take_length] at this

/-! ### All nodes are nested -/
theorem good_sz {l : List Nd} {r : Acc} (h : run [] l = some r) : ∀ i, i < l.length → 1 ≤ sz r i ∧ sz r i ≤ i + 1 ∧ 1 ≤ dp r i ∧ dp r i ≤ sz r i := by
  have hg := (run_good.1 h).2
  intro i
  induction i using Nat.strongRecOn with
  | ind i ih =>
    intro hi
    rcases hg i _ (List.getElem?_eq_getElem hi) with ⟨_, h1, h2, _⟩ | ⟨_, h0, h1, h2, _⟩ | ⟨_, h0, hz, h1, h2, _⟩
    · omega
    · have := ih (i - 1) (by omega) (by omega)
      omega
    · have a1 := ih (i - 1) (by omega) (by omega)
      have a2 := ih (i - 1 - sz r (i - 1)) (by omega) (by omega)
      omega
theorem good_nest {l : List Nd} {r : Acc} (h : run [] l = some r) : ∀ i, i < l.length → ∀ j, j ≤ i → i + 1 ≤ j + sz r i → i + sz r j ≤ j + sz r i ∧ dp r j ≤ dp r i := by
  have hg := (run_good.1 h).2
  have hs := good_sz h
  intro i
  induction i using Nat.strongRecOn with
  | ind i ih =>
    intro hi j hj hl
    by_cases he : j = i
    · subst he; exact ⟨Nat.le_refl _, Nat.le_refl _⟩
    rcases hg i _ (List.getElem?_eq_getElem hi) with ⟨_, h1, h2, _⟩ | ⟨_, h0, h1, h2, _⟩ | ⟨_, h0, hz, h1, h2, _⟩
    · omega
    · have := ih (i - 1) (by omega) (by omega) j (by omega) (by omega)
      omega
    · by_cases hlast : i ≤ j + sz r (i - 1)
      · have := ih (i - 1) (by omega) (by omega) j (by omega) (by omega)
        omega
      · have a2 := hs (i - 1 - sz r (i - 1)) (by omega)
        have := ih (i - 1 - sz r (i - 1)) (by omega) (by omega) j (by omega) (by omega)
        omega

/-! ### What is valid -/
def checkV (l : List Nd) : Int :=
  if 60 < l.length then 4 else
    match run [] l with
    | none => 8
    | some r => if 0 < l.length ∧ sz r (l.length - 1) = l.length then (if 20 < dp r (l.length - 1) then 34 else 0) else 8
theorem check_ok {l : List Nd} : checkV l = 0 ↔ ∃ r, run [] l = some r ∧ 0 < l.length ∧ l.length ≤ 60 ∧ sz r (l.length - 1) = l.length ∧ dp r (l.length - 1) ≤ 20 := by
  unfold checkV
  constructor
  · intro h
    split at h
    · simp at h
    cases hr : run [] l with
    | none => rw [hr] at h; simp at h
    | some r =>
      rw [hr] at h
      simp only at h
      split at h
      · rename_i h1
        split at h
        · simp at h
        · exact ⟨r, rfl, h1.1, by omega, h1.2, by omega⟩
      · simp at h
  · rintro ⟨r, hr, h0, h60, h1, h2⟩
    rw [if_neg (by omega), hr]
    simp only
    rw [if_pos ⟨h0, h1⟩, if_neg (by omega)]
/-- Sizes and depths of a valid list; of another one: none. -/
def accV (l : List Nd) : Acc := (run [] l).getD []
theorem check_acc {l : List Nd} (h : checkV l = 0) : run [] l = some (accV l) ∧ 0 < l.length ∧ l.length ≤ 60 ∧ sz (accV l) (l.length - 1) = l.length ∧ dp (accV l) (l.length - 1) ≤ 20 := by
  obtain ⟨r, hr, h1⟩ := check_ok.1 h
  unfold accV
  rw [hr]
  exact ⟨rfl, h1⟩
theorem acc_is {l : List Nd} {r : Acc} (h : run [] l = some r) : accV l = r := by unfold accV; rw [h]; rfl

/-! ### The expression of a node -/
def shift (d : Int) (x : Nd) : Nd := ⟨x.kind, x.n, if 0 < arity x.kind then x.a - d else x.a, if 1 < arity x.kind then x.b - d else x.b, x.at_⟩
theorem shift_add (d e : Int) (x : Nd) : shift d (shift e x) = shift (d + e) x := by
  unfold shift
  rcases arity_cases x.kind with h | h | h <;> simp [h] <;> omega
theorem shift_zero (x : Nd) : shift 0 x = x := by
  unfold shift
  cases x; simp
/-- .. which is the last of so many nodes that stand behind each other. -/
def cutL (l : List Nd) (s at_ : Nat) : List Nd := ((l.drop (at_ + 1 - s)).take s).map (shift ((at_ + 1 - s : Nat) : Int))
theorem cut_len {l : List Nd} {s at_ : Nat} (hs : s ≤ at_ + 1) (ha : at_ < l.length) : (cutL l s at_).length = s := by
  unfold cutL; rw [List.length_map, List.length_take, List.length_drop]; omega
theorem cut_get {l : List Nd} {s at_ : Nat} (j : Nat) (hj : j < s) : (cutL l s at_)[j]? = (l[at_ + 1 - s + j]?).map (shift ((at_ + 1 - s : Nat) : Int)) := by
  unfold cutL; rw [List.getElem?_map, List.getElem?_take_of_lt hj, List.getElem?_drop]
theorem cut_run {l : List Nd} {r : Acc} (h : run [] l = some r) {at_ : Nat} (ha : at_ < l.length) : run [] (cutL l (sz r at_) at_) = some ((r.drop (at_ + 1 - sz r at_)).take (sz r at_)) := by
  obtain ⟨hl, hg⟩ := run_good.1 h
  have hs := good_sz h
  have hn := good_nest h at_ ha
  have sa := hs at_ ha
  rw [run_good]
  have hsz : ∀ j, j < sz r at_ → sz ((r.drop (at_ + 1 - sz r at_)).take (sz r at_)) j = sz r (at_ + 1 - sz r at_ + j) := fun j hj => by
    rw [sz_take hj]; unfold sz; rw [List.getElem?_drop]
  have hdp : ∀ j, j < sz r at_ → dp ((r.drop (at_ + 1 - sz r at_)).take (sz r at_)) j = dp r (at_ + 1 - sz r at_ + j) := fun j hj => by
    rw [dp_take hj]; unfold dp; rw [List.getElem?_drop]
  refine ⟨?_, fun j x hx => ?_⟩
  · rw [cut_len sa.2.1 ha, List.length_take, List.length_drop]; omega
  have hj : j < sz r at_ := by
    have := (List.getElem?_eq_some_iff.1 hx).1
    rwa [cut_len sa.2.1 ha] at this
  rw [cut_get j hj] at hx
  obtain ⟨f, hf⟩ : ∃ f, at_ + 1 - sz r at_ = f := ⟨_, rfl⟩
  rw [hf] at hx hsz hdp ⊢
  have hfj : f + j < l.length := by omega
  rw [List.getElem?_eq_getElem hfj] at hx
  simp only [Option.map_some, Option.some.injEq] at hx
  have n1 := (hn (f + j) (by omega) (by omega)).1
  have hgj := hg (f + j) _ (List.getElem?_eq_getElem hfj)
  obtain ⟨y, hy⟩ : ∃ y, l[f + j] = y := ⟨_, rfl⟩
  rw [hy] at hx hgj
  subst hx
  have ek : (shift (f : Int) y).kind = y.kind := rfl
  rcases hgj with ⟨h0, h1, h2, h3⟩ | ⟨h0, hi, h1, h2, h3⟩ | ⟨h0, hi, hz, h1, h2, h3⟩
  · refine .inl ⟨h0, (hsz j hj).trans h1, (hdp j hj).trans h2, ?_⟩
    rw [right_iff] at h3 ⊢
    simp only [shift, h0, Nat.lt_irrefl, if_false, Nat.not_lt_zero]
    exact h3
  · have s1 := hs (f + j - 1) (by omega)
    have hj1 : 1 ≤ j := by omega
    have e1 : f + j - 1 = f + (j - 1) := by omega
    rw [e1] at h1 h2
    refine .inr (.inl ⟨h0, hj1, ?_, ?_, ?_⟩)
    · rw [hsz j hj, hsz (j - 1) (by omega), h1]
    · rw [hdp j hj, hdp (j - 1) (by omega), h2]
    · rw [right_iff] at h3 ⊢
      simp only [shift, h0, Nat.lt_irrefl, if_false, Nat.zero_lt_one, if_true]
      obtain ⟨k1, k2, k3, k4, k5, k6, k7, k8⟩ := h3
      exact ⟨k1, k2, k3, k4, k5, k6, by rw [k7]; omega, k8⟩
  · have s1 := hs (f + j - 1) (by omega)
    have s2 := hs (f + j - 1 - sz r (f + j - 1)) (by omega)
    have hj1 : 1 ≤ j := by omega
    have e1 : f + j - 1 = f + (j - 1) := by omega
    rw [e1] at h1 h2 h3 s1 s2 hz
    have hz2 : sz r (f + (j - 1)) ≤ j - 1 := by omega
    have e2 : f + (j - 1) - sz r (f + (j - 1)) = f + (j - 1 - sz r (f + (j - 1))) := by omega
    rw [e2] at h1 h2 h3
    have e3 := hsz (j - 1) (by omega)
    refine .inr (.inr ⟨h0, hj1, ?_, ?_, ?_, ?_⟩)
    · rw [e3]; exact hz2
    · rw [hsz j hj, e3, hsz _ (by omega), h1]
    · rw [hdp j hj, e3, hdp _ (by omega), hdp _ (by omega), h2]
    · rw [e3]
      rw [right_iff] at h3 ⊢
      have g2 : (0 : Nat) < 2 := by omega
      have g1 : (1 : Nat) < 2 := by omega
      simp only [shift, h0, g1, g2, if_true]
      obtain ⟨k1, k2, k3, k4, k5, k6, k7, k8⟩ := h3
      exact ⟨k1, k2, k3, k4, k5, k6, by rw [k7]; omega, by rw [k8]; omega⟩
/-- The expression of a node of a valid one is valid, has its size, and is no deeper. -/
theorem cut_ok {l : List Nd} (h : checkV l = 0) {at_ : Nat} (ha : at_ < l.length) :
    checkV (cutL l (sz (accV l) at_) at_) = 0 ∧ (cutL l (sz (accV l) at_) at_).length = sz (accV l) at_ ∧ dp (accV (cutL l (sz (accV l) at_) at_)) (sz (accV l) at_ - 1) = dp (accV l) at_ ∧ dp (accV l) at_ ≤ dp (accV l) (l.length - 1) := by
  obtain ⟨hr, h0, h60, hsz, hdp⟩ := check_acc h
  have sa := good_sz hr at_ ha
  have hlen := cut_len (l := l) sa.2.1 ha
  have hrun := cut_run hr ha
  have hn := good_nest hr (l.length - 1) (by omega) at_ (by omega) (by omega)
  have e1 : sz (((accV l).drop (at_ + 1 - sz (accV l) at_)).take (sz (accV l) at_)) (sz (accV l) at_ - 1) = sz (accV l) at_ := by
    rw [sz_take (by omega)]; unfold sz; rw [List.getElem?_drop]
    show ((accV l)[at_ + 1 - sz (accV l) at_ + (sz (accV l) at_ - 1)]?.getD (0, 0)).1 = sz (accV l) at_
    rw [show at_ + 1 - sz (accV l) at_ + (sz (accV l) at_ - 1) = at_ by omega]; rfl
  have e2 : dp (((accV l).drop (at_ + 1 - sz (accV l) at_)).take (sz (accV l) at_)) (sz (accV l) at_ - 1) = dp (accV l) at_ := by
    rw [dp_take (by omega)]; unfold dp; rw [List.getElem?_drop]
    show ((accV l)[at_ + 1 - sz (accV l) at_ + (sz (accV l) at_ - 1)]?.getD (0, 0)).2 = dp (accV l) at_
    rw [show at_ + 1 - sz (accV l) at_ + (sz (accV l) at_ - 1) = at_ by omega]; rfl
  refine ⟨check_ok.2 ⟨_, hrun, ?_, ?_, ?_, ?_⟩, hlen, ?_, hn.2⟩
  · omega
  · omega
  · rw [hlen]; exact e1
  · rw [hlen, e2]; omega
  · rw [acc_is hrun]; exact e2
/-- The whole is the expression itself. -/
theorem cut_whole {l : List Nd} (h : 0 < l.length) : cutL l l.length (l.length - 1) = l := by
  unfold cutL
  rw [show l.length - 1 + 1 - l.length = 0 by omega, List.drop_zero, List.take_length]
  conv => rhs; rw [← List.map_id l]
  exact List.map_congr_left fun x _ => shift_zero x
end Go.Proofs.YtdinaedknlkicaaGreatDoor.Nodes

/-
  What the calls of layer 4 return, plainly, and the laws of its statements: made of parts, sizes, the same, something else. No program in this text.
-/
import Derived.Test.YtdinaedknlkicaaGreatDoorNodeMath
namespace Go.Proofs.YtdinaedknlkicaaGreatDoor.Nodes

def depthV (l : List Nd) : Int × Int := if checkV l = 0 then (((dp (accV l) (l.length - 1) : Nat) : Int), 0) else (0, checkV l)
def sizeV (l : List Nd) (at_ : Int) : Int × Int := if checkV l = 0 then (if 0 ≤ at_ ∧ at_ < l.length then (((sz (accV l) at_.toNat : Nat) : Int), 0) else (0, 2)) else (0, checkV l)
def partV (l : List Nd) (at_ : Int) : List Nd × Int := if checkV l = 0 then (if 0 ≤ at_ ∧ at_ < l.length then (cutL l (sz (accV l) at_.toNat) at_.toNat, 0) else ([], 2)) else ([], checkV l)
def alikeB (a b : List Nd) : Bool := decide (a.map core = b.map core)
def equalB (a b : List Nd) : Bool := decide (a.map full = b.map full)
def sameV (a b : List Nd) : Bool × Int := if checkV a = 0 then (if checkV b = 0 then (alikeB a b, 0) else (false, checkV b)) else (false, checkV a)
def partsV (k : Int) : Int × Int := if 1 ≤ k ∧ k ≤ 19 then (((arity k : Nat) : Int), 0) else (0, 2)
/-- Some parts, and their whole. -/
def madeL (k n at_ : Int) : List (List Nd) → List Nd
  | [] => [⟨k, n, 0, 0, at_⟩]
  | [p] => p ++ [⟨k, n, (p.length : Int) - 1, 0, at_⟩]
  | p :: q :: _ => p ++ q.map (shift (-(p.length : Int))) ++ [⟨k, n, (p.length : Int) - 1, (p.length : Int) + q.length - 1, at_⟩]
def badP (p : List Nd) : Bool := checkV p != 0
def nodeV (k n at_ : Int) (ps : List (List Nd)) : List Nd × Int :=
  if 1 ≤ k ∧ k ≤ 19 ∧ arity k = ps.length ∧ 0 ≤ n ∧ (n = 0 ∨ k = 1) ∧ 0 ≤ at_ ∧ at_ ≤ 400 then
    match ps.find? badP with
    | some p => ([], checkV p)
    | none => if checkV (madeL k n at_ ps) = 0 then (madeL k n at_ ps, 0) else ([], checkV (madeL k n at_ ps))
  else ([], 2)
theorem nodeV_ok {k n at_ : Int} {ps : List (List Nd)} (h1 : 1 ≤ k ∧ k ≤ 19 ∧ arity k = ps.length ∧ 0 ≤ n ∧ (n = 0 ∨ k = 1) ∧ 0 ≤ at_ ∧ at_ ≤ 400) (h2 : ∀ p ∈ ps, checkV p = 0) (h3 : checkV (madeL k n at_ ps) = 0) : nodeV k n at_ ps = (madeL k n at_ ps, 0) := by
  unfold nodeV
  rw [if_pos h1]
  have : ps.find? badP = none := List.find?_eq_none.2 fun p hp => by unfold badP; rw [h2 p hp]; simp
  rw [this]
  simp only
  rw [if_pos h3]

/-! ### A node of a valid expression -/
/-- The facts on a node: its parts are there, their sizes add up, and Node makes it of them. -/
theorem node_facts {l : List Nd} (h : checkV l = 0) {i : Nat} (hi : i < l.length) :
    1 ≤ l[i].kind ∧ l[i].kind ≤ 19 ∧ 0 ≤ l[i].n ∧ (l[i].n = 0 ∨ l[i].kind = 1) ∧ 0 ≤ l[i].at_ ∧ l[i].at_ ≤ 400 ∧
    ((arity l[i].kind = 0 ∧ l[i].a = 0 ∧ l[i].b = 0 ∧ sz (accV l) i = 1) ∨
     (arity l[i].kind = 1 ∧ 1 ≤ i ∧ l[i].a = ((i - 1 : Nat) : Int) ∧ l[i].b = 0 ∧ sz (accV l) i = 1 + sz (accV l) (i - 1)) ∨
     (arity l[i].kind = 2 ∧ 1 ≤ i ∧ sz (accV l) (i - 1) ≤ i - 1 ∧ l[i].a = ((i - 1 - sz (accV l) (i - 1) : Nat) : Int) ∧ l[i].b = ((i - 1 : Nat) : Int) ∧ sz (accV l) i = 1 + sz (accV l) (i - 1) + sz (accV l) (i - 1 - sz (accV l) (i - 1)))) := by
  obtain ⟨hr, _⟩ := check_acc h
  rcases (run_good.1 hr).2 i _ (List.getElem?_eq_getElem hi) with ⟨h0, h1, _, h3⟩ | ⟨h0, h1, h2, _, h3⟩ | ⟨h0, h1, hz, h2, _, h3⟩ <;>
    obtain ⟨k1, k2, k3, k4, k5, k6, k7, k8⟩ := right_iff.1 h3
  · exact ⟨k1, k2, k3, k4, k5, k6, .inl ⟨h0, k7, k8, h1⟩⟩
  · exact ⟨k1, k2, k3, k4, k5, k6, .inr (.inl ⟨h0, h1, k7, k8, h2⟩)⟩
  · exact ⟨k1, k2, k3, k4, k5, k6, .inr (.inr ⟨h0, h1, hz, k7, k8, h2⟩)⟩
theorem part_ok {l : List Nd} (h : checkV l = 0) {i : Nat} (hi : i < l.length) : partV l (i : Int) = (cutL l (sz (accV l) i) i, 0) := by
  unfold partV; rw [if_pos h, if_pos ⟨by omega, by omega⟩, Int.toNat_natCast]
theorem size_ok {l : List Nd} (h : checkV l = 0) {i : Nat} (hi : i < l.length) : sizeV l (i : Int) = (((sz (accV l) i : Nat) : Int), 0) := by
  unfold sizeV; rw [if_pos h, if_pos ⟨by omega, by omega⟩, Int.toNat_natCast]
theorem depth_ok {l : List Nd} (h : checkV l = 0) : depthV l = (((dp (accV l) (l.length - 1) : Nat) : Int), 0) := by
  unfold depthV; rw [if_pos h]
theorem parts_ok {k : Int} (h1 : 1 ≤ k) (h2 : k ≤ 19) : partsV k = (((arity k : Nat) : Int), 0) := by
  unfold partsV; rw [if_pos ⟨h1, h2⟩]
/-- The expressions of a node's parts. -/
def partsOf (l : List Nd) (x : Nd) : List (List Nd) :=
  if arity x.kind = 0 then [] else if arity x.kind = 1 then [(partV l x.a).1] else [(partV l x.a).1, (partV l x.b).1]
theorem node_made {l : List Nd} (h : checkV l = 0) {i : Nat} (hi : i < l.length) : nodeV l[i].kind l[i].n l[i].at_ (partsOf l l[i]) = (cutL l (sz (accV l) i) i, 0) := by
  obtain ⟨hr, _⟩ := check_acc h
  obtain ⟨k1, k2, k3, k4, k5, k6, hc⟩ := node_facts h hi
  obtain ⟨c1, c2, _⟩ := cut_ok h hi
  have hs := good_sz hr i hi
  have e2 : partsOf l l[i] = (if arity l[i].kind = 0 then [] else if arity l[i].kind = 1 then [(partV l l[i].a).1] else [(partV l l[i].a).1, (partV l l[i].b).1]) := rfl
  obtain ⟨x, hx⟩ : ∃ x, l[i] = x := ⟨_, rfl⟩
  rw [hx] at k1 k2 k3 k4 k5 k6 hc e2
  rw [hx, e2]
  -- the list made is the expression itself
  have key : ∀ ps : List (List Nd), arity x.kind = ps.length → (∀ p ∈ ps, checkV p = 0) → madeL x.kind x.n x.at_ ps = cutL l (sz (accV l) i) i → nodeV x.kind x.n x.at_ ps = (cutL l (sz (accV l) i) i, 0) := by
    intro ps ha hp hm
    rw [nodeV_ok ⟨k1, k2, ha, k3, k4, k5, k6⟩ hp (by rw [hm]; exact c1), hm]
  -- a cut's elements
  have get : ∀ s p j, j < s → p < l.length → s ≤ p + 1 → (cutL l s p)[j]? = (l[p + 1 - s + j]?).map (shift ((p + 1 - s : Nat) : Int)) := fun s p j hj _ _ => cut_get j hj
  rcases hc with ⟨h0, ha, hb, h1⟩ | ⟨h0, hi1, ha, hb, h1⟩ | ⟨h0, hi1, hz, ha, hb, h1⟩
  · rw [h0, if_pos rfl]
    refine key [] h0 (fun p hp => by cases hp) ?_
    apply List.ext_getElem?
    intro j
    rw [h1]
    cases j with
    | zero =>
      rw [cut_get 0 (by omega), show i + 1 - 1 + 0 = i by omega, List.getElem?_eq_getElem hi, hx]
      simp only [madeL, List.getElem?_cons_zero, Option.map_some]
      have : shift ((i + 1 - 1 : Nat) : Int) x = ⟨x.kind, x.n, 0, 0, x.at_⟩ := by
        unfold shift; rw [h0, ha, hb]; simp
      rw [this]
    | succ j =>
      rw [List.getElem?_eq_none (by simp [madeL]), List.getElem?_eq_none (by rw [cut_len (by omega) hi]; omega)]
  · have hi2 : i - 1 < l.length := by omega
    have s1 := good_sz hr (i - 1) hi2
    obtain ⟨d1, d2, _⟩ := cut_ok h hi2
    rw [h0, if_neg (by omega), if_pos rfl, ha, part_ok h hi2]
    obtain ⟨p, hp⟩ : ∃ p, cutL l (sz (accV l) (i - 1)) (i - 1) = p := ⟨_, rfl⟩
    rw [hp] at d1 d2 ⊢
    refine key [p] h0 (fun q hq => by simp at hq; rw [hq]; exact d1) ?_
    apply List.ext_getElem?
    intro j
    show (p ++ [_])[j]? = _
    rcases Nat.lt_trichotomy j p.length with hj | hj | hj
    · rw [List.getElem?_append_left hj, ← hp, cut_get j (by omega), cut_get j (by omega)]
      rw [show i - 1 + 1 - sz (accV l) (i - 1) = i + 1 - sz (accV l) i by omega]
    · subst hj
      rw [List.getElem?_append_right (Nat.le_refl _), Nat.sub_self, cut_get p.length (by omega), show i + 1 - sz (accV l) i + p.length = i by omega, List.getElem?_eq_getElem hi, hx]
      simp only [List.getElem?_cons_zero, Option.map_some, Option.some.injEq]
      unfold shift
      rw [h0, ha, hb]
      simp only [Nat.zero_lt_one, if_true, Nat.lt_irrefl, if_false, Nd.mk.injEq, true_and, and_true]
      omega
    · rw [List.getElem?_eq_none (by simp; omega), List.getElem?_eq_none (by rw [cut_len (by omega) hi]; omega)]
  · have hi2 : i - 1 < l.length := by omega
    have hi3 : i - 1 - sz (accV l) (i - 1) < l.length := by omega
    have s1 := good_sz hr (i - 1) hi2
    have s2 := good_sz hr _ hi3
    obtain ⟨d1, d2, _⟩ := cut_ok h hi2
    obtain ⟨d3, d4, _⟩ := cut_ok h hi3
    obtain ⟨f, hf⟩ : ∃ f, i - 1 - sz (accV l) (i - 1) = f := ⟨_, rfl⟩
    rw [hf] at ha h1 hi3 s2 d3 d4
    rw [h0, if_neg (by omega), if_neg (by omega), ha, hb, part_ok h hi2, part_ok h hi3]
    obtain ⟨p, hp⟩ : ∃ p, cutL l (sz (accV l) f) f = p := ⟨_, rfl⟩
    obtain ⟨q, hq⟩ : ∃ q, cutL l (sz (accV l) (i - 1)) (i - 1) = q := ⟨_, rfl⟩
    rw [hp] at d3 d4
    rw [hq] at d1 d2
    rw [hp, hq]
    refine key [p, q] h0 (fun y hy => by
      simp at hy
      rcases hy with rfl | rfl
      · exact d3
      · exact d1) ?_
    apply List.ext_getElem?
    intro j
    show (p ++ q.map (shift (-(p.length : Int))) ++ [_])[j]? = _
    have hpq : (p ++ q.map (shift (-(p.length : Int)))).length = p.length + q.length := by rw [List.length_append, List.length_map]
    rcases Nat.lt_trichotomy j (p.length + q.length) with hj | hj | hj
    · rw [List.getElem?_append_left (by omega)]
      by_cases hjp : j < p.length
      · rw [List.getElem?_append_left hjp, ← hp, cut_get j (by omega), cut_get j (by omega)]
        rw [show f + 1 - sz (accV l) f = i + 1 - sz (accV l) i by omega]
      · rw [List.getElem?_append_right (by omega), List.getElem?_map, ← hq, cut_get (j - p.length) (by omega), cut_get j (by omega), Option.map_map]
        rw [show i - 1 + 1 - sz (accV l) (i - 1) + (j - p.length) = i + 1 - sz (accV l) i + j by omega]
        congr 1
        funext y
        show shift _ (shift _ y) = _
        rw [shift_add]
        congr 1
        omega
    · subst hj
      rw [List.getElem?_append_right (by omega), hpq, Nat.sub_self, cut_get (p.length + q.length) (by omega), show i + 1 - sz (accV l) i + (p.length + q.length) = i by omega, List.getElem?_eq_getElem hi, hx]
      simp only [List.getElem?_cons_zero, Option.map_some, Option.some.injEq]
      unfold shift
      have g2 : (0 : Nat) < 2 := by omega
      have g1 : (1 : Nat) < 2 := by omega
      rw [h0, ha, hb]
      simp only [g1, g2, if_true, Nd.mk.injEq, true_and, and_true]
      constructor <;> omega
    · rw [List.getElem?_eq_none (by rw [List.length_append, hpq]; simp; omega), List.getElem?_eq_none (by rw [cut_len (by omega) hi]; omega)]

/-! ### The same -/
theorem alike_symm (a b : List Nd) : alikeB a b = alikeB b a := by
  unfold alikeB; exact decide_eq_decide.2 ⟨Eq.symm, Eq.symm⟩
theorem alike_refl (a : List Nd) : alikeB a a = true := decide_eq_true rfl
theorem equal_refl (a : List Nd) : equalB a a = true := decide_eq_true rfl
theorem equal_alike {a b : List Nd} (h : equalB a b = true) : alikeB a b = true := by
  unfold equalB at h; unfold alikeB
  rw [decide_eq_true_iff] at h ⊢
  have e : ∀ l : List Nd, l.map core = (l.map full).map fun x => (x.1, x.2.1, x.2.2.1, x.2.2.2.1) := fun l => by rw [List.map_map]; rfl
  rw [e, e, h]
theorem equal_eq {a b : List Nd} (h : equalB a b = true) : a = b := by
  unfold equalB at h
  rw [decide_eq_true_iff] at h
  have inj : ∀ x y : Nd, full x = full y → x = y := fun x y => full_inj
  exact List.map_inj_right (fun {x y} e => inj x y e) |>.1 h
theorem step0 {acc : Acc} {x : Nd} (h : arity x.kind = 0) : step acc x = if rightB x 0 0 then some (1, 1) else none := by
  unfold step; rw [if_pos h]
theorem step1 {acc : Acc} {x : Nd} (h : arity x.kind = 1) : step acc x = if acc.length = 0 then none else if rightB x ((acc.length - 1 : Nat) : Int) 0 then some (1 + sz acc (acc.length - 1), 1 + dp acc (acc.length - 1)) else none := by
  unfold step; rw [if_neg (by omega), if_pos h]
theorem step2 {acc : Acc} {x : Nd} (h : arity x.kind = 2) : step acc x = if acc.length = 0 then none else if acc.length - 1 < sz acc (acc.length - 1) then none
    else if rightB x ((acc.length - 1 - sz acc (acc.length - 1) : Nat) : Int) ((acc.length - 1 : Nat) : Int) then
      some (1 + sz acc (acc.length - 1) + sz acc (acc.length - 1 - sz acc (acc.length - 1)), max (1 + dp acc (acc.length - 1)) (1 + dp acc (acc.length - 1 - sz acc (acc.length - 1)))) else none := by
  unfold step
  rw [if_neg (show ¬ arity x.kind = 0 by omega), if_neg (show ¬ arity x.kind = 1 by omega)]
/-- A node that may stand for another one wherever that is right. -/
theorem step_as {acc : Acc} {x y : Nd} {q : Nat × Nat} (hk : y.kind = x.kind) (hr : ∀ a b, rightB x a b = true → rightB y a b = true) (h : step acc x = some q) : step acc y = some q := by
  rcases arity_cases x.kind with ha | ha | ha
  · rw [step0 ha] at h
    rw [step0 (by rw [hk]; exact ha)]
    split at h
    · rename_i hh; rw [if_pos (hr _ _ hh)]; exact h
    · cases h
  · rw [step1 ha] at h
    rw [step1 (by rw [hk]; exact ha)]
    split at h
    · cases h
    rename_i h0
    rw [if_neg h0]
    split at h
    · rename_i hh; rw [if_pos (hr _ _ hh)]; exact h
    · cases h
  · rw [step2 ha] at h
    rw [step2 (by rw [hk]; exact ha)]
    split at h
    · cases h
    rename_i h0
    rw [if_neg h0]
    split at h
    · cases h
    rename_i h1
    rw [if_neg h1]
    split at h
    · rename_i hh; rw [if_pos (hr _ _ hh)]; exact h
    · cases h
theorem step_not {acc : Acc} {x y : Nd} {q : Nat × Nat} (hk : y.kind = x.kind) (hr : ∀ a b, rightB x a b = true → rightB y a b = false) (h : step acc x = some q) : step acc y = none := by
  rcases arity_cases x.kind with ha | ha | ha
  · rw [step0 ha] at h
    rw [step0 (by rw [hk]; exact ha)]
    split at h
    · rename_i hh; rw [if_neg (by rw [hr _ _ hh]; simp)]
    · cases h
  · rw [step1 ha] at h
    rw [step1 (by rw [hk]; exact ha)]
    split at h
    · cases h
    rename_i h0
    rw [if_neg h0]
    split at h
    · rename_i hh; rw [if_neg (by rw [hr _ _ hh]; simp)]
    · cases h
  · rw [step2 ha] at h
    rw [step2 (by rw [hk]; exact ha)]
    split at h
    · cases h
    rename_i h0
    rw [if_neg h0]
    split at h
    · cases h
    rename_i h1
    rw [if_neg h1]
    split at h
    · rename_i hh; rw [if_neg (by rw [hr _ _ hh]; simp)]
    · cases h
theorem step_value {acc : Acc} {x : Nd} {p : Nat × Nat} (h : step acc x = some p) :
    p = if arity x.kind = 0 then (1, 1) else if arity x.kind = 1 then (1 + sz acc (acc.length - 1), 1 + dp acc (acc.length - 1)) else
      (1 + sz acc (acc.length - 1) + sz acc (acc.length - 1 - sz acc (acc.length - 1)), max (1 + dp acc (acc.length - 1)) (1 + dp acc (acc.length - 1 - sz acc (acc.length - 1)))) := by
  rcases arity_cases x.kind with ha | ha | ha
  · rw [step0 ha] at h
    rw [if_pos ha]
    split at h
    · cases h; rfl
    · cases h
  · rw [step1 ha] at h
    rw [if_neg (by omega), if_pos ha]
    split at h
    · cases h
    split at h
    · cases h; rfl
    · cases h
  · rw [step2 ha] at h
    rw [if_neg (by omega), if_neg (by omega)]
    split at h
    · cases h
    split at h
    · cases h
    split at h
    · cases h; rfl
    · cases h
theorem step_core {acc : Acc} {x y : Nd} {p q : Nat × Nat} (h : core x = core y) (hp : step acc x = some p) (hq : step acc y = some q) : p = q := by
  simp only [core, Prod.mk.injEq] at h
  rw [step_value hp, step_value hq, h.1]
theorem run_core (l : List Nd) : ∀ (m : List Nd) (acc r s : Acc), l.map core = m.map core → run acc l = some r → run acc m = some s → r = s := by
  induction l with
  | nil =>
    intro m acc r s h hr hs
    cases m with
    | nil => cases hr; cases hs; rfl
    | cons y m => simp at h
  | cons x l ih =>
    intro m acc r s h hr hs
    cases m with
    | nil => simp at h
    | cons y m =>
      simp only [List.map_cons, List.cons.injEq] at h
      replace hr : ((step acc x).bind fun p => run (acc ++ [p]) l) = some r := hr
      replace hs : ((step acc y).bind fun p => run (acc ++ [p]) m) = some s := hs
      cases h1 : step acc x with
      | none => rw [h1] at hr; cases hr
      | some p =>
        cases h2 : step acc y with
        | none => rw [h2] at hs; cases hs
        | some q =>
          rw [h1] at hr
          rw [h2] at hs
          obtain rfl := step_core h.1 h1 h2
          exact ih m _ _ _ h.2 hr hs
/-- The same expressions have the same depth and as many nodes. -/
theorem alike_same {a b : List Nd} (ha : checkV a = 0) (hb : checkV b = 0) (h : alikeB a b = true) : depthV a = depthV b ∧ a.length = b.length := by
  unfold alikeB at h
  rw [decide_eq_true_iff] at h
  have hl : a.length = b.length := by simpa using congrArg List.length h
  have := run_core a b [] _ _ h (check_acc ha).1 (check_acc hb).1
  rw [depth_ok ha, depth_ok hb, this, hl]
  exact ⟨rfl, rfl⟩
/-- An expression at another place. -/
def moveL (p : Int) (l : List Nd) : List Nd := l.map fun x => ⟨x.kind, x.n, x.a, x.b, p⟩
theorem move_alike (p : Int) (l : List Nd) : alikeB l (moveL p l) = true := by
  unfold alikeB moveL
  rw [decide_eq_true_iff, List.map_map]
  exact List.map_congr_left fun x _ => rfl
theorem step_move {acc : Acc} {x : Nd} {p : Int} {q : Nat × Nat} (h0 : 0 ≤ p) (h1 : p ≤ 400) (h : step acc x = some q) : step acc ⟨x.kind, x.n, x.a, x.b, p⟩ = some q := by
  refine step_as (x := x) (y := ⟨x.kind, x.n, x.a, x.b, p⟩) rfl (fun a b e => ?_) h
  rw [right_iff] at e ⊢
  exact ⟨e.1, e.2.1, e.2.2.1, e.2.2.2.1, h0, h1, e.2.2.2.2.2.2⟩
theorem run_move (p : Int) (h0 : 0 ≤ p) (h1 : p ≤ 400) (l : List Nd) : ∀ acc r, run acc l = some r → run acc (moveL p l) = some r := by
  induction l with
  | nil => intro acc r h; exact h
  | cons x l ih =>
    intro acc r h
    replace h : ((step acc x).bind fun p => run (acc ++ [p]) l) = some r := h
    cases hs : step acc x with
    | none => rw [hs] at h; cases h
    | some q =>
      rw [hs] at h
      show ((step acc ⟨x.kind, x.n, x.a, x.b, p⟩).bind fun p' => run (acc ++ [p']) (moveL p l)) = some r
      rw [step_move h0 h1 hs]
      exact ih _ _ h
theorem move_ok {p : Int} {l : List Nd} (h0 : 0 ≤ p) (h1 : p ≤ 400) (h : checkV l = 0) : checkV (moveL p l) = 0 := by
  obtain ⟨hr, k0, k1, k2, k3⟩ := check_acc h
  have hl : (moveL p l).length = l.length := by unfold moveL; rw [List.length_map]
  exact check_ok.2 ⟨_, run_move p h0 h1 l _ _ hr, by omega, by omega, by rw [hl]; exact k2, by rw [hl]; exact k3⟩

/-! ### Something else -/
theorem set_alike {l : List Nd} {i : Nat} (hi : i < l.length) {y : Nd} (h : core y ≠ core l[i]) : alikeB l (l.set i y) = false := by
  unfold alikeB
  rw [decide_eq_false_iff_not]
  intro e
  apply h
  have := congrArg (·[i]?) e
  simp only [List.getElem?_map] at this
  rw [List.getElem?_eq_getElem hi, List.getElem?_set_self hi] at this
  simpa using this.symm
/-- A list of which a node is not right with the parts that it must have is no expression. -/
theorem set_bad {l : List Nd} (h : checkV l = 0) {i : Nat} (hi : i < l.length) {y : Nd} (hk : y.kind = l[i].kind) (hbad : ∀ a b, rightB l[i] a b = true → rightB y a b = false) : checkV (l.set i y) = 8 := by
  obtain ⟨hr, k0, k1, _⟩ := check_acc h
  have hrun : run [] (l.set i y) = none := by
    have e : l.set i y = l.take i ++ y :: l.drop (i + 1) := by rw [List.set_eq_take_append_cons_drop, if_pos hi]
    have hg := (run_good.1 hr).2 i _ (List.getElem?_eq_getElem hi)
    have hl := (run_good.1 hr).1
    have hst := (step_good (x := l[i]) (show i < (accV l).length by omega)).2 hg
    rw [at_eq (by omega)] at hst
    have hy : step ((accV l).take i) y = none := step_not hk hbad hst
    rw [e, run_append, run_take hr i (by omega)]
    show (step ((accV l).take i) y).bind _ = none
    rw [hy]; rfl
  unfold checkV
  rw [List.length_set, if_neg (by omega), hrun]
theorem same_other {l : List Nd} (h : checkV l = 0) {i : Nat} (hi : i < l.length) {y : Nd} (hm : checkV (l.set i y) = 0) (hc : core y ≠ core l[i]) : sameV l (l.set i y) = (false, 0) := by
  unfold sameV
  rw [if_pos h, if_pos hm, set_alike hi hc]
end Go.Proofs.YtdinaedknlkicaaGreatDoor.Nodes

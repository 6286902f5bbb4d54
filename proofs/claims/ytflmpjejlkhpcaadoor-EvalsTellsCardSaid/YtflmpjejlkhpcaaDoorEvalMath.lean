/-
  Values of expressions, plainly (layer 7): the values of all nodes for a record; parts by themselves, truth values, what is not used, what is made of two. No program in this text.
-/
import Derived.Test.YtflmpjejlkhpcaaDoorKindMath
import Derived.Test.YtflmpjejlkhpcaaDoorIntsMath
namespace Go.Proofs.YtflmpjejlkhpcaaDoor.Nodes

structure Rec where
  key : Int
  time : Int
  value : Int
def RecOk (r : Rec) : Prop := I64 r.key ∧ I64 r.time ∧ I64 r.value
def nth (vs : List Int) (i : Int) : Int := (vs[i.toNat]?).getD 0
/-- The value of a node behind nodes with these values. -/
def valV (r : Rec) (vs : List Int) (x : Nd) : Int :=
  if x.kind = 1 then x.n else if x.kind = 2 then r.key else if x.kind = 3 then r.time else if x.kind = 4 then r.value
  else opV x.kind (nth vs x.a) (if arity x.kind = 2 then nth vs x.b else 0)
/-- The values of all nodes. -/
def valsV (r : Rec) (l : List Nd) : List Int := l.foldl (fun vs x => vs ++ [valV r vs x]) []
theorem vals_snoc (r : Rec) (l : List Nd) (x : Nd) : valsV r (l ++ [x]) = valsV r l ++ [valV r (valsV r l) x] := by unfold valsV; rw [List.foldl_append]; rfl
theorem fold_len (r : Rec) (l : List Nd) : ∀ vs : List Int, (l.foldl (fun vs x => vs ++ [valV r vs x]) vs).length = vs.length + l.length := by
  induction l with
  | nil => intro vs; rfl
  | cons x l ih => intro vs; rw [List.foldl_cons, ih, List.length_append, List.length_cons, List.length_cons, List.length_nil]; omega
theorem vals_len (r : Rec) (l : List Nd) : (valsV r l).length = l.length := by unfold valsV; rw [fold_len]; simp
theorem fold_pre (r : Rec) (l : List Nd) : ∀ vs : List Int, vs <+: l.foldl (fun vs x => vs ++ [valV r vs x]) vs := by
  induction l with
  | nil => intro vs; exact List.prefix_refl _
  | cons x l ih => intro vs; exact (List.prefix_append vs _).trans (ih _)
theorem vals_pre (r : Rec) (l m : List Nd) : valsV r l <+: valsV r (l ++ m) := by unfold valsV; rw [List.foldl_append]; exact fold_pre r m _
theorem nth_pre {vs ws : List Int} (h : vs <+: ws) {i : Int} (hi : i.toNat < vs.length) : nth ws i = nth vs i := by
  obtain ⟨t, rfl⟩ := h
  unfold nth; rw [List.getElem?_append_left hi]
/-- A node's parts stand in front of it. -/
def Front (i : Nat) (x : Nd) : Prop := arity x.kind = 0 ∨ (arity x.kind = 1 ∧ 0 ≤ x.a ∧ x.a < i) ∨ (arity x.kind = 2 ∧ 0 ≤ x.a ∧ x.a < i ∧ 0 ≤ x.b ∧ x.b < i)
theorem front_of {l : List Nd} (h : checkV l = 0) {i : Nat} (hi : i < l.length) : Front i l[i] := by
  rcases parts_front h hi with h0 | ⟨h0, _, h2, h3⟩ | h0
  · exact .inl h0
  · exact .inr (.inl ⟨h0, h2, h3⟩)
  · exact .inr (.inr h0)
theorem arity_leaf {k : Int} (h : arity k = 0) : k ≤ 4 := by
  unfold arity at h
  split at h
  · assumption
  · split at h <;> omega
theorem arity_one {k : Int} (h : arity k = 1) : k = 5 ∨ k = 6 := by
  unfold arity at h
  split at h
  · omega
  · split at h <;> omega
theorem arity_two {k : Int} (h : arity k = 2) : 7 ≤ k := by
  unfold arity at h
  split at h
  · omega
  · split at h <;> omega
/-- The value of a node depends on the values of its parts alone. -/
theorem val_same {r : Rec} {vs ws : List Int} {x y : Nd} (hk : x.kind = y.kind) (hn : x.n = y.n) (h : (arity x.kind = 0 ∧ 1 ≤ x.kind) ∨ (arity x.kind = 1 ∧ nth vs x.a = nth ws y.a) ∨ (nth vs x.a = nth ws y.a ∧ nth vs x.b = nth ws y.b)) : valV r vs x = valV r ws y := by
  unfold valV
  rw [← hk, ← hn]
  rcases h with ⟨h, h1⟩ | ⟨h, e⟩ | ⟨e1, e2⟩
  · have := arity_leaf h
    split; · rfl
    split; · rfl
    split; · rfl
    split; · rfl
    omega
  · rw [e, h]; rfl
  · rw [e1, e2]
theorem take_pre {α : Type} (l : List α) (i : Nat) : l.take i ++ l.drop i = l := List.take_append_drop i l
theorem vals_take (r : Rec) (l : List Nd) (i : Nat) : valsV r (l.take i) <+: valsV r l := by
  have := vals_pre r (l.take i) (l.drop i)
  rwa [take_pre] at this
/-- The value of a node is what its operator gives for the values of its parts. -/
theorem val_eq {r : Rec} {l : List Nd} {i : Nat} (hi : i < l.length) (h1 : 1 ≤ l[i].kind) (hf : Front i l[i]) : nth (valsV r l) (i : Int) = valV r (valsV r l) l[i] := by
  have e : l.take (i + 1) = l.take i ++ [l[i]] := List.take_succ_eq_append_getElem hi
  have hl : (valsV r (l.take i)).length = i := by rw [vals_len, List.length_take]; omega
  have hp := vals_take r l (i + 1)
  rw [e, vals_snoc] at hp
  rw [nth_pre hp (by rw [List.length_append, hl]; simp)]
  have : nth (valsV r (l.take i) ++ [valV r (valsV r (l.take i)) l[i]]) (i : Int) = valV r (valsV r (l.take i)) l[i] := by
    unfold nth
    rw [Int.toNat_natCast, List.getElem?_append_right (by omega), hl, Nat.sub_self]
    rfl
  rw [this]
  have q := vals_take r l i
  refine val_same rfl rfl ?_
  rcases hf with h0 | ⟨h0, h2, h3⟩ | ⟨h0, h2, h3, h4, h5⟩
  · exact .inl ⟨h0, h1⟩
  · exact .inr (.inl ⟨h0, (nth_pre q (by omega)).symm⟩)
  · exact .inr (.inr ⟨(nth_pre q (by omega)).symm, (nth_pre q (by omega)).symm⟩)
theorem val_ok {r : Rec} {l : List Nd} (h : checkV l = 0) {i : Nat} (hi : i < l.length) : nth (valsV r l) (i : Int) = valV r (valsV r l) l[i] := by
  obtain ⟨k1, _⟩ := node_facts h hi
  exact val_eq hi k1 (front_of h hi)
/-! ### All values are numbers of 64 bits -/
def WideN (l : List Nd) : Prop := ∀ x ∈ l, x.n ≤ 9223372036854775807
theorem nth_i64 {vs : List Int} (h : ∀ v ∈ vs, I64 v) (i : Int) : I64 (nth vs i) := by
  unfold nth
  cases hq : vs[i.toNat]? with
  | none => exact ⟨by decide, by decide⟩
  | some v => exact h v (List.mem_of_getElem? hq)
theorem valV_i64 {r : Rec} (hr : RecOk r) {vs : List Int} (h : ∀ v ∈ vs, I64 v) {x : Nd} (h0 : 0 ≤ x.n) (h1 : x.n ≤ 9223372036854775807) : I64 (valV r vs x) := by
  unfold valV
  split; · exact ⟨by omega, h1⟩
  split; · exact hr.1
  split; · exact hr.2.1
  split; · exact hr.2.2
  exact opV_i64 (nth_i64 h _)
theorem fold_i64 {r : Rec} (hr : RecOk r) (l : List Nd) (hl : ∀ x ∈ l, 0 ≤ x.n ∧ x.n ≤ 9223372036854775807) : ∀ vs : List Int, (∀ v ∈ vs, I64 v) → ∀ v ∈ l.foldl (fun vs x => vs ++ [valV r vs x]) vs, I64 v := by
  induction l with
  | nil => intro vs h; exact h
  | cons x l ih =>
    intro vs h
    have hx := hl x (List.mem_cons_self ..)
    refine ih (fun y hy => hl y (List.mem_cons_of_mem _ hy)) _ fun v hv => ?_
    rcases List.mem_append.1 hv with h1 | h1
    · exact h v h1
    · rw [List.mem_singleton] at h1
      subst h1
      exact valV_i64 hr h hx.1 hx.2
theorem vals_i64 {r : Rec} (hr : RecOk r) {l : List Nd} (h : checkV l = 0) (hw : WideN l) : ∀ v ∈ valsV r l, I64 v := by
  refine fold_i64 hr l (fun x hx => ⟨?_, hw x hx⟩) [] (fun v hv => by cases hv)
  obtain ⟨i, hi, rfl⟩ := List.mem_iff_getElem.1 hx
  obtain ⟨_, _, k, _⟩ := node_facts h hi
  exact k
/-! ### What Of, All and Uses return -/
def evalV (r : Rec) (l : List Nd) : Int := nth (valsV r l) ((l.length : Int) - 1)
def ofE (r : Rec) (l : List Nd) : Int := if (ofV l).2.2 = 0 then evalV r l else 0
def allE (r : Rec) (l : List Nd) : List Int := if (ofV l).2.2 = 0 then valsV r l else []
def hasK (k : Int) (l : List Nd) : Bool := l.any fun x => x.kind == k
def useE (k : Int) (l : List Nd) : Bool := if (ofV l).2.2 = 0 then hasK k l else false
theorem eval_get {r : Rec} {l : List Nd} (h : 0 < l.length) : evalV r l = nth (valsV r l) ((l.length - 1 : Nat) : Int) := by
  unfold evalV; rw [show (l.length : Int) - 1 = ((l.length - 1 : Nat) : Int) by omega]
/-! ### Parts by themselves -/
theorem cut_vals {r : Rec} {l : List Nd} (h : checkV l = 0) {at_ : Nat} (ha : at_ < l.length) : ∀ j, j < sz (accV l) at_ → nth (valsV r (cutL l (sz (accV l) at_) at_)) (j : Int) = nth (valsV r l) ((at_ + 1 - sz (accV l) at_ + j : Nat) : Int) := by
  obtain ⟨c1, c2, _⟩ := cut_ok h ha
  have hs := good_sz (check_acc h).1 at_ ha
  obtain ⟨c, hcc⟩ : ∃ c, cutL l (sz (accV l) at_) at_ = c := ⟨_, rfl⟩
  obtain ⟨f, hff⟩ : ∃ f, at_ + 1 - sz (accV l) at_ = f := ⟨_, rfl⟩
  have hg : ∀ j, j < sz (accV l) at_ → c[j]? = (l[f + j]?).map (shift (f : Int)) := fun j hj => by rw [← hcc, ← hff]; exact cut_get j hj
  rw [hcc] at c1 c2 ⊢
  rw [hff]
  intro j
  induction j using Nat.strongRecOn with
  | ind j ih =>
    intro hj
    have hc : j < c.length := by omega
    have hl : f + j < l.length := by omega
    rw [val_ok c1 hc, val_ok h hl]
    have hgj := hg j hj
    rw [List.getElem?_eq_getElem hc, List.getElem?_eq_getElem hl] at hgj
    simp only [Option.map_some, Option.some.injEq] at hgj
    obtain ⟨k1, _, _, _, _, _, hf⟩ := node_facts c1 hc
    rw [hgj] at k1 hf ⊢
    obtain ⟨x, hx⟩ : ∃ x, l[f + j] = x := ⟨_, rfl⟩
    rw [hx] at k1 hf ⊢
    have ek : (shift (f : Int) x).kind = x.kind := rfl
    have up : ∀ i : Int, 0 ≤ i → i < j → nth (valsV r c) i = nth (valsV r l) (i + f) := fun i h0 h1 => by
      have := ih i.toNat (by omega) (by omega)
      rw [show ((i.toNat : Nat) : Int) = i by omega] at this
      rw [this, show ((f + i.toNat : Nat) : Int) = i + f by omega]
    refine val_same rfl rfl ?_
    rw [ek] at k1 hf ⊢
    rcases hf with ⟨a0, _⟩ | ⟨a0, h1, e1, _⟩ | ⟨a0, h1, hz, e1, e2, _⟩
    · exact .inl ⟨a0, k1⟩
    · have ea : (shift (f : Int) x).a = x.a - f := by unfold shift; rw [a0]; rfl
      rw [ea] at e1 ⊢
      refine .inr (.inl ⟨a0, ?_⟩)
      rw [up _ (by omega) (by omega)]
      congr 1; omega
    · have ea : (shift (f : Int) x).a = x.a - f := by unfold shift; rw [a0]; rfl
      have eb : (shift (f : Int) x).b = x.b - f := by unfold shift; rw [a0]; rfl
      rw [ea] at e1 ⊢
      rw [eb] at e2 ⊢
      refine .inr (.inr ⟨?_, ?_⟩)
      · rw [up _ (by omega) (by omega)]
        congr 1; omega
      · rw [up _ (by omega) (by omega)]
        congr 1; omega
/-- The value of a node is that of its expression. -/
theorem cut_eval {r : Rec} {l : List Nd} (h : checkV l = 0) {i : Nat} (hi : i < l.length) : evalV r (cutL l (sz (accV l) i) i) = nth (valsV r l) (i : Int) := by
  obtain ⟨_, c2, _⟩ := cut_ok h hi
  have hs := good_sz (check_acc h).1 i hi
  rw [eval_get (by omega), c2, cut_vals h hi _ (by omega), show i + 1 - sz (accV l) i + (sz (accV l) i - 1) = i by omega]
/-! ### Truth values -/
theorem b2i_two (c : Bool) : b2i c = 0 ∨ b2i c = 1 := by cases c; exact .inl rfl; exact .inr rfl
theorem op_truth {k a b : Int} (h : givesB k = true) : opV k a b = 0 ∨ opV k a b = 1 := by
  unfold givesB at h
  rw [decide_eq_true_iff] at h
  by_cases h19 : 19 < k
  · rw [opV_bad a b (.inr h19)]; exact .inl rfl
  have : k = 6 ∨ k = 12 ∨ k = 13 ∨ k = 14 ∨ k = 15 ∨ k = 16 ∨ k = 17 ∨ k = 18 ∨ k = 19 := by omega
  rcases this with rfl | rfl | rfl | rfl | rfl | rfl | rfl | rfl | rfl <;> exact b2i_two _
theorem val_truth {r : Rec} {l : List Nd} (h : checkV l = 0) {i : Nat} (hi : i < l.length) (ht : givesB l[i].kind = true) : nth (valsV r l) (i : Int) = 0 ∨ nth (valsV r l) (i : Int) = 1 := by
  rw [val_ok h hi]
  have h4 : ¬ l[i].kind ≤ 4 := fun h4 => by
    unfold givesB at ht
    rw [decide_eq_true_iff] at ht
    omega
  unfold valV
  rw [if_neg (by omega), if_neg (by omega), if_neg (by omega), if_neg (by omega)]
  exact op_truth ht
/-! ### What is not used does not matter -/
theorem fold_uses {r s : Rec} (l : List Nd) (h : ∀ x ∈ l, (x.kind = 2 → r.key = s.key) ∧ (x.kind = 3 → r.time = s.time) ∧ (x.kind = 4 → r.value = s.value)) : ∀ vs : List Int, l.foldl (fun vs x => vs ++ [valV r vs x]) vs = l.foldl (fun vs x => vs ++ [valV s vs x]) vs := by
  induction l with
  | nil => intro vs; rfl
  | cons x l ih =>
    intro vs
    rw [List.foldl_cons, List.foldl_cons]
    have : valV r vs x = valV s vs x := by
      obtain ⟨h2, h3, h4⟩ := h x (List.mem_cons_self ..)
      unfold valV
      split; · rfl
      split; · exact h2 ‹_›
      split; · exact h3 ‹_›
      split; · exact h4 ‹_›
      rfl
    rw [this]
    exact ih (fun y hy => h y (List.mem_cons_of_mem _ hy)) _
theorem vals_uses {r s : Rec} {l : List Nd} (h2 : hasK 2 l = true → r.key = s.key) (h3 : hasK 3 l = true → r.time = s.time) (h4 : hasK 4 l = true → r.value = s.value) : valsV r l = valsV s l := by
  refine fold_uses l (fun x hx => ?_) []
  have has : ∀ k : Int, x.kind = k → hasK k l = true := fun k hk => by
    unfold hasK
    rw [List.any_eq_true]
    exact ⟨x, hx, by rw [beq_iff_eq]; exact hk⟩
  exact ⟨fun h => h2 (has _ h), fun h => h3 (has _ h), fun h => h4 (has _ h)⟩
/-! ### Made of two -/
theorem shift_vals {r : Rec} {p q m : List Nd} (h : checkV q = 0) : ∀ i, i < q.length → nth (valsV r (p ++ q.map (shift (-(p.length : Int))) ++ m)) ((p.length + i : Nat) : Int) = nth (valsV r q) (i : Int) := by
  obtain ⟨c, hcc⟩ : ∃ c, p ++ q.map (shift (-(p.length : Int))) ++ m = c := ⟨_, rfl⟩
  have hlen : p.length + q.length ≤ c.length := by rw [← hcc, List.length_append, List.length_append, List.length_map]; omega
  have hg : ∀ (j : Nat) (hj : j < q.length) (hc : p.length + j < c.length), c[p.length + j] = shift (-(p.length : Int)) q[j] := fun j hj hc => by
    apply Option.some.inj
    rw [← List.getElem?_eq_getElem, ← hcc, List.append_assoc, List.getElem?_append_right (by omega), Nat.add_sub_cancel_left, List.getElem?_append_left (by rw [List.length_map]; exact hj), List.getElem?_map, List.getElem?_eq_getElem hj]
    rfl
  rw [hcc]
  intro i
  induction i using Nat.strongRecOn with
  | ind i ih =>
    intro hi
    have hc : p.length + i < c.length := by omega
    obtain ⟨k1, _⟩ := node_facts h hi
    have hfr := front_of h hi
    have e := hg i hi hc
    obtain ⟨x, hx⟩ : ∃ x, q[i] = x := ⟨_, rfl⟩
    rw [hx] at k1 hfr e
    have ek : (shift (-(p.length : Int)) x).kind = x.kind := rfl
    have up : ∀ j : Int, 0 ≤ j → j < i → nth (valsV r c) (j + p.length) = nth (valsV r q) j := fun j h0 h1 => by
      have := ih j.toNat (by omega) (by omega)
      rw [show ((p.length + j.toNat : Nat) : Int) = j + p.length by omega, show ((j.toNat : Nat) : Int) = j by omega] at this
      exact this
    rw [val_ok h hi, val_eq hc (by rw [e]; exact k1) ?_, e, hx]
    · refine val_same rfl rfl ?_
      rw [ek]
      rcases hfr with a0 | ⟨a0, h2, h3⟩ | ⟨a0, h2, h3, h4, h5⟩
      · exact .inl ⟨a0, k1⟩
      · have ea : (shift (-(p.length : Int)) x).a = x.a + p.length := by unfold shift; rw [a0]; simp
        rw [ea]
        exact .inr (.inl ⟨a0, up _ h2 h3⟩)
      · have ea : (shift (-(p.length : Int)) x).a = x.a + p.length := by unfold shift; rw [a0]; simp
        have eb : (shift (-(p.length : Int)) x).b = x.b + p.length := by unfold shift; rw [a0]; simp
        rw [ea, eb]
        exact .inr (.inr ⟨up _ h2 h3, up _ h4 h5⟩)
    · rw [e]
      unfold Front
      rw [ek]
      rcases hfr with a0 | ⟨a0, h2, h3⟩ | ⟨a0, h2, h3, h4, h5⟩
      · exact .inl a0
      · have ea : (shift (-(p.length : Int)) x).a = x.a + p.length := by unfold shift; rw [a0]; simp
        rw [ea]
        exact .inr (.inl ⟨a0, by omega, by omega⟩)
      · have ea : (shift (-(p.length : Int)) x).a = x.a + p.length := by unfold shift; rw [a0]; simp
        have eb : (shift (-(p.length : Int)) x).b = x.b + p.length := by unfold shift; rw [a0]; simp
        rw [ea, eb]
        exact .inr (.inr ⟨a0, by omega, by omega, by omega, by omega⟩)
/-- The value of what is made of two expressions is what its operator gives for theirs. -/
theorem made_eval {r : Rec} {a b : List Nd} {k n p : Int} (ha : checkV a = 0) (hb : checkV b = 0) (hk : 7 ≤ k) : evalV r (madeL k n p [a, b]) = opV k (evalV r a) (evalV r b) := by
  have e : madeL k n p [a, b] = a ++ b.map (shift (-(a.length : Int))) ++ [⟨k, n, (a.length : Int) - 1, (a.length : Int) + b.length - 1, p⟩] := rfl
  have hlen : (madeL k n p [a, b]).length = a.length + b.length + 1 := by simp [madeL]; omega
  have hpa := (check_acc ha).2.1
  have hpb := (check_acc hb).2.1
  have ar : arity k = 2 := by unfold arity; rw [if_neg (by omega), if_neg (by omega)]
  have hlast : (madeL k n p [a, b])[a.length + b.length]'(by omega) = ⟨k, n, (a.length : Int) - 1, (a.length : Int) + b.length - 1, p⟩ := by
    apply Option.some.inj
    rw [← List.getElem?_eq_getElem, e, List.getElem?_append_right (by rw [List.length_append, List.length_map]; omega), List.length_append, List.length_map, Nat.sub_self]
    rfl
  rw [eval_get (by omega), hlen, Nat.add_sub_cancel, val_eq (by omega) (by rw [hlast]; show 1 ≤ k; omega) (by rw [hlast]; exact .inr (.inr ⟨ar, by show (0 : Int) ≤ (a.length : Int) - 1; omega, by show (a.length : Int) - 1 < _; omega, by show (0 : Int) ≤ (a.length : Int) + b.length - 1; omega, by show (a.length : Int) + b.length - 1 < _; omega⟩)), hlast]
  have t1 : nth (valsV r (madeL k n p [a, b])) ((a.length : Int) - 1) = evalV r a := by
    have hp := vals_pre r a (b.map (shift (-(a.length : Int))) ++ [⟨k, n, (a.length : Int) - 1, (a.length : Int) + b.length - 1, p⟩])
    rw [← List.append_assoc, ← e] at hp
    rw [nth_pre hp (by rw [vals_len]; omega)]
    rfl
  have t2 : nth (valsV r (madeL k n p [a, b])) ((a.length : Int) + b.length - 1) = evalV r b := by
    rw [eval_get hpb, ← shift_vals (p := a) (m := [⟨k, n, (a.length : Int) - 1, (a.length : Int) + b.length - 1, p⟩]) hb (b.length - 1) (by omega), ← e]
    congr 1; omega
  unfold valV
  simp only
  rw [if_neg (by omega), if_neg (by omega), if_neg (by omega), if_neg (by omega), if_pos ar, t1, t2]
end Go.Proofs.YtflmpjejlkhpcaaDoor.Nodes

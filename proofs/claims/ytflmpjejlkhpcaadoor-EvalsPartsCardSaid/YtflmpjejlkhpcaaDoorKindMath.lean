/-
  Kinds of expressions, plainly (layer 6): what a kind gives and takes, the first node that does not fit; parts of typed expressions, expressions of typed parts, other places and leaves. No program in this text.
-/
import Derived.Test.YtflmpjejlkhpcaaDoorNodeLaws
namespace Go.Proofs.YtflmpjejlkhpcaaDoor.Nodes

/-- Whether a kind gives a truth value. -/
def givesB (k : Int) : Bool := decide (k = 6 ∨ 12 ≤ k)
/-- Whether parts that give these are what a kind takes. -/
def fitB (k : Int) (a b : Bool) : Bool :=
  if k ≤ 4 then true else if k = 5 then !a else if k = 6 then a else if k = 16 ∨ k = 17 then a == b else if 18 ≤ k then a && b else !a && !b
def kindAt (l : List Nd) (i : Nat) : Int := ((l[i]?).map Nd.kind).getD 0
def gv (l : List Nd) (i : Int) : Bool := givesB (kindAt l i.toNat)
def fitsN (l : List Nd) (x : Nd) : Bool := fitB x.kind (gv l x.a) (gv l x.b)
/-- The first node that does not fit, or how many nodes there are. -/
def wrongV (l : List Nd) : Nat := l.findIdx fun x => !fitsN l x
theorem kindAt_get {l : List Nd} {i : Nat} (h : i < l.length) : kindAt l i = l[i].kind := by
  unfold kindAt; rw [List.getElem?_eq_getElem h]; rfl
theorem wrong_le (l : List Nd) : wrongV l ≤ l.length := List.findIdx_le_length
theorem wrong_fits {l : List Nd} {i : Nat} (h : i < wrongV l) (hi : i < l.length) : fitsN l l[i] = true := by
  have := List.not_of_lt_findIdx (p := fun x => !fitsN l x) h
  simpa using this
theorem wrong_not {l : List Nd} (h : wrongV l < l.length) : fitsN l (l[wrongV l]) = false := by
  have := List.findIdx_getElem (p := fun x => !fitsN l x) (w := h)
  show fitsN l (l[l.findIdx fun x => !fitsN l x]) = false
  simpa using this
theorem wrong_is {l : List Nd} {i : Nat} (hi : i < l.length) (h : ∀ j (hj : j < l.length), j < i → fitsN l l[j] = true) (hn : fitsN l l[i] = false) : wrongV l = i := by
  rcases Nat.lt_trichotomy (wrongV l) i with h1 | h1 | h1
  · have := h _ (by omega) h1
    rw [wrong_not (by omega)] at this
    cases this
  · exact h1
  · have := wrong_fits h1 hi
    rw [hn] at this
    cases this
theorem wrong_all {l : List Nd} (h : ∀ j (hj : j < l.length), fitsN l l[j] = true) : wrongV l = l.length := by
  rcases Nat.lt_or_ge (wrongV l) l.length with h1 | h1
  · have := h _ h1
    rw [wrong_not h1] at this
    cases this
  · exact Nat.le_antisymm (wrong_le l) h1

/-- What Of, All, Number and Truth return. -/
def ofV (l : List Nd) : Bool × Int × Int :=
  if checkV l = 0 then (if wrongV l < l.length then (false, ((wrongV l : Nat) : Int), 42) else (givesB (kindAt l (l.length - 1)), ((l.length - 1 : Nat) : Int), 0)) else (false, 0, checkV l)
def allOfV (l : List Nd) : List Bool × Int := if (ofV l).2.2 = 0 then (l.map fun x => givesB x.kind, 0) else ([], (ofV l).2.2)
def wantV (l : List Nd) (t : Bool) : Int × Int := if (ofV l).2.2 = 0 ∧ (ofV l).1 ≠ t then ((ofV l).2.1, 42) else (ofV l).2
theorem of_bad {l : List Nd} (h : checkV l ≠ 0) : ofV l = (false, 0, checkV l) := by unfold ofV; rw [if_neg h]
theorem of_wrong {l : List Nd} (h : checkV l = 0) (hw : wrongV l < l.length) : ofV l = (false, ((wrongV l : Nat) : Int), 42) := by unfold ofV; rw [if_pos h, if_pos hw]
theorem of_typed {l : List Nd} (h : checkV l = 0) (hw : wrongV l = l.length) : ofV l = (givesB (kindAt l (l.length - 1)), ((l.length - 1 : Nat) : Int), 0) := by unfold ofV; rw [if_pos h, if_neg (by omega)]
theorem of_ok {l : List Nd} (h : (ofV l).2.2 = 0) : checkV l = 0 ∧ wrongV l = l.length := by
  unfold ofV at h
  have := wrong_le l
  split at h
  · split at h
    · simp at h
    · exact ⟨by assumption, by omega⟩
  · rename_i hc; exact absurd h hc

/-! ### Parts of expressions -/
theorem fit_one {k : Int} (h : arity k = 1) (h1 : 1 ≤ k) (a b b' : Bool) : fitB k a b = fitB k a b' := by
  unfold arity at h
  split at h
  · omega
  split at h
  · have : k = 5 ∨ k = 6 := by omega
    rcases this with rfl | rfl <;> rfl
  · omega
theorem fit_none {k : Int} (h : arity k = 0) (a b : Bool) : fitB k a b = true := by
  unfold arity at h
  split at h
  · unfold fitB; rw [if_pos (by assumption)]
  split at h <;> omega
theorem cut_kind {l : List Nd} {s at_ : Nat} (j : Nat) (hj : j < s) : kindAt (cutL l s at_) j = kindAt l (at_ + 1 - s + j) := by
  unfold kindAt; rw [cut_get j hj, Option.map_map]; rfl
/-- A node of a part fits there just if it fits in the whole. -/
theorem cut_fits {l : List Nd} (h : checkV l = 0) {at_ : Nat} (ha : at_ < l.length) (j : Nat) (hj : j < sz (accV l) at_) (hc : j < (cutL l (sz (accV l) at_) at_).length) (hl : at_ + 1 - sz (accV l) at_ + j < l.length) :
    fitsN (cutL l (sz (accV l) at_) at_) ((cutL l (sz (accV l) at_) at_)[j]) = fitsN l (l[at_ + 1 - sz (accV l) at_ + j]) := by
  obtain ⟨c1, c2, _⟩ := cut_ok h ha
  have hs := good_sz (check_acc h).1 at_ ha
  have hsc := good_sz (check_acc c1).1 j hc
  obtain ⟨k1, _, _, _, _, _, hf⟩ := node_facts c1 hc
  have hg := cut_get (l := l) (at_ := at_) j hj
  rw [List.getElem?_eq_getElem hc, List.getElem?_eq_getElem hl] at hg
  simp only [Option.map_some, Option.some.injEq] at hg
  obtain ⟨c, hcc⟩ : ∃ c, cutL l (sz (accV l) at_) at_ = c := ⟨_, rfl⟩
  obtain ⟨f, hff⟩ : ∃ f, at_ + 1 - sz (accV l) at_ = f := ⟨_, rfl⟩
  have hk : ∀ i, i < sz (accV l) at_ → kindAt c i = kindAt l (f + i) := fun i hi => by rw [← hcc, ← hff]; exact cut_kind i hi
  simp only [hcc] at c1 c2 hc hsc k1 hf hg ⊢
  simp only [hff] at hl hg ⊢
  obtain ⟨x, hx⟩ : ∃ x, l[f + j] = x := ⟨_, rfl⟩
  rw [hx] at hg ⊢
  rw [hg] at k1 hf ⊢
  have ek : (shift (f : Int) x).kind = x.kind := rfl
  unfold fitsN
  rw [ek] at k1 hf ⊢
  rcases hf with ⟨a0, _⟩ | ⟨a0, h1, e1, _⟩ | ⟨a0, h1, hz, e1, e2, _⟩
  · rw [fit_none a0, fit_none a0]
  · have ea : (shift (f : Int) x).a = x.a - f := by unfold shift; rw [a0]; rfl
    rw [ea] at e1 ⊢
    rw [fit_one a0 k1 _ _ (gv l x.b)]
    have : gv c (x.a - f) = gv l x.a := by
      unfold gv
      rw [hk _ (by omega), show f + (x.a - f).toNat = x.a.toNat by omega]
    rw [this]
  · have ea : (shift (f : Int) x).a = x.a - f := by unfold shift; rw [a0]; rfl
    have eb : (shift (f : Int) x).b = x.b - f := by unfold shift; rw [a0]; rfl
    rw [ea] at e1 ⊢
    rw [eb] at e2 ⊢
    have t1 : gv c (x.a - f) = gv l x.a := by
      unfold gv
      rw [hk _ (by omega), show f + (x.a - f).toNat = x.a.toNat by omega]
    have t2 : gv c (x.b - f) = gv l x.b := by
      unfold gv
      rw [hk _ (by omega), show f + (x.b - f).toNat = x.b.toNat by omega]
    rw [t1, t2]
/-- The expressions of all nodes in front of the first one that does not fit are typed. -/
theorem part_typed {l : List Nd} (h : checkV l = 0) {i : Nat} (hi : i < l.length) (hw : i < wrongV l) :
    ofV (cutL l (sz (accV l) i) i) = (givesB l[i].kind, ((sz (accV l) i - 1 : Nat) : Int), 0) := by
  obtain ⟨c1, c2, _⟩ := cut_ok h hi
  have hs := good_sz (check_acc h).1 i hi
  have hall : wrongV (cutL l (sz (accV l) i) i) = (cutL l (sz (accV l) i) i).length := wrong_all fun j hj => by
    rw [cut_fits h hi j (by omega) hj (by omega)]
    exact wrong_fits (by omega) _
  rw [of_typed c1 hall, c2, cut_kind _ (by omega), show i + 1 - sz (accV l) i + (sz (accV l) i - 1) = i by omega, kindAt_get hi]
/-- .. and its own one is not, by its whole. -/
theorem part_wrong {l : List Nd} (h : checkV l = 0) (hw : wrongV l < l.length) :
    ofV (cutL l (sz (accV l) (wrongV l)) (wrongV l)) = (false, ((sz (accV l) (wrongV l) - 1 : Nat) : Int), 42) := by
  obtain ⟨c1, c2, _⟩ := cut_ok h hw
  have hs := good_sz (check_acc h).1 _ hw
  have hat : wrongV (cutL l (sz (accV l) (wrongV l)) (wrongV l)) = sz (accV l) (wrongV l) - 1 := wrong_is (by omega) (fun j hj hlt => by
    rw [cut_fits h hw j (by omega) hj (by omega)]
    exact wrong_fits (by omega) _) (by
    rw [cut_fits h hw _ (by omega) (by omega) (by omega)]
    have e : wrongV l + 1 - sz (accV l) (wrongV l) + (sz (accV l) (wrongV l) - 1) = wrongV l := by omega
    have := wrong_not hw
    simp only [e]
    exact this)
  rw [of_wrong c1 (by omega), hat]

/-! ### Expressions of typed parts -/
theorem kindAt_app {l m : List Nd} {i : Nat} (h : i < l.length) : kindAt (l ++ m) i = kindAt l i := by
  unfold kindAt; rw [List.getElem?_append_left h]
/-- A node's parts stand in front of it. -/
theorem parts_front {l : List Nd} (h : checkV l = 0) {i : Nat} (hi : i < l.length) : (arity l[i].kind = 0) ∨ (arity l[i].kind = 1 ∧ 1 ≤ l[i].kind ∧ 0 ≤ l[i].a ∧ l[i].a < i) ∨ (arity l[i].kind = 2 ∧ 0 ≤ l[i].a ∧ l[i].a < i ∧ 0 ≤ l[i].b ∧ l[i].b < i) := by
  obtain ⟨k1, _, _, _, _, _, hf⟩ := node_facts h hi
  rcases hf with ⟨a0, _⟩ | ⟨a0, h1, e1, _⟩ | ⟨a0, h1, hz, e1, e2, _⟩
  · exact .inl a0
  · exact .inr (.inl ⟨a0, k1, by omega, by omega⟩)
  · exact .inr (.inr ⟨a0, by omega, by omega, by omega, by omega⟩)
/-- Whether a node fits is told by the kinds of its parts. -/
theorem fits_same {l m : List Nd} {x y : Nd} (hk : x.kind = y.kind) (h : arity x.kind = 0 ∨ (arity x.kind = 1 ∧ 1 ≤ x.kind ∧ gv l x.a = gv m y.a) ∨ (gv l x.a = gv m y.a ∧ gv l x.b = gv m y.b)) : fitsN l x = fitsN m y := by
  unfold fitsN
  rw [← hk]
  rcases h with h | ⟨h, h1, e⟩ | ⟨e1, e2⟩
  · rw [fit_none h, fit_none h]
  · rw [fit_one h h1 _ _ (gv m y.b), e]
  · rw [e1, e2]
theorem gv_app {l m : List Nd} {i : Int} (h0 : 0 ≤ i) (h : i < l.length) : gv (l ++ m) i = gv l i := by
  unfold gv; rw [kindAt_app (by omega)]
theorem fits_app {l m : List Nd} (h : checkV l = 0) {i : Nat} (hi : i < l.length) : fitsN (l ++ m) l[i] = fitsN l l[i] := by
  refine fits_same rfl ?_
  rcases parts_front h hi with h0 | ⟨h0, h1, h2, h3⟩ | ⟨h0, h2, h3, h4, h5⟩
  · exact .inl h0
  · exact .inr (.inl ⟨h0, h1, gv_app h2 (by omega)⟩)
  · exact .inr (.inr ⟨gv_app h2 (by omega), gv_app h4 (by omega)⟩)
theorem gv_shift {p q : List Nd} {r : List Nd} {i : Int} (h0 : 0 ≤ i) (h : i < q.length) : gv (p ++ q.map (shift (-(p.length : Int))) ++ r) (i + p.length) = gv q i := by
  unfold gv kindAt
  have e : (i + p.length).toNat = p.length + i.toNat := by omega
  rw [e, List.append_assoc, List.getElem?_append_right (by omega), Nat.add_sub_cancel_left, List.getElem?_append_left (by rw [List.length_map]; omega), List.getElem?_map, Option.map_map]
  rfl
theorem fits_shift {p q r : List Nd} (h : checkV q = 0) {i : Nat} (hi : i < q.length) : fitsN (p ++ q.map (shift (-(p.length : Int))) ++ r) (shift (-(p.length : Int)) q[i]) = fitsN q q[i] := by
  refine fits_same rfl ?_
  show arity q[i].kind = 0 ∨ _
  rcases parts_front h hi with h0 | ⟨h0, h1, h2, h3⟩ | ⟨h0, h2, h3, h4, h5⟩
  · exact .inl h0
  · refine .inr (.inl ⟨h0, h1, ?_⟩)
    have : (shift (-(p.length : Int)) q[i]).a = q[i].a + p.length := by unfold shift; rw [h0]; simp
    rw [this]
    exact gv_shift h2 (by omega)
  · have e1 : (shift (-(p.length : Int)) q[i]).a = q[i].a + p.length := by unfold shift; rw [h0]; simp
    have e2 : (shift (-(p.length : Int)) q[i]).b = q[i].b + p.length := by unfold shift; rw [h0]; simp
    rw [e1, e2]
    exact .inr (.inr ⟨gv_shift h2 (by omega), gv_shift h4 (by omega)⟩)
theorem typed_fits {l : List Nd} (h : (ofV l).2.2 = 0) {i : Nat} (hi : i < l.length) : fitsN l l[i] = true :=
  wrong_fits (by rw [(of_ok h).2]; exact hi) hi
theorem gv_last {l : List Nd} (h : (ofV l).2.2 = 0) : gv l ((l.length : Int) - 1) = (ofV l).1 := by
  obtain ⟨h1, h2⟩ := of_ok h
  have := (check_acc h1).2.1
  rw [of_typed h1 h2]
  unfold gv
  rw [show ((l.length : Int) - 1).toNat = l.length - 1 by omega]
/-- An expression with one part that is typed. -/
theorem made_one {a : List Nd} {k n p : Int} (ha : (ofV a).2.2 = 0) (hl : checkV (madeL k n p [a]) = 0) (hk : arity k = 1) (h1 : 1 ≤ k) :
    ofV (madeL k n p [a]) = if fitB k (ofV a).1 false = true then (givesB k, (a.length : Int), 0) else (false, (a.length : Int), 42) := by
  have hlen : (madeL k n p [a]).length = a.length + 1 := by simp [madeL]
  have e : madeL k n p [a] = a ++ [⟨k, n, (a.length : Int) - 1, 0, p⟩] := rfl
  have hget : ∀ j (hj : j < a.length), (madeL k n p [a])[j]'(by omega) = a[j] := fun j hj => by
    apply Option.some.inj
    rw [← List.getElem?_eq_getElem, ← List.getElem?_eq_getElem, e, List.getElem?_append_left hj]
  have hlast : (madeL k n p [a])[a.length]'(by omega) = ⟨k, n, (a.length : Int) - 1, 0, p⟩ := by
    apply Option.some.inj
    rw [← List.getElem?_eq_getElem, e, List.getElem?_append_right (Nat.le_refl _), Nat.sub_self]
    rfl
  have hfront : ∀ j (hj : j < a.length), fitsN (madeL k n p [a]) ((madeL k n p [a])[j]'(by omega)) = true := fun j hj => by
    rw [hget j hj]
    show fitsN (a ++ [_]) a[j] = true
    rw [fits_app (of_ok ha).1 hj]
    exact typed_fits ha hj
  have hfl : fitsN (madeL k n p [a]) ((madeL k n p [a])[a.length]'(by omega)) = fitB k (ofV a).1 false := by
    rw [hlast]
    have hpos := (check_acc (of_ok ha).1).2.1
    unfold fitsN
    rw [fit_one hk h1 _ _ false]
    have : gv (madeL k n p [a]) ((a.length : Int) - 1) = (ofV a).1 := by
      show gv (a ++ [_]) _ = _
      rw [gv_app (by omega) (by omega), gv_last ha]
    simp only
    rw [this]
  split
  · rename_i hf
    have hw : wrongV (madeL k n p [a]) = (madeL k n p [a]).length := wrong_all fun j hj => by
      by_cases hj2 : j < a.length
      · exact hfront j hj2
      · obtain rfl : j = a.length := by omega
        rw [hfl]; exact hf
    rw [of_typed hl hw, hlen, Nat.add_sub_cancel, kindAt_get (by omega), hlast]
  · rename_i hf
    have hw : wrongV (madeL k n p [a]) = a.length := wrong_is (by omega) (fun j hj h2 => hfront j h2) (by rw [hfl]; simpa using hf)
    rw [of_wrong hl (by omega), hw]
/-- An expression of two parts that are typed. -/
theorem made_two {a b : List Nd} {k n p : Int} (ha : (ofV a).2.2 = 0) (hb : (ofV b).2.2 = 0) (hl : checkV (madeL k n p [a, b]) = 0) :
    ofV (madeL k n p [a, b]) = if fitB k (ofV a).1 (ofV b).1 = true then (givesB k, (a.length : Int) + b.length, 0) else (false, (a.length : Int) + b.length, 42) := by
  have hlen : (madeL k n p [a, b]).length = a.length + b.length + 1 := by simp [madeL]; omega
  have e : madeL k n p [a, b] = a ++ b.map (shift (-(a.length : Int))) ++ [⟨k, n, (a.length : Int) - 1, (a.length : Int) + b.length - 1, p⟩] := rfl
  have hfa : ∀ j (hj : j < a.length), fitsN (madeL k n p [a, b]) ((madeL k n p [a, b])[j]'(by omega)) = true := fun j hj => by
    have : (madeL k n p [a, b])[j]'(by omega) = a[j] := by
      apply Option.some.inj
      rw [← List.getElem?_eq_getElem, ← List.getElem?_eq_getElem, e, List.append_assoc, List.getElem?_append_left hj]
    rw [this, e, List.append_assoc, fits_app (of_ok ha).1 hj]
    exact typed_fits ha hj
  have hfb : ∀ j (hj : j < b.length), fitsN (madeL k n p [a, b]) ((madeL k n p [a, b])[a.length + j]'(by omega)) = true := fun j hj => by
    have : (madeL k n p [a, b])[a.length + j]'(by omega) = shift (-(a.length : Int)) b[j] := by
      apply Option.some.inj
      rw [← List.getElem?_eq_getElem, e, List.append_assoc, List.getElem?_append_right (by omega), Nat.add_sub_cancel_left, List.getElem?_append_left (by rw [List.length_map]; exact hj), List.getElem?_map, List.getElem?_eq_getElem hj]
      rfl
    rw [this, e, fits_shift (of_ok hb).1 hj]
    exact typed_fits hb hj
  have hlast : (madeL k n p [a, b])[a.length + b.length]'(by omega) = ⟨k, n, (a.length : Int) - 1, (a.length : Int) + b.length - 1, p⟩ := by
    apply Option.some.inj
    rw [← List.getElem?_eq_getElem, e, List.getElem?_append_right (by rw [List.length_append, List.length_map]; omega), List.length_append, List.length_map, Nat.sub_self]
    rfl
  have hfl : fitsN (madeL k n p [a, b]) ((madeL k n p [a, b])[a.length + b.length]'(by omega)) = fitB k (ofV a).1 (ofV b).1 := by
    rw [hlast]
    have hpa := (check_acc (of_ok ha).1).2.1
    have hpb := (check_acc (of_ok hb).1).2.1
    unfold fitsN
    have t1 : gv (madeL k n p [a, b]) ((a.length : Int) - 1) = (ofV a).1 := by
      rw [e, List.append_assoc, gv_app (by omega) (by omega), gv_last ha]
    have t2 : gv (madeL k n p [a, b]) ((a.length : Int) + b.length - 1) = (ofV b).1 := by
      rw [e, show (a.length : Int) + b.length - 1 = ((b.length : Int) - 1) + a.length by omega, gv_shift (by omega) (by omega), gv_last hb]
    simp only
    rw [t1, t2]
  have hfront : ∀ j (hj : j < a.length + b.length), fitsN (madeL k n p [a, b]) ((madeL k n p [a, b])[j]'(by omega)) = true := fun j hj => by
    by_cases hj2 : j < a.length
    · exact hfa j hj2
    · have h3 := hfb (j - a.length) (by omega)
      have e3 : a.length + (j - a.length) = j := by omega
      simp only [e3] at h3
      exact h3
  split
  · rename_i hf
    have hw : wrongV (madeL k n p [a, b]) = (madeL k n p [a, b]).length := wrong_all fun j hj => by
      by_cases hj2 : j < a.length + b.length
      · exact hfront j hj2
      · obtain rfl : j = a.length + b.length := by omega
        rw [hfl]; exact hf
    rw [of_typed hl hw, hlen, Nat.add_sub_cancel, kindAt_get (by omega), hlast]
    simp
  · rename_i hf
    have hw : wrongV (madeL k n p [a, b]) = a.length + b.length := wrong_is (by omega) (fun j hj h2 => hfront j h2) (by rw [hfl]; simpa using hf)
    rw [of_wrong hl (by omega), hw]
    simp

/-! ### Other places and leaves -/
def leafN (leaf p : Int) (x : Nd) : Nd := if x.kind ≤ 4 then ⟨leaf, 0, x.a, x.b, p⟩ else ⟨x.kind, x.n, x.a, x.b, p⟩
def leafL (leaf p : Int) (l : List Nd) : List Nd := l.map (leafN leaf p)
theorem leaf_step {acc : Acc} {x : Nd} {leaf p : Int} {q : Nat × Nat} (h1 : 1 ≤ leaf) (h4 : leaf ≤ 4) (h0 : 0 ≤ p) (hp : p ≤ 400) (h : step acc x = some q) : step acc (leafN leaf p x) = some q := by
  unfold leafN
  by_cases hk : x.kind ≤ 4
  · rw [if_pos hk]
    have ha : arity x.kind = 0 := by unfold arity; rw [if_pos hk]
    have hb : arity leaf = 0 := by unfold arity; rw [if_pos h4]
    rw [step0 ha] at h
    rw [step0 (x := ⟨leaf, 0, x.a, x.b, p⟩) hb]
    split at h
    · rename_i hr
      rw [right_iff] at hr
      have hr2 : rightB ⟨leaf, 0, x.a, x.b, p⟩ 0 0 = true := right_iff.2 ⟨h1, by show leaf ≤ 19; omega, Int.le_refl _, .inl rfl, h0, hp, hr.2.2.2.2.2.2.1, hr.2.2.2.2.2.2.2⟩
      rw [if_pos hr2]
      exact h
    · cases h
  · rw [if_neg hk]
    exact step_move h0 hp h
theorem leaf_run {leaf p : Int} (h1 : 1 ≤ leaf) (h4 : leaf ≤ 4) (h0 : 0 ≤ p) (hp : p ≤ 400) (l : List Nd) : ∀ acc r, run acc l = some r → run acc (leafL leaf p l) = some r := by
  induction l with
  | nil => intro acc r h; exact h
  | cons x l ih =>
    intro acc r h
    replace h : ((step acc x).bind fun p => run (acc ++ [p]) l) = some r := h
    cases hs : step acc x with
    | none => rw [hs] at h; cases h
    | some q =>
      rw [hs] at h
      show ((step acc (leafN leaf p x)).bind fun p' => run (acc ++ [p']) (leafL leaf p l)) = some r
      rw [leaf_step h1 h4 h0 hp hs]
      exact ih _ _ h
theorem leaf_len (leaf p : Int) (l : List Nd) : (leafL leaf p l).length = l.length := List.length_map ..
theorem leaf_ok {leaf p : Int} {l : List Nd} (h1 : 1 ≤ leaf) (h4 : leaf ≤ 4) (h0 : 0 ≤ p) (hp : p ≤ 400) (h : checkV l = 0) : checkV (leafL leaf p l) = 0 := by
  obtain ⟨hr, k0, k1, k2, k3⟩ := check_acc h
  have hl := leaf_len leaf p l
  exact check_ok.2 ⟨_, leaf_run h1 h4 h0 hp l _ _ hr, by omega, by omega, by rw [hl]; exact k2, by rw [hl]; exact k3⟩
theorem leaf_gives {leaf p : Int} (h4 : leaf ≤ 4) (x : Nd) : givesB (leafN leaf p x).kind = givesB x.kind := by
  unfold leafN
  by_cases hk : x.kind ≤ 4
  · rw [if_pos hk]
    unfold givesB
    rw [decide_eq_false (by simp only; omega), decide_eq_false (by omega)]
  · rw [if_neg hk]
theorem leaf_gv {leaf p : Int} (h4 : leaf ≤ 4) (l : List Nd) (i : Int) : gv (leafL leaf p l) i = gv l i := by
  unfold gv kindAt leafL
  rw [List.getElem?_map, Option.map_map]
  cases l[i.toNat]? with
  | none => rfl
  | some x => exact leaf_gives h4 x
theorem leaf_fits {leaf p : Int} (h4 : leaf ≤ 4) (l : List Nd) (x : Nd) : fitsN (leafL leaf p l) (leafN leaf p x) = fitsN l x := by
  unfold leafN
  by_cases hk : x.kind ≤ 4
  · rw [if_pos hk]
    unfold fitsN
    rw [fit_none (by unfold arity; rw [if_pos (by simpa using h4)]), fit_none (by unfold arity; rw [if_pos hk])]
  · rw [if_neg hk]
    unfold fitsN
    simp only [leaf_gv h4]
theorem leaf_wrong {leaf p : Int} (h4 : leaf ≤ 4) (l : List Nd) : wrongV (leafL leaf p l) = wrongV l := by
  unfold wrongV
  have : ∀ m : List Nd, (m.map (leafN leaf p)).findIdx (fun x => !fitsN (leafL leaf p l) x) = m.findIdx (fun x => !fitsN l x) := by
    intro m
    induction m with
    | nil => rfl
    | cons x m ih => rw [List.map_cons, List.findIdx_cons, List.findIdx_cons, leaf_fits h4, ih]
  exact this l
theorem leaf_of {leaf p : Int} {l : List Nd} (h1 : 1 ≤ leaf) (h4 : leaf ≤ 4) (h0 : 0 ≤ p) (hp : p ≤ 400) (h : checkV l = 0) : ofV (leafL leaf p l) = ofV l := by
  unfold ofV
  rw [if_pos h, if_pos (leaf_ok h1 h4 h0 hp h), leaf_wrong h4, leaf_len]
  have hpos := (check_acc h).2.1
  have : givesB (kindAt (leafL leaf p l) (l.length - 1)) = givesB (kindAt l (l.length - 1)) := by
    have := leaf_gv (p := p) h4 l ((l.length - 1 : Nat) : Int)
    unfold gv at this
    rwa [Int.toNat_natCast] at this
  rw [this]
end Go.Proofs.YtflmpjejlkhpcaaDoor.Nodes

/-
  Texts of this seat in one: ExprText; ExprLaw; ExprBinds; ExprCounts; ExprRd; ExprWr.
-/
import Derived.Test.YtdinaedknlkicaaGreatDoorParseBack
import Derived.Test.YtdinaedknlkicaaGreatDoorLexLaws
import Derived.Lib.ItoaLen
/-
  The text with brackets of an expression (layer 5), plainly: its bytes, and that its tokens, found again, are its symbols. No program in this text.
-/
namespace Go.Proofs.YtdinaedknlkicaaGreatDoor.Exprs
open Nodes Go.Lib

/-! ### Symbols of tokens -/
def opTab : List (List UInt8) := [[42], [43], [45], [60, 60], [62, 62], [60], [60, 61], [62], [62, 61], [61], [33, 61], [97, 110, 100], [111, 114]]
/-- The text of an operator, from kind 7 on. -/
def opT (k : Int) : List UInt8 := opTab.getD (k.toNat - 7) []
def symI (k : Int) (x : List UInt8) : Sy :=
  if k = 1 then .num (rdV x)
  else if x = [107] then .leaf 2 else if x = [116] then .leaf 3 else if x = [118] then .leaf 4
  else if x = [40] then .left else if x = [41] then .right else if x = [110, 111, 116] then .no
  else if opTab.contains x then .bin (7 + (opTab.idxOf x : Int)) else .other
def symOf (t : Tok) : S := (symI t.kind t.text, t.at_)
def syms (ts : List Tok) : List S := ts.map symOf

/-! ### A valid token, and what may stand behind it -/
theorem valid_read_at {k : Int} {l : List UInt8} (hv : validB k l = true) (m : List UInt8) (hm : l = [40] ∨ ∀ b ∈ m.head?, isKind 1 b = true ∨ b = 41) :
    l ≠ [] ∧ runN 1 (l ++ m) = 0 ∧ tokK (l ++ m) = k ∧ tokN (l ++ m) = l.length ∧ tokE (l ++ m) = 0 := by
  rcases hm with rfl | hm
  · have h40 : isKind 1 (40 : UInt8) = false ∧ isKind 2 (40 : UInt8) = false ∧ isKind 3 (40 : UInt8) = false := by decide
    have hk : k = 3 := by
      unfold validB at hv
      split at hv
      · have : rdE [40] ≠ 0 := by decide
        simp at hv; exact absurd hv this
      split at hv
      · have : wordB [40] = false := by decide
        rw [this] at hv; cases hv
      split at hv
      · assumption
      · cases hv
    have hs : symL (40 :: m) = 1 := by
      cases m with
      | nil => decide
      | cons b m => simp [symL, oneB, twoB]
    obtain ⟨e1, e2, e3⟩ := tok_other h40.2.1 h40.2.2 m
    rw [hs] at e1 e2 e3
    exact ⟨by simp, runN_no h40.1 _, by rw [hk]; exact e1, e2, e3⟩
  · by_cases hh : ∀ b ∈ m.head?, isKind 1 b = true
    · have := valid_read (t := ⟨k, 0, l⟩) hv m hh
      exact this
    · obtain ⟨m', rfl⟩ : ∃ m', m = 41 :: m' := by
        cases m with
        | nil => exact absurd (fun b hb => by simp at hb) hh
        | cons b m' =>
          rcases hm b (by simp) with h | rfl
          · exact absurd (fun c hc => by simp at hc; subst hc; exact h) hh
          · exact ⟨m', rfl⟩
      have hrun : ∀ j : Int, j = 2 ∨ j = 3 → runN j (41 :: m') = 0 := fun j hj => runN_no (by rcases hj with rfl | rfl <;> decide) _
      unfold validB at hv
      split at hv
      · rename_i hk
        subst hk
        have hr : rdE l = 0 := by simpa using hv
        have hd : digB l = true := by
          unfold rdE at hr
          cases h : digB l with
          | true => rfl
          | false => rw [h] at hr; simp at hr
        unfold digB at hd
        simp only [Bool.and_eq_true, Bool.not_eq_true'] at hd
        have hall : ∀ c ∈ l, isKind 2 c = true := fun c hc => dig_kind (List.all_eq_true.1 hd.2 c hc)
        cases l with
        | nil => simp at hd
        | cons c l =>
          have hc := hall c (by simp)
          have hlen := run_stop 2 (c :: l) (41 :: m') hall (hrun 2 (.inl rfl))
          obtain ⟨e1, e2, e3⟩ := tok_two hc (l ++ 41 :: m')
          rw [List.cons_append] at hlen ⊢
          refine ⟨by simp, runN_no (kinds_apart hc (by decide)) _, e1, by rw [e2, hlen], ?_⟩
          rw [e3, hlen, ← List.cons_append, List.take_left' rfl]
          exact hr
      split at hv
      · rename_i _ hk
        subst hk
        obtain ⟨h1, _, _, h4⟩ := word_is hv
        have hall : ∀ c ∈ l, isKind 3 c = true := fun c hc => decide_eq_true (h4 c hc)
        cases l with
        | nil => simp at h1
        | cons c l =>
          have hc := hall c (by simp)
          have hlen := run_stop 3 (c :: l) (41 :: m') hall (hrun 3 (.inr rfl))
          obtain ⟨e1, e2, e3⟩ := tok_three (kinds_apart hc (by decide)) hc (l ++ 41 :: m')
          rw [List.cons_append] at hlen ⊢
          refine ⟨by simp, runN_no (kinds_apart hc (by decide)) _, e1, by rw [e2, hlen], ?_⟩
          rw [e3, hlen, ← List.cons_append, List.take_left' rfl, hv]
          rfl
      split at hv
      · rename_i _ _ hk
        subst hk
        rw [decide_eq_true_iff] at hv
        obtain ⟨hpos, hs⟩ := hv
        have hn : symL l ≠ 0 := by omega
        have hb : symL (l ++ 41 :: m') = l.length := by
          have h2 : ∀ a, twoB a 41 = false := fun a => by simp [twoB]
          match l, hs with
          | [a], hs =>
            cases h1 : oneB a with
            | false => simp [symL, h1] at hs
            | true => simp [symL, h1, h2]
          | [a, b], hs =>
            cases h3 : twoB a b with
            | true => simp [symL, h3]
            | false => cases h1 : oneB a <;> simp [symL, h1, h3] at hs
          | a :: b :: c :: r, hs =>
            have := (sym_le (a :: b :: c :: r)).1
            rw [hs] at this
            simp at this
          | [], hs => simp at hpos
        cases l with
        | nil => simp at hpos
        | cons c l =>
          have hkinds : isKind 1 c = false ∧ isKind 2 c = false ∧ isKind 3 c = false := by
            cases l with
            | nil =>
              cases h1 : oneB c with
              | true => exact one_kinds h1
              | false => simp [symL, h1] at hn
            | cons d l =>
              cases h2 : twoB c d with
              | true => exact two_kinds h2
              | false =>
                cases h1 : oneB c with
                | true => exact one_kinds h1
                | false => simp [symL, h1, h2] at hn
          obtain ⟨k1, k2, k3⟩ := hkinds
          rw [List.cons_append] at hb ⊢
          obtain ⟨e1, e2, e3⟩ := tok_other k2 k3 (l ++ 41 :: m')
          have hne : ¬ symL (c :: (l ++ 41 :: m')) = 0 := by rw [hb]; simp
          refine ⟨by simp, runN_no k1 _, by rw [e1, if_neg hne], by rw [e2, hb], by rw [e3, if_neg hne]⟩
      · simp at hv

/-! ### Things of a text: blanks in front, kind, text -/
abbrev It := Nat × Int × List UInt8
def str : List It → List UInt8
  | [] => []
  | i :: r => List.replicate i.1 32 ++ (i.2.2 ++ str r)
def placed (off : Nat) : List It → List Tok
  | [] => []
  | i :: r => ⟨i.2.1, ((off + i.1 : Nat) : Int), i.2.2⟩ :: placed (off + i.1 + i.2.2.length) r
/-- What may stand behind anything: nothing, a blank, a bracket to the right. -/
def Ends (r : List It) : Prop := ∀ i ∈ r.head?, 0 < i.1 ∨ i.2.2 = [41]
def Fit : List It → Prop
  | [] => True
  | i :: r => validB i.2.1 i.2.2 = true ∧ (i.2.2 = [40] ∨ Ends r) ∧ Fit r
theorem str_append (a b : List It) : str (a ++ b) = str a ++ str b := by
  induction a with
  | nil => rfl
  | cons i a ih => show _ ++ (_ ++ str (a ++ b)) = _ ++ (_ ++ str a) ++ _; rw [ih]; simp only [List.append_assoc]
theorem ends_head {r : List It} (h : Ends r) (hv : Fit r) : ∀ b ∈ (str r).head?, isKind 1 b = true ∨ b = 41 := by
  match r, h, hv with
  | [], _, _ => intro b hb; simp [str] at hb
  | (0, k, x) :: r, h, _ =>
    intro b hb
    have hx : x = [41] := by
      rcases h (0, k, x) (by simp) with h | h
      · exact absurd h (Nat.lt_irrefl 0)
      · exact h
    subst hx
    simp [str] at hb
    exact .inr hb.symm
  | (g + 1, k, x) :: r, _, _ =>
    intro b hb
    simp [str, List.replicate_succ] at hb
    subst hb
    exact .inl (by decide)
theorem blanks_all (g : Nat) : ∀ c ∈ List.replicate g (32 : UInt8), isKind 1 c = true := by
  intro c hc
  rw [List.eq_of_mem_replicate hc]
  decide
/-- Things are found again as tokens. -/
theorem lex_str : ∀ (is : List It) (f off cnt : Nat), Fit is → cnt + is.length ≤ 200 → (str is).length < f → lexF f off cnt (str is) = (placed off is, off + (str is).length, 0) := by
  intro is
  induction is with
  | nil =>
    intro f off cnt _ _ hf
    obtain ⟨g, rfl⟩ : ∃ g, f = g + 1 := ⟨f - 1, by omega⟩
    exact lex_end (by simp [str])
  | cons i r ih =>
    intro f off cnt hF hc hf
    obtain ⟨g, k, x⟩ := i
    obtain ⟨hv, he, hr⟩ := hF
    simp only at hv he
    rw [List.length_cons] at hc
    have hs : str ((g, k, x) :: r) = List.replicate g 32 ++ (x ++ str r) := rfl
    rw [hs] at hf ⊢
    simp only [List.length_append, List.length_replicate] at hf
    obtain ⟨f2, rfl⟩ : ∃ f2, f = f2 + 1 := ⟨f - 1, by omega⟩
    rw [lex_front f2 off cnt _ _ (blanks_all g), List.length_replicate]
    have hm : x = [40] ∨ ∀ b ∈ (str r).head?, isKind 1 b = true ∨ b = 41 := he.imp id (fun h => ends_head h hr)
    obtain ⟨v1, v2, v3, v4, v5⟩ := valid_read_at hv (str r) hm
    have hd : (x ++ str r).drop (runN 1 (x ++ str r)) = x ++ str r := by rw [v2, List.drop_zero]
    have hne : ¬ x ++ str r = [] := fun h => v1 (List.append_eq_nil_iff.1 h).1
    have e := lex_one (f := f2) (off := off + g) hd hne (cnt := cnt) (by omega) v5
    have hpos : 0 < x.length := by
      rcases Nat.eq_zero_or_pos x.length with h | h
      · exact absurd (List.length_eq_zero_iff.1 h) v1
      · exact h
    rw [e, v2, v3, v4, List.drop_left' rfl, List.take_left' rfl, Nat.add_zero, ih f2 (off + g + x.length) (cnt + 1) hr (by omega) (by omega)]
    refine Prod.ext rfl (Prod.ext ?_ rfl)
    simp only [List.length_append, List.length_replicate]
    omega
theorem all_str {is : List It} (h : Fit is) (hc : is.length ≤ 200) (hl : (str is).length ≤ 400) : allV (str is) = (placed 0 is, (str is).length, 0) := by
  unfold allV
  rw [if_neg (by omega), lex_str is _ 0 0 h (by omega) (by omega)]
  simp
theorem placed_len (is : List It) : ∀ off, (placed off is).length = is.length := by
  induction is with
  | nil => intro off; rfl
  | cons i r ih => intro off; show _ + 1 = _ + 1; rw [ih]
theorem placed_append (a b : List It) : ∀ off, placed off (a ++ b) = placed off a ++ placed (off + (str a).length) b := by
  induction a with
  | nil => intro off; rfl
  | cons i a ih =>
    intro off
    show _ :: placed _ (a ++ b) = _ :: placed _ a ++ _
    rw [ih, List.cons_append]
    congr 3
    show _ = off + (List.replicate i.1 32 ++ (i.2.2 ++ str a)).length
    simp only [List.length_append, List.length_replicate]
    omega
theorem placed_syms (is : List It) : ∀ off, (syms (placed off is)).map (·.1) = is.map fun i => symI i.2.1 i.2.2 := by
  induction is with
  | nil => intro off; rfl
  | cons i r ih => intro off; show _ :: (syms (placed _ r)).map (·.1) = _ :: _; rw [ih]; rfl
theorem placed_at (is : List It) : ∀ off, off + (str is).length ≤ 400 → AtL (syms (placed off is)) := by
  induction is with
  | nil => intro off _ s hs; cases hs
  | cons i r ih =>
    intro off h s hs
    have e : (str (i :: r)).length = i.1 + (i.2.2.length + (str r).length) := by
      show (List.replicate i.1 32 ++ (i.2.2 ++ str r)).length = _
      simp only [List.length_append, List.length_replicate]
    rw [e] at h
    have hs2 : s ∈ symOf ⟨i.2.1, ((off + i.1 : Nat) : Int), i.2.2⟩ :: syms (placed (off + i.1 + i.2.2.length) r) := hs
    rcases List.mem_cons.1 hs2 with rfl | h2
    · show 0 ≤ ((off + i.1 : Nat) : Int) ∧ ((off + i.1 : Nat) : Int) ≤ 400
      omega
    · exact ih _ (by omega) s h2
theorem fit_append {a b : List It} (ha : Fit a) (hb : Fit b) (h : Ends b ∨ (∃ p i, a = p ++ [i] ∧ i.2.2 = [40])) : Fit (a ++ b) := by
  induction a with
  | nil => exact hb
  | cons i r ih =>
    obtain ⟨hv, he, hr⟩ := ha
    cases r with
    | nil =>
      refine ⟨hv, ?_, hb⟩
      rcases h with h | ⟨p, j, e, h⟩
      · exact .inr h
      · refine .inl ?_
        cases p with
        | nil => rw [List.nil_append] at e; injection e with e1; rw [e1]; exact h
        | cons q p => injection e with _ e2; exact absurd e2.symm (by simp)
    | cons j r =>
      refine ⟨hv, he, ih hr ?_⟩
      rcases h with h | ⟨p, q, e, h⟩
      · exact .inl h
      · cases p with
        | nil => injection e with _ e2; cases e2
        | cons u p => injection e with _ e2; exact .inr ⟨p, q, e2, h⟩

/-! ### The things of an expression -/
def leafI (k n : Int) : Int × List UInt8 := if k = 1 then (1, itoa n) else if k = 2 then (2, [107]) else if k = 3 then (2, [116]) else (2, [118])
def frontI (k : Int) : Int × List UInt8 := if k = 5 then (3, [45]) else (2, [110, 111, 116])
def opI (k : Int) : Int × List UInt8 := (if 18 ≤ k then 2 else 3, opT k)
def its : Nat → Ex → List It
  | g, .leaf k n => [(g, leafI k n)]
  | g, .one k e => (g, frontI k) :: (if isLeaf e then its 1 e else (1, 3, [40]) :: its 0 e ++ [(0, 3, [41])])
  | g, .two k e f => (if isLeaf e then its g e else (g, 3, [40]) :: its 0 e ++ [(0, 3, [41])]) ++ (1, opI k) :: (if isLeaf f then its 1 f else (1, 3, [40]) :: its 0 f ++ [(0, 3, [41])])
def itsP (g : Nat) (e : Ex) : List It := if isLeaf e then its g e else (g, 3, [40]) :: its 0 e ++ [(0, 3, [41])]
theorem its_one (g : Nat) (k : Int) (e : Ex) : its g (.one k e) = (g, frontI k) :: itsP 1 e := rfl
theorem its_two (g : Nat) (k : Int) (e f : Ex) : its g (.two k e f) = itsP g e ++ (1, opI k) :: itsP 1 f := rfl
/-- The text with brackets. -/
def leafT (k n : Int) : List UInt8 := (leafI k n).2
def textT : Ex → List UInt8
  | .leaf k n => leafT k n
  | .one k e => (frontI k).2 ++ 32 :: (if isLeaf e then textT e else 40 :: textT e ++ [41])
  | .two k e f => (if isLeaf e then textT e else 40 :: textT e ++ [41]) ++ 32 :: (opT k ++ 32 :: (if isLeaf f then textT f else 40 :: textT f ++ [41]))
def partT (e : Ex) : List UInt8 := if isLeaf e then textT e else 40 :: textT e ++ [41]
theorem its_str (e : Ex) : ∀ g, str (its g e) = List.replicate g 32 ++ textT e := by
  have hp : ∀ e, (∀ g, str (its g e) = List.replicate g 32 ++ textT e) → ∀ g, str (itsP g e) = List.replicate g 32 ++ partT e := by
    intro e he g
    unfold itsP partT
    split
    · exact he g
    · show _ ++ ([40] ++ str (its 0 e ++ [(0, 3, [41])])) = _
      rw [str_append, he 0]
      simp [str]
  induction e with
  | leaf k n => intro g; show _ ++ (_ ++ []) = _; rw [List.append_nil]; rfl
  | one k e ih =>
    intro g
    rw [its_one]
    show _ ++ (_ ++ str (itsP 1 e)) = _ ++ (_ ++ 32 :: partT e)
    rw [hp e ih 1]
    rfl
  | two k e f ihe ihf =>
    intro g
    rw [its_two, str_append, hp e ihe g]
    show _ ++ (_ ++ (_ ++ str (itsP 1 f))) = _ ++ (partT e ++ 32 :: (opT k ++ 32 :: partT f))
    rw [hp f ihf 1, List.append_assoc]
    rfl
theorem itsP_str (e : Ex) (g : Nat) : str (itsP g e) = List.replicate g 32 ++ partT e := by
  unfold itsP partT
  split
  · exact its_str e g
  · show _ ++ ([40] ++ str (its 0 e ++ [(0, 3, [41])])) = _
    rw [str_append, its_str e 0]
    simp [str]
theorem its_ne (e : Ex) (g : Nat) : ∃ i r, its g e = i :: r ∧ i.1 = g := by
  induction e generalizing g with
  | leaf k n => exact ⟨_, [], rfl, rfl⟩
  | one k e _ => exact ⟨_, _, rfl, rfl⟩
  | two k e f ihe _ =>
    rw [its_two]
    unfold itsP
    split
    · obtain ⟨i, r, h, hg⟩ := ihe g
      exact ⟨i, _, by rw [h]; rfl, hg⟩
    · exact ⟨_, _, rfl, rfl⟩
theorem itsP_ne (e : Ex) (g : Nat) : ∃ i r, itsP g e = i :: r ∧ i.1 = g := by
  unfold itsP
  split
  · exact its_ne e g
  · exact ⟨_, _, rfl, rfl⟩
/-- Numbers are 64 bits wide. -/
def Small : Ex → Prop
  | .leaf _ n => n ≤ 9223372036854775807
  | .one _ e => Small e
  | .two _ e f => Small e ∧ Small f
theorem itoa_read {n : Int} (h0 : 0 ≤ n) (h : n ≤ 9223372036854775807) : rdV (itoa n) = n ∧ validB 1 (itoa n) = true := by
  obtain ⟨m, rfl⟩ : ∃ m : Nat, n = m := ⟨n.toNat, by omega⟩
  have e : itoa (m : Int) = decDigits m := rfl
  have hd := digB_decDigits m
  have hv : val (decDigits m) ≤ 9223372036854775807 := by rw [val_decDigits]; omega
  rw [e]
  constructor
  · unfold rdV
    rw [if_pos ⟨hd, hv⟩, val_decDigits]
  · show (rdE (decDigits m) == 0) = true
    unfold rdE
    rw [if_pos hd, if_pos hv]
    rfl
theorem leaf_item {k n : Int} (hw : Wf (.leaf k n)) (hs : n ≤ 9223372036854775807) : validB (leafI k n).1 (leafI k n).2 = true ∧ symI (leafI k n).1 (leafI k n).2 = leafS k n := by
  unfold leafI leafS
  rcases hw with ⟨rfl, h0⟩ | ⟨h2, h4, rfl⟩
  · rw [if_pos rfl, if_pos rfl]
    obtain ⟨r1, r2⟩ := itoa_read h0 hs
    exact ⟨r2, by show Sy.num _ = _; rw [r1]⟩
  · rcases (show k = 2 ∨ k = 3 ∨ k = 4 by omega) with rfl | rfl | rfl <;> exact ⟨by decide, rfl⟩
theorem symI_num (x : List UInt8) : symI 1 x = .num (rdV x) := rfl
theorem front_item {k : Int} (h : k = 5 ∨ k = 6) : validB (frontI k).1 (frontI k).2 = true ∧ symI (frontI k).1 (frontI k).2 = if k = 5 then Sy.bin 9 else Sy.no := by
  rcases h with rfl | rfl
  · exact ⟨by decide, rfl⟩
  · exact ⟨by decide, rfl⟩
theorem op_item {k : Int} (h : 7 ≤ k ∧ k ≤ 19) : validB (opI k).1 (opI k).2 = true ∧ symI (opI k).1 (opI k).2 = .bin k ∧ opT k ≠ [40] ∧ opT k ≠ [] := by
  obtain ⟨h1, h2⟩ := h
  rcases (show k = 7 ∨ k = 8 ∨ k = 9 ∨ k = 10 ∨ k = 11 ∨ k = 12 ∨ k = 13 ∨ k = 14 ∨ k = 15 ∨ k = 16 ∨ k = 17 ∨ k = 18 ∨ k = 19 by omega) with rfl | rfl | rfl | rfl | rfl | rfl | rfl | rfl | rfl | rfl | rfl | rfl | rfl
  all_goals exact ⟨by decide, rfl, by decide, by decide⟩
def symsI (is : List It) : List Sy := is.map fun i => symI i.2.1 i.2.2
theorem symsI_append (a b : List It) : symsI (a ++ b) = symsI a ++ symsI b := List.map_append
theorem left_sym : symI 3 [40] = .left := rfl
theorem right_sym : symI 3 [41] = .right := rfl
theorem its_syms (e : Ex) (hw : Wf e) (hs : Small e) : ∀ g, symsI (its g e) = toks e := by
  have hp : ∀ e, (∀ g, symsI (its g e) = toks e) → ∀ g, symsI (itsP g e) = partS e := by
    intro e he g
    unfold itsP partS
    split
    · exact he g
    · show Sy.left :: symsI (its 0 e ++ [(0, 3, [41])]) = _
      rw [symsI_append, he 0]
      rfl
  induction e with
  | leaf k n => intro g; show [symI _ _] = [_]; rw [(leaf_item hw hs).2]
  | one k e ih =>
    intro g
    rw [its_one, toks_one]
    show symI _ _ :: symsI (itsP 1 e) = _
    rw [hp e (ih hw.2 hs) 1, (front_item hw.1).2]
  | two k e f ihe ihf =>
    intro g
    rw [its_two, toks_two, symsI_append, hp e (ihe hw.2.2.1 hs.1) g]
    show _ ++ symI _ _ :: symsI (itsP 1 f) = _
    rw [hp f (ihf hw.2.2.2 hs.2) 1, (op_item ⟨hw.1, hw.2.1⟩).2.1]
theorem itsP_syms (e : Ex) (hw : Wf e) (hs : Small e) (g : Nat) : symsI (itsP g e) = partS e := by
  unfold itsP partS
  split
  · exact its_syms e hw hs g
  · show Sy.left :: symsI (its 0 e ++ [(0, 3, [41])]) = _
    rw [symsI_append, its_syms e hw hs 0]
    rfl
/-- Things that fit, whatever fits behind them. -/
def FitE (a : List It) : Prop := ∀ b, Fit b → Ends b → Fit (a ++ b)
theorem close_fit : FitE [(0, 3, [41])] := fun b hb he => ⟨by decide, .inr he, hb⟩
theorem ends_close (r : List It) : Ends ((0, 3, [41]) :: r) := fun i hi => by simp at hi; subst hi; exact .inr rfl
theorem ends_blank {g : Nat} (hg : 0 < g) {i : It} (hi : i.1 = g) (r : List It) : Ends (i :: r) := fun j hj => by simp at hj; subst hj; exact .inl (by omega)
theorem paren_fit {a : List It} (h : FitE a) (g : Nat) : FitE ((g, 3, [40]) :: a ++ [(0, 3, [41])]) := by
  intro b hb he
  rw [List.append_assoc]
  refine ⟨rfl, .inl rfl, ?_⟩
  exact h _ (close_fit b hb he) (ends_close _)
theorem its_fit (e : Ex) (hw : Wf e) (hs : Small e) : ∀ g, FitE (its g e) := by
  have hp : ∀ e, (∀ g, FitE (its g e)) → ∀ g, FitE (itsP g e) := by
    intro e he g
    unfold itsP
    split
    · exact he g
    · exact paren_fit (he 0) g
  induction e with
  | leaf k n =>
    intro g b hb he
    exact ⟨(leaf_item hw hs).1, .inr he, hb⟩
  | one k e ih =>
    intro g b hb he
    rw [its_one]
    refine ⟨(front_item hw.1).1, .inr ?_, hp e (ih hw.2 hs) 1 b hb he⟩
    obtain ⟨i, r, h, hg⟩ := itsP_ne e 1
    rw [h]
    exact ends_blank (by decide) hg _
  | two k e f ihe ihf =>
    intro g b hb he
    rw [its_two, List.append_assoc]
    obtain ⟨i, r, h, hg⟩ := itsP_ne f 1
    refine hp e (ihe hw.2.2.1 hs.1) g _ ⟨(op_item ⟨hw.1, hw.2.1⟩).1, .inr ?_, hp f (ihf hw.2.2.2 hs.2) 1 b hb he⟩ (ends_blank (g := 1) (by decide) rfl _)
    show Ends (itsP 1 f ++ b)
    rw [h]
    exact ends_blank (by decide) hg _
/-- How many things there are. -/
theorem its_len (e : Ex) : ∀ g, (its g e).length + 2 ≤ 3 * (flat e).length := by
  have hp : ∀ e, (∀ g, (its g e).length + 2 ≤ 3 * (flat e).length) → ∀ g, (itsP g e).length ≤ 3 * (flat e).length := by
    intro e he g
    unfold itsP
    split
    · have := he g; omega
    · have := he 0
      simp only [List.length_cons, List.length_append, List.length_nil]
      omega
  induction e with
  | leaf k n => intro g; show 1 + 2 ≤ 3 * 1; decide
  | one k e ih =>
    intro g
    have h := hp e ih 1
    have hl : (flat (.one k e)).length = (flat e).length + 1 := by show (_ ++ [_]).length = _; simp
    rw [its_one, List.length_cons, hl]
    omega
  | two k e f ihe ihf =>
    intro g
    have h1 := hp e ihe g
    have h2 := hp f ihf 1
    have hl : (flat (.two k e f)).length = (flat e).length + (flat f).length + 1 := by show (_ ++ _ ++ [_]).length = _; simp; omega
    rw [its_two, List.length_append, List.length_cons, hl]
    omega
end Go.Proofs.YtdinaedknlkicaaGreatDoor.Exprs
/-
  What layer 5's statements say, plainly: Text of a list of nodes, Parse of a list of tokens; written with brackets it is read. No program in this text.
-/
namespace Go.Proofs.YtdinaedknlkicaaGreatDoor.Exprs
open Nodes Go.Lib

/-! ### The text of a list of nodes -/
/-- The text with brackets of the expression of the node with an index. -/
def wr (l : List Nd) : Nat → Int → List UInt8
  | 0, _ => []
  | f + 1, i =>
    match l[i.toNat]? with
    | none => []
    | some x =>
      let part := fun j : Int => if arity ((l[j.toNat]?).map (·.kind) |>.getD 0) = 0 then wr l f j else 40 :: wr l f j ++ [41]
      if arity x.kind = 0 then leafT x.kind x.n
      else if arity x.kind = 1 then (frontI x.kind).2 ++ 32 :: part x.a
      else part x.a ++ 32 :: (opT x.kind ++ 32 :: part x.b)
/-- What Text returns. -/
def textV (l : List Nd) : List UInt8 × Int := if checkV l = 0 then (wr l l.length (l.length - 1), 0) else ([], checkV l)
/-- The nodes of m stand in L from o on. -/
def Has (L : List Nd) (o : Nat) (m : List Nd) : Prop := ∀ i (h : i < m.length), ∃ y, L[o + i]? = some y ∧ Nodes.core y = Nodes.core (shift (-(o : Int)) m[i])
theorem has_front {L : List Nd} {o : Nat} {a b : List Nd} (h : Has L o (a ++ b)) : Has L o a := fun i hi => by
  obtain ⟨y, h1, h2⟩ := h i (by rw [List.length_append]; omega)
  exact ⟨y, h1, by rw [h2, List.getElem_append_left hi]⟩
theorem core_of_shift (o : Int) (x : Nd) : Nodes.core (shift o x) = (x.kind, x.n, (if 0 < arity x.kind then x.a - o else x.a), (if 1 < arity x.kind then x.b - o else x.b)) := rfl
theorem has_back {L : List Nd} {o : Nat} {a b : List Nd} (h : Has L o (a ++ b.map (shift (-(a.length : Int))))) : Has L (o + a.length) b := fun i hi => by
  obtain ⟨y, h1, h2⟩ := h (a.length + i) (by rw [List.length_append, List.length_map]; omega)
  refine ⟨y, by rw [Nat.add_assoc]; exact h1, ?_⟩
  rw [h2, List.getElem_append_right (by omega), List.getElem_map, shift_add]
  simp only [Nat.add_sub_cancel_left]
  congr 2
  omega
theorem has_last {L : List Nd} {o : Nat} {a : List Nd} {x : Nd} (h : Has L o (a ++ [x])) : ∃ y, L[o + a.length]? = some y ∧ Nodes.core y = Nodes.core (shift (-(o : Int)) x) := by
  obtain ⟨y, h1, h2⟩ := h a.length (by simp)
  exact ⟨y, h1, by rw [h2]; simp⟩
theorem flat_pos (e : Ex) : 0 < (flat e).length := by
  cases e with
  | leaf k n => exact Nat.zero_lt_one
  | one k e => show 0 < (_ ++ [_]).length; simp
  | two k e f => show 0 < (_ ++ _ ++ [_]).length; rw [List.length_append]; exact Nat.succ_pos _
def kindE : Ex → Int
  | .leaf k _ => k
  | .one k _ => k
  | .two k _ _ => k
theorem arity_leaf_iff {e : Ex} (hw : Wf e) : arity (kindE e) = 0 ↔ isLeaf e = true := by
  cases e with
  | leaf k n =>
    have : k ≤ 4 := by rcases hw with ⟨h, _⟩ | ⟨_, h, _⟩ <;> omega
    exact ⟨fun _ => rfl, fun _ => arity_leaf this⟩
  | one k e => rcases hw.1 with rfl | rfl <;> simp [kindE, isLeaf, arity]
  | two k e f => simp [kindE, isLeaf, arity_bin hw.1]
theorem has_root {L : List Nd} {o : Nat} {e : Ex} (h : Has L o (flat e)) : ∃ y, L[o + ((flat e).length - 1)]? = some y ∧ y.kind = kindE e := by
  have hp := flat_pos e
  obtain ⟨y, h1, h2⟩ := h ((flat e).length - 1) (by omega)
  refine ⟨y, h1, ?_⟩
  have hk : ∀ i (hi : i < (flat e).length), i = (flat e).length - 1 → ((flat e)[i]).kind = kindE e := by
    cases e with
    | leaf k n => intro i hi e; simp only [flat, madeL, List.length_cons, List.length_nil] at hi; have : i = 0 := by omega
                  subst this; rfl
    | one k e =>
      intro i hi hl
      have e1 : flat (.one k e) = flat e ++ [⟨k, 0, ((flat e).length : Int) - 1, 0, 0⟩] := rfl
      have hl2 : i = (flat e).length := by rw [hl, e1]; simp
      subst hl2
      simp only [e1, List.getElem_concat_length]
      rfl
    | two k e f =>
      intro i hi hl
      have e1 : flat (.two k e f) = (flat e ++ (flat f).map (shift (-((flat e).length : Int)))) ++ [⟨k, 0, ((flat e).length : Int) - 1, ((flat e).length : Int) + (flat f).length - 1, 0⟩] := rfl
      have hl2 : i = (flat e ++ (flat f).map (shift (-((flat e).length : Int)))).length := by rw [hl, e1]; simp
      subst hl2
      simp only [e1, List.getElem_concat_length]
      rfl
  have := hk _ (by omega) rfl
  simp only [Nodes.core, Prod.mk.injEq] at h2
  rw [h2.1, ← this]
  rfl
theorem wr_flat (e : Ex) : Wf e → ∀ (L : List Nd) (o f : Nat), Has L o (flat e) → (flat e).length ≤ f → wr L f ((o + ((flat e).length - 1) : Nat) : Int) = textT e := by
  have hpart : ∀ (e : Ex), Wf e → (∀ (L : List Nd) (o f : Nat), Has L o (flat e) → (flat e).length ≤ f → wr L f ((o + ((flat e).length - 1) : Nat) : Int) = textT e) →
      ∀ (L : List Nd) (o f : Nat), Has L o (flat e) → (flat e).length ≤ f → ∀ j : Int, j = ((o + ((flat e).length - 1) : Nat) : Int) →
      (if arity ((L[j.toNat]?).map (·.kind) |>.getD 0) = 0 then wr L f j else 40 :: wr L f j ++ [41]) = partT e := by
    intro e hw ih L o f hh hf j hj
    obtain ⟨y, h1, h2⟩ := has_root hh
    subst hj
    rw [ih L o f hh hf, Int.toNat_natCast, h1]
    show (if arity y.kind = 0 then _ else _) = _
    rw [h2]
    unfold partT
    by_cases hl : isLeaf e = true
    · rw [if_pos ((arity_leaf_iff hw).2 hl), if_pos hl]
    · rw [if_neg (fun h => hl ((arity_leaf_iff hw).1 h)), if_neg hl]
  induction e with
  | leaf k n =>
    intro hw L o f hh hf
    obtain ⟨y, h1, h2⟩ := hh 0 (flat_pos _)
    have hk : k ≤ 4 := by rcases hw with ⟨h, _⟩ | ⟨_, h, _⟩ <;> omega
    have ha := arity_leaf hk
    obtain ⟨g, rfl⟩ : ∃ g, f = g + 1 := ⟨f - 1, by have := flat_pos (.leaf k n); omega⟩
    have hc : Nodes.core y = (k, n, 0, 0) := by
      rw [h2, core_of_shift]
      show (k, n, (if 0 < arity k then _ else (0 : Int)), (if 1 < arity k then _ else (0 : Int))) = _
      rw [ha]; rfl
    simp only [Nodes.core, Prod.mk.injEq] at hc
    have e0 : o + ((flat (.leaf k n)).length - 1) = o + 0 := rfl
    rw [e0]
    unfold wr
    rw [Int.toNat_natCast, h1]
    simp only
    rw [hc.1, hc.2.1, if_pos ha]
    rfl
  | one k e ih =>
    intro hw L o f hh hf
    have e1 : flat (.one k e) = flat e ++ [⟨k, 0, ((flat e).length : Int) - 1, 0, 0⟩] := rfl
    have hlen : (flat (.one k e)).length = (flat e).length + 1 := by rw [e1]; simp
    rw [e1] at hh
    obtain ⟨y, h1, h2⟩ := has_last hh
    have ha : arity k = 1 := by rcases hw.1 with rfl | rfl <;> rfl
    obtain ⟨g, rfl⟩ : ∃ g, f = g + 1 := ⟨f - 1, by omega⟩
    have hc : Nodes.core y = (k, 0, ((flat e).length : Int) - 1 + o, 0) := by
      rw [h2, core_of_shift]
      show (k, (0 : Int), (if 0 < arity k then _ else _), (if 1 < arity k then _ else (0 : Int))) = _
      rw [ha]
      simp only [Nat.lt_irrefl, if_false, Nat.zero_lt_one, if_true]
      rw [Int.sub_neg]
    simp only [Nodes.core, Prod.mk.injEq] at hc
    rw [hlen, show o + ((flat e).length + 1 - 1) = o + (flat e).length by omega]
    have hp := flat_pos e
    have h3 := hpart e hw.2 (ih hw.2) L o g (has_front hh) (by omega) y.a (by rw [hc.2.2.1]; omega)
    unfold wr
    rw [Int.toNat_natCast, h1]
    simp only
    rw [h3, hc.1, ha, if_neg (by decide), if_pos rfl]
    rfl
  | two k e f ihe ihf =>
    intro hw L o n hh hf
    have e1 : flat (.two k e f) = (flat e ++ (flat f).map (shift (-((flat e).length : Int)))) ++ [⟨k, 0, ((flat e).length : Int) - 1, ((flat e).length : Int) + (flat f).length - 1, 0⟩] := rfl
    have hlen : (flat (.two k e f)).length = (flat e).length + (flat f).length + 1 := by rw [e1]; simp; omega
    rw [e1] at hh
    obtain ⟨y, h1, h2⟩ := has_last hh
    have ha : arity k = 2 := arity_bin hw.1
    obtain ⟨g, rfl⟩ : ∃ g, n = g + 1 := ⟨n - 1, by omega⟩
    have hc : Nodes.core y = (k, 0, ((flat e).length : Int) - 1 + o, ((flat e).length : Int) + (flat f).length - 1 + o) := by
      rw [h2, core_of_shift]
      show (k, (0 : Int), (if 0 < arity k then _ else _), (if 1 < arity k then _ else _)) = _
      rw [ha]
      simp only [Nat.zero_lt_succ, if_true, Nat.one_lt_two]
      rw [Int.sub_neg, Int.sub_neg]
    simp only [Nodes.core, Prod.mk.injEq] at hc
    have hl2 : (flat e ++ (flat f).map (shift (-((flat e).length : Int)))).length = (flat e).length + (flat f).length := by simp
    rw [hl2] at h1
    rw [hlen, show o + ((flat e).length + (flat f).length + 1 - 1) = o + ((flat e).length + (flat f).length) by omega]
    have hp := flat_pos e
    have hp2 := flat_pos f
    have h3 := hpart e hw.2.2.1 (ihe hw.2.2.1) L o g (has_front (has_front hh)) (by omega) y.a (by rw [hc.2.2.1]; omega)
    have h4 := hpart f hw.2.2.2 (ihf hw.2.2.2) L (o + (flat e).length) g (has_back (has_front hh)) (by omega) y.b (by rw [hc.2.2.2]; omega)
    unfold wr
    rw [Int.toNat_natCast, h1]
    simp only
    rw [h3, h4, hc.1, ha, if_neg (by decide), if_neg (by decide)]
    rfl
theorem has_self {l m : List Nd} (h : m.map Nodes.core = l.map Nodes.core) : Has l 0 m := fun i hi => by
  have hl : m.length = l.length := by simpa using congrArg List.length h
  refine ⟨l[i]'(by omega), by rw [Nat.zero_add, List.getElem?_eq_getElem (by omega)], ?_⟩
  have h1 : (m.map Nodes.core)[i]? = (l.map Nodes.core)[i]? := by rw [h]
  rw [List.getElem?_map, List.getElem?_map, List.getElem?_eq_getElem hi, List.getElem?_eq_getElem (by omega)] at h1
  simp only [Option.map_some, Option.some.injEq] at h1
  rw [← h1]
  show _ = Nodes.core (shift (-((0 : Nat) : Int)) m[i])
  rw [show (-((0 : Nat) : Int)) = 0 from rfl, shift_zero]
theorem text_tree {l : List Nd} {e : Ex} (hw : Wf e) (h : (flat e).map Nodes.core = l.map Nodes.core) : wr l l.length (l.length - 1) = textT e := by
  have hl : (flat e).length = l.length := by simpa using congrArg List.length h
  have hp := flat_pos e
  have := wr_flat e hw l 0 l.length (has_self h) (by omega)
  rw [← this]
  congr 1
  rw [Nat.zero_add, hl]
  omega
/-- Numbers of 64 bits. -/
def Wide (l : List Nd) : Prop := ∀ x ∈ l, x.n ≤ 9223372036854775807
theorem wide_core {l m : List Nd} (h : l.map Nodes.core = m.map Nodes.core) (hw : Wide m) : Wide l := by
  intro x hx
  obtain ⟨y, hy, e⟩ : ∃ y ∈ m, Nodes.core y = Nodes.core x := by
    have : Nodes.core x ∈ m.map Nodes.core := by rw [← h]; exact List.mem_map_of_mem hx
    obtain ⟨y, hy, e⟩ := List.mem_map.1 this
    exact ⟨y, hy, e⟩
  have := hw y hy
  simp only [Nodes.core, Prod.mk.injEq] at e
  omega
theorem small_of (e : Ex) (h : Wide (flat e)) : Small e := by
  induction e with
  | leaf k n => exact h ⟨k, n, 0, 0, 0⟩ (by simp [flat, madeL])
  | one k e ih => exact ih (fun x hx => h x (by show x ∈ flat e ++ [_]; simp [hx]))
  | two k e f ihe ihf =>
    refine ⟨ihe (fun x hx => h x (by show x ∈ flat e ++ _ ++ [_]; simp [hx])), ihf (fun x hx => ?_)⟩
    exact h (shift (-((flat e).length : Int)) x) (by
      show _ ∈ flat e ++ (flat f).map (shift (-((flat e).length : Int))) ++ [_]
      refine List.mem_append_left _ (List.mem_append_right _ (List.mem_map_of_mem hx)))
/-- A valid expression is that of a tree, and its text is that of the tree. -/
theorem tree_text {l : List Nd} (hc : checkV l = 0) (hn : Wide l) : ∃ e, Wf e ∧ OkE e ∧ Small e ∧ (flat e).map Nodes.core = l.map Nodes.core ∧ textV l = (textT e, 0) := by
  obtain ⟨e, hw, ho, h⟩ := tree_of l.length l (Nat.le_refl _) hc
  refine ⟨e, hw, ho, small_of e (wide_core h hn), h, ?_⟩
  unfold textV
  rw [if_pos hc, text_tree hw h]

/-- A text is not long. -/
theorem text_len (e : Ex) (hw : Wf e) (hs : Small e) : (textT e).length + 2 ≤ 30 * (flat e).length := by
  have hp : ∀ e, (textT e).length + 2 ≤ 30 * (flat e).length → (partT e).length ≤ 30 * (flat e).length := by
    intro e he
    unfold partT
    split
    · omega
    · simp only [List.cons_append, List.length_cons, List.length_append, List.length_nil]; omega
  induction e with
  | leaf k n =>
    show (leafT k n).length + 2 ≤ 30 * 1
    unfold leafT leafI
    split
    · have h0 : 0 ≤ n := by rcases hw with ⟨_, h⟩ | ⟨_, _, h⟩ <;> omega
      have h1 : n ≤ 9223372036854775807 := hs
      have := itoa_length_le n (by omega) h1
      show (itoa n).length + 2 ≤ 30; omega
    split
    · decide
    split
    · decide
    · decide
  | one k e ih =>
    have h := hp e (ih hw.2 hs)
    have hl : (flat (.one k e)).length = (flat e).length + 1 := by show (_ ++ [_]).length = _; simp
    have hf : (frontI k).2.length ≤ 3 := by unfold frontI; split <;> decide
    show ((frontI k).2 ++ 32 :: partT e).length + 2 ≤ _
    rw [hl, List.length_append, List.length_cons]
    omega
  | two k e f ihe ihf =>
    have h1 := hp e (ihe hw.2.2.1 hs.1)
    have h2 := hp f (ihf hw.2.2.2 hs.2)
    have hl : (flat (.two k e f)).length = (flat e).length + (flat f).length + 1 := by show (_ ++ _ ++ [_]).length = _; simp; omega
    have ho : (opT k).length ≤ 3 := by
      have : ∀ i, (opTab.getD i []).length ≤ 3 := by
        intro i
        by_cases hi : i < 13
        · have : ∀ i : Fin 13, (opTab.getD i.val []).length ≤ 3 := by decide
          exact this ⟨i, hi⟩
        · rw [List.getD_eq_getElem?_getD, List.getElem?_eq_none (by show 13 ≤ i; omega)]; decide
      exact this _
    show (partT e ++ 32 :: (opT k ++ 32 :: partT f)).length + 2 ≤ _
    rw [hl]
    simp only [List.length_append, List.length_cons]
    omega
theorem text_long {l : List Nd} (h : checkV l = 0) (hn : Wide l) : (textV l).1.length ≤ 1800 := by
  obtain ⟨e, hw, _, hs, hc, ht⟩ := tree_text h hn
  have h60 := (check_acc h).2.2.1
  have hl : (flat e).length = l.length := by simpa using congrArg List.length hc
  have := text_len e hw hs
  rw [ht]
  show (textT e).length ≤ 1800
  omega
theorem text_ok {l : List Nd} (hc : checkV l = 0) : (textV l).2 = 0 := by
  unfold textV; rw [if_pos hc]
/-! ### What Parse returns -/
/-- The error of tokens and an index. -/
def askedV (ts : List Tok) (at_ : Int) : Int :=
  if 200 < ts.length then 4
  else if ts.all (fun t => validT t && decide (0 ≤ t.at_ ∧ t.at_ ≤ 400)) = false then 8
  else if at_ < 0 ∨ (ts.length : Int) < at_ then 2 else 0
def parseV (ts : List Tok) (at_ : Int) : List Nd × Int × Int :=
  if askedV ts at_ = 0 then
    match parse (syms (ts.drop at_.toNat)) with
    | .ok x rest => (x, (ts.length : Int) - rest.length, 0)
    | .err c rest => ([], (ts.length : Int) - rest.length, c)
  else ([], 0, askedV ts at_)
theorem asked_ok {ts : List Tok} {at_ : Int} : askedV ts at_ = 0 ↔ ts.length ≤ 200 ∧ (∀ t ∈ ts, validT t = true ∧ 0 ≤ t.at_ ∧ t.at_ ≤ 400) ∧ 0 ≤ at_ ∧ at_ ≤ ts.length := by
  unfold askedV
  split
  · exact ⟨fun h => by simp at h, fun h => by omega⟩
  split
  · rename_i h
    refine ⟨fun h => by simp at h, fun h2 => ?_⟩
    have : ts.all (fun t => validT t && decide (0 ≤ t.at_ ∧ t.at_ ≤ 400)) = true := by
      rw [List.all_eq_true]
      intro t ht
      obtain ⟨v, a, b⟩ := h2.2.1 t ht
      simp [v, a, b]
    rw [h] at this; cases this
  · rename_i _ h
    have h3 : ∀ t ∈ ts, validT t = true ∧ 0 ≤ t.at_ ∧ t.at_ ≤ 400 := by
      intro t ht
      have := List.all_eq_true.1 (Bool.not_eq_false _ ▸ h) t ht
      simpa only [Bool.and_eq_true, decide_eq_true_eq] using this
    split
    · exact ⟨fun h => by simp at h, fun h => by omega⟩
    · exact ⟨fun _ => ⟨by omega, h3, by omega, by omega⟩, fun _ => rfl⟩
theorem parse_v {ts : List Tok} {at_ : Nat} (h : askedV ts at_ = 0) {x : List Nd} {rest : List S} (hp : parse (syms (ts.drop at_)) = .ok x rest) : parseV ts at_ = (x, (ts.length : Int) - rest.length, 0) := by
  unfold parseV
  rw [if_pos h, Int.toNat_natCast, hp]
/-- Things of a text that fit are right tokens. -/
theorem placed_valid (is : List It) : ∀ off, Fit is → off + (str is).length ≤ 400 → ∀ t ∈ placed off is, validT t = true ∧ 0 ≤ t.at_ ∧ t.at_ ≤ 400 := by
  induction is with
  | nil => intro off _ _ t ht; cases ht
  | cons i r ih =>
    intro off hF h t ht
    have e : (str (i :: r)).length = i.1 + (i.2.2.length + (str r).length) := by
      show (List.replicate i.1 32 ++ (i.2.2 ++ str r)).length = _
      simp only [List.length_append, List.length_replicate]
    rw [e] at h
    have ht2 : t ∈ (⟨i.2.1, ((off + i.1 : Nat) : Int), i.2.2⟩ : Tok) :: placed (off + i.1 + i.2.2.length) r := ht
    rcases List.mem_cons.1 ht2 with rfl | h2
    · refine ⟨hF.1, ?_, ?_⟩
      · show 0 ≤ ((off + i.1 : Nat) : Int); omega
      · show ((off + i.1 : Nat) : Int) ≤ 400; omega
    · exact ih _ hF.2.2 (by omega) t h2
theorem fit_end {a : List It} (h : FitE a) : Fit a := by
  have := h [] trivial (fun i hi => by simp at hi)
  rwa [List.append_nil] at this
theorem its_end (e : Ex) (hw : Wf e) (hs : Small e) (g : Nat) : Fit (its g e) := fit_end (its_fit e hw hs g)
theorem flat_len {e : Ex} (ho : OkE e) : (flat e).length ≤ 60 := by
  have : checkV (flat e) = 0 := by
    cases e with
    | leaf k n => exact ho
    | one k e => exact ho.1
    | two k e f => exact ho.1
  exact (check_acc this).2.2.1

/-! ### Written with brackets it is read -/
theorem back_v {l : List Nd} (hc : checkV l = 0) (hn : Wide l) (hl : (textV l).1.length ≤ 400) :
    (allV (textV l).1).2.2 = 0 ∧ (parseV (allV (textV l).1).1 0).2.2 = 0 ∧ (parseV (allV (textV l).1).1 0).2.1 = (allV (textV l).1).1.length ∧ sameV l (parseV (allV (textV l).1).1 0).1 = (true, 0) := by
  obtain ⟨e, hw, ho, hs, hcr, ht⟩ := tree_text hc hn
  rw [ht] at hl ⊢
  simp only at hl ⊢
  have hstr : str (its 0 e) = textT e := its_str e 0
  have h60 := flat_len ho
  have h3 := its_len e 0
  have hall := all_str (its_end e hw hs 0) (by omega) (by rw [hstr]; exact hl)
  rw [hstr] at hall
  rw [hall]
  simp only
  have hts : (syms (placed 0 (its 0 e))).map (·.1) = toks e := by rw [placed_syms]; exact its_syms e hw hs 0
  have hat := placed_at (its 0 e) 0 (by rw [hstr]; omega)
  obtain ⟨y, hy, hya, hr⟩ := (back e hw ho).1 _ hts hat
  replace hr := hr [] (fun k p r e => by cases e)
  rw [List.append_nil] at hr
  have hask : askedV (placed 0 (its 0 e)) ((0 : Nat) : Int) = 0 := asked_ok.2 ⟨by rw [placed_len]; omega, placed_valid _ 0 (its_end e hw hs 0) (by rw [hstr]; omega), by omega, by omega⟩
  have hpv := parse_v (at_ := 0) hask (by rw [List.drop_zero]; exact parse_reads hr)
  rw [show ((0 : Nat) : Int) = 0 from rfl] at hpv
  rw [hpv]
  refine ⟨trivial, rfl, by simp, ?_⟩
  have hcy : checkV y = 0 := check_alike (by rw [← hcr, hy]) hya hc
  unfold sameV
  rw [if_pos hc, if_pos hcy]
  show (decide (l.map Nodes.core = y.map Nodes.core), _) = _
  rw [← hcr, hy]
  simp
end Go.Proofs.YtdinaedknlkicaaGreatDoor.Exprs
/-
  Brackets around all of it, what stands around; what binds first (layer 5), plainly. No program in this text.
-/
namespace Go.Proofs.YtdinaedknlkicaaGreatDoor.Exprs
open Nodes Go.Lib

/-! ### Brackets -/
def bra (g : Nat) (e : Ex) : List It := (g, 3, [40]) :: its 0 e ++ [(0, 3, [41])]
theorem bra_fit {e : Ex} (hw : Wf e) (hs : Small e) (g : Nat) : FitE (bra g e) := paren_fit (its_fit e hw hs 0) g
theorem bra_str (e : Ex) (g : Nat) : str (bra g e) = List.replicate g 32 ++ 40 :: textT e ++ [41] := by
  show _ ++ ([40] ++ str (its 0 e ++ [(0, 3, [41])])) = _
  rw [str_append, its_str e 0]
  simp [str]
theorem bra_syms {e : Ex} (hw : Wf e) (hs : Small e) (g : Nat) : symsI (bra g e) = .left :: toks e ++ [.right] := by
  show Sy.left :: symsI (its 0 e ++ [(0, 3, [41])]) = _
  rw [symsI_append, its_syms e hw hs 0]
  rfl
theorem bra_len (e : Ex) (g : Nat) : (bra g e).length ≤ 3 * (flat e).length := by
  have := its_len e 0
  unfold bra
  simp only [List.length_cons, List.length_append, List.length_nil]
  omega
/-- The tokens of an expression in brackets are read as it, by each line. -/
theorem bra_read {e : Ex} (hw : Wf e) (ho : OkE e) (t : List S) (ht : t.map (·.1) = .left :: toks e ++ [.right]) (ha : AtL t) (n : Nat) (hn : n ≤ 7) : ReadAs n t (Stops n) e :=
  prim_line (left_head (m := toks e ++ [.right]) (by rw [ht]; rfl)) (bracketed e (back e hw ho).1 t ht ha) n hn
theorem syms_len (ts : List Tok) : (syms ts).length = ts.length := List.length_map _
theorem syms_append (a b : List Tok) : syms (a ++ b) = syms a ++ syms b := List.map_append
theorem stops_nil (n : Nat) : Stops n [] := fun k p r e => by cases e
/-- What does not go on. -/
def Calm (b : Tok) : Prop := b.kind = 1 ∨ b.text = [107] ∨ b.text = [41] ∨ b.text = [40]
theorem calm_stops {b : Tok} (h : Calm b) (n : Nat) : Stops n (syms [b]) := by
  intro k p r e
  have e1 : symI b.kind b.text = .bin k := by
    have := (List.cons.inj e).1
    exact congrArg Prod.fst this
  exfalso
  unfold symI at e1
  by_cases hk : b.kind = 1
  · rw [if_pos hk] at e1; cases e1
  · rw [if_neg hk] at e1
    rcases h with h | h | h | h
    · exact hk h
    all_goals rw [h] at e1; cases e1
theorem brackets_v {l : List Nd} (hc : checkV l = 0) (hn : Wide l) (hl : (textV l).1.length ≤ 390) {front : List Tok} (hf : ∀ t ∈ front, validT t = true ∧ 0 ≤ t.at_ ∧ t.at_ ≤ 400) (hf30 : front.length ≤ 30) :
    (allV (40 :: (textV l).1 ++ [41])).2.2 = 0 ∧ ((allV (40 :: (textV l).1 ++ [41])).1.length ≤ 150 → ∃ y, sameV l y = (true, 0) ∧
      parseV (front ++ (allV (40 :: (textV l).1 ++ [41])).1) front.length = (y, ((front ++ (allV (40 :: (textV l).1 ++ [41])).1).length : Int), 0) ∧
      ∀ b : Tok, validT b = true → 0 ≤ b.at_ ∧ b.at_ ≤ 400 → Calm b → parseV (front ++ (allV (40 :: (textV l).1 ++ [41])).1 ++ [b]) front.length = (y, ((front ++ (allV (40 :: (textV l).1 ++ [41])).1).length : Int), 0)) := by
  obtain ⟨e, hw, ho, hs, hcr, ht⟩ := tree_text hc hn
  rw [ht] at hl ⊢
  simp only at hl ⊢
  have hstr : str (bra 0 e) = 40 :: textT e ++ [41] := by rw [bra_str]; rfl
  have hsl : (str (bra 0 e)).length ≤ 392 := by rw [hstr]; simp only [List.length_cons, List.length_append, List.length_nil]; omega
  have h60 := flat_len ho
  have h3 := bra_len e 0
  have hfit : Fit (bra 0 e) := fit_end (bra_fit hw hs 0)
  have hall := all_str hfit (by omega) (by omega)
  rw [hstr] at hall
  rw [hall]
  simp only
  refine ⟨trivial, fun h150 => ?_⟩
  have hts : (syms (placed 0 (bra 0 e))).map (·.1) = .left :: toks e ++ [.right] := by rw [placed_syms]; exact bra_syms hw hs 0
  have hat := placed_at (bra 0 e) 0 (by omega)
  obtain ⟨y, hy, hya, hr⟩ := bra_read hw ho _ hts hat 0 (by decide)
  have hpl := placed_valid (bra 0 e) 0 hfit (by omega)
  have hcy : checkV y = 0 := check_alike (by rw [← hcr, hy]) hya hc
  refine ⟨y, ?_, ?_, fun b hb hba hcalm => ?_⟩
  · unfold sameV
    rw [if_pos hc, if_pos hcy]
    show (decide (l.map Nodes.core = y.map Nodes.core), _) = _
    rw [← hcr, hy]
    simp
  · have hask : askedV (front ++ placed 0 (bra 0 e)) (front.length : Int) = 0 := asked_ok.2 ⟨by rw [List.length_append]; omega, fun t ht => by
      rcases List.mem_append.1 ht with h | h
      · exact hf t h
      · exact hpl t h, by omega, by rw [List.length_append]; omega⟩
    have h1 := hr [] (stops_nil 0)
    rw [List.append_nil] at h1
    rw [parse_v hask (by rw [List.drop_left' rfl]; exact parse_reads h1)]
    simp
  · have hask : askedV (front ++ placed 0 (bra 0 e) ++ [b]) (front.length : Int) = 0 := asked_ok.2 ⟨by rw [List.length_append, List.length_append, List.length_singleton]; omega, fun t ht => by
      rcases List.mem_append.1 ht with h | h
      · rcases List.mem_append.1 h with h | h
        · exact hf t h
        · exact hpl t h
      · rw [List.mem_singleton.1 h]; exact ⟨hb, hba⟩, by omega, by rw [List.length_append, List.length_append]; omega⟩
    have h1 := hr (syms [b]) (calm_stops hcalm 0)
    rw [parse_v hask (by rw [List.append_assoc, List.drop_left' rfl, syms_append]; exact parse_reads h1)]
    refine Prod.ext rfl (Prod.ext ?_ rfl)
    simp only [List.length_append, syms_len, List.length_singleton]
    omega

/-! ### How deep it is made -/
theorem made_deep {k n at_ : Int} {p q : List Nd} (h1 : 1 ≤ k ∧ k ≤ 19 ∧ arity k = 2 ∧ 0 ≤ n ∧ (n = 0 ∨ k = 1) ∧ 0 ≤ at_ ∧ at_ ≤ 400) (hp : checkV p = 0) (hq : checkV q = 0) :
    dp (accV (madeL k n at_ [p, q])) ((madeL k n at_ [p, q]).length - 1) = max (1 + dp (accV q) (q.length - 1)) (1 + dp (accV p) (p.length - 1)) := by
  obtain ⟨k1, k2, ka, k3, k4, k5, k6⟩ := h1
  obtain ⟨hr, q0, _, qs, _⟩ := check_acc hp
  obtain ⟨hr2, t0, _, ts, _⟩ := check_acc hq
  have hl := (run_good.1 hr).1
  have hl2 := (run_good.1 hr2).1
  have hsh := run_shift (accV p) q [] (accV q) hr2
  rw [List.append_nil, hl] at hsh
  have hll : (accV p ++ accV q).length = p.length + q.length := by rw [List.length_append]; omega
  have e1 : p.length + q.length - 1 = (accV p).length + (q.length - 1) := by omega
  have s1 : sz (accV p ++ accV q) (p.length + q.length - 1) = q.length := by rw [e1, sz_right]; exact ts
  have e2 : p.length + q.length - 1 - q.length = p.length - 1 := by omega
  have s2 : sz (accV p ++ accV q) (p.length - 1) = p.length := by
    unfold sz
    rw [List.getElem?_append_left (by omega)]
    exact qs
  have hrun : run [] (madeL k n at_ [p, q]) = some (accV p ++ accV q ++ [(1 + q.length + p.length, max (1 + dp (accV p ++ accV q) (p.length + q.length - 1)) (1 + dp (accV p ++ accV q) (p.length - 1)))]) := by
    show run [] (p ++ q.map (shift (-(p.length : Int))) ++ [_]) = _
    rw [run_append, run_append, hr]
    show (run (accV p) (q.map (shift (-(p.length : Int))))).bind _ = _
    rw [hsh]
    show run (accV p ++ accV q) [_] = _
    rw [run_one, step2 (by exact ka), hll, if_neg (by omega), s1, if_neg (by omega), e2, s2, if_pos (right_iff.2 ⟨k1, k2, k3, k4, k5, k6, by show (p.length : Int) - 1 = _; omega, by show (p.length : Int) + q.length - 1 = _; omega⟩)]
    rfl
  rw [acc_is hrun]
  have e : (madeL k n at_ [p, q]).length = p.length + q.length + 1 := by simp [madeL]; omega
  rw [e, Nat.add_sub_cancel]
  have d0 : dp (accV p ++ accV q ++ [(1 + q.length + p.length, max (1 + dp (accV p ++ accV q) (p.length + q.length - 1)) (1 + dp (accV p ++ accV q) (p.length - 1)))]) (p.length + q.length) = max (1 + dp (accV p ++ accV q) (p.length + q.length - 1)) (1 + dp (accV p ++ accV q) (p.length - 1)) := by
    conv => lhs; unfold dp
    rw [List.getElem?_append_right (by omega), hll, Nat.sub_self]
    rfl
  have d1 : dp (accV p ++ accV q) (p.length + q.length - 1) = dp (accV q) (q.length - 1) := by
    unfold dp
    rw [e1, List.getElem?_append_right (by omega), Nat.add_sub_cancel_left]
  have d2 : dp (accV p ++ accV q) (p.length - 1) = dp (accV p) (p.length - 1) := by
    unfold dp
    rw [List.getElem?_append_left (by omega)]
  rw [d0, d1, d2]
theorem deep_le {l : List Nd} (hc : checkV l = 0) : dp (accV l) (l.length - 1) ≤ l.length := by
  obtain ⟨hr, h0, _, hs, _⟩ := check_acc hc
  have := (good_sz hr (l.length - 1) (by omega)).2.2.2
  omega
/-- Two parts that are neither long nor deep make an expression. -/
theorem made_two {k : Int} (hk : 7 ≤ k ∧ k ≤ 19) {p q : List Nd} (hp : checkV p = 0) (hq : checkV q = 0) (hl : p.length + q.length ≤ 59) (dp1 : dp (accV p) (p.length - 1) ≤ 19) (dp2 : dp (accV q) (q.length - 1) ≤ 19) : checkV (madeL k 0 0 [p, q]) = 0 := by
  have h1 : 1 ≤ k ∧ k ≤ 19 ∧ arity k = 2 ∧ 0 ≤ (0 : Int) ∧ ((0 : Int) = 0 ∨ k = 1) ∧ 0 ≤ (0 : Int) ∧ (0 : Int) ≤ 400 := ⟨by omega, hk.2, arity_bin hk.1, Int.le_refl _, .inl rfl, Int.le_refl _, by decide⟩
  have hlen : (madeL k 0 0 [p, q]).length = p.length + q.length + 1 := by simp [madeL]; omega
  rw [made_check (ps := [p, q]) ⟨h1.1, h1.2.1, h1.2.2.1, h1.2.2.2.1, h1.2.2.2.2.1, h1.2.2.2.2.2⟩ (fun x hx => by
    simp at hx
    rcases hx with rfl | rfl
    · exact hp
    · exact hq), if_neg (by omega), if_neg (by rw [made_deep h1 hp hq]; omega)]
theorem made_two_deep {k : Int} (hk : 7 ≤ k ∧ k ≤ 19) {p q : List Nd} (hp : checkV p = 0) (hq : checkV q = 0) : dp (accV (madeL k 0 0 [p, q])) ((madeL k 0 0 [p, q]).length - 1) = max (1 + dp (accV q) (q.length - 1)) (1 + dp (accV p) (p.length - 1)) :=
  made_deep ⟨by omega, hk.2, arity_bin hk.1, Int.le_refl _, .inl rfl, Int.le_refl _, by decide⟩ hp hq

/-! ### Two operators -/
/-- No operator of this very line stands there. -/
def Off (m : Nat) (rest : List S) : Prop := ∀ k p r, rest = (.bin k, p) :: r → line k ≠ m
theorem back_off {n : Nat} {down : List S → R} {ag : List Nd → List S → R} {x : List Nd} {rest : List S} (h : Off n rest) : backR n down ag x rest = .ok x rest := by
  unfold backR
  split
  · rename_i k p r
    rw [if_neg (h k p r rfl)]
  · rfl
theorem pass_off {n : Nat} (h8 : n < 7) (h2 : n ≠ 2) {l : List S} {x : List Nd} {rest : List S} (h : Reads (n + 1) l x rest) (hs : Off n rest) : Reads n l x rest := by
  obtain ⟨F, hF⟩ := h
  refine ⟨F + 2, fun f hf => ?_⟩
  obtain ⟨g, rfl⟩ : ∃ g, f = g + 2 := ⟨f - 2, by omega⟩
  show (if n = 8 then _ else if n = 7 then _ else if n = 2 then _ else _) = _
  rw [if_neg (by omega), if_neg (by omega), if_neg h2, hF (g + 1) (by omega)]
  show backR n _ _ x rest = _
  exact back_off hs
/-- Two operators of one line, but comparisons: the first one binds first. -/
theorem same_line {k1 k2 : Int} {e f g : Ex} (hl : line k1 = line k2) (h3 : line k1 ≠ 3) (hc1 : checkV (flat (.two k1 e f)) = 0) (hc : checkV (flat (.two k2 (.two k1 e f) g)) = 0)
    {t1 t2 t3 : List S} {p1 p2 : Int} (hp1 : 0 ≤ p1 ∧ p1 ≤ 400) (hp2 : 0 ≤ p2 ∧ p2 ≤ 400) (he : ReadAs (line k1 + 1) t1 (Stops (line k1 + 1)) e) (hf : ReadAs (line k1 + 1) t2 (Stops (line k1 + 1)) f) (hg : ReadAs (line k1 + 1) t3 (Stops (line k1 + 1)) g) :
    ReadAs (line k1) (t1 ++ (.bin k1, p1) :: (t2 ++ (.bin k2, p2) :: t3)) (Stops (line k1)) (.two k2 (.two k1 e f) g) := by
  obtain ⟨l6, l2⟩ := line_le k1
  obtain ⟨m, hm⟩ : ∃ m, line k1 = m := ⟨_, rfl⟩
  rw [hm] at l6 l2 he hf hg hl h3 ⊢
  obtain ⟨y1, hc1', hy1, hr1⟩ := he
  obtain ⟨y2, hc2', hy2, hr2⟩ := hf
  obtain ⟨y3, hc3', hy3, hr3⟩ := hg
  have hmk := fun here rest => mk_back (k := k1) (n := 0) (p := p1) (ys := [y1, y2]) (qs := [flat e, flat f]) (here := here) (rest := rest) hp1 (by simp [hc1', hc2']) (fun z hz => by
    simp at hz
    rcases hz with rfl | rfl
    · exact hy1
    · exact hy2) hc1
  obtain ⟨y12, hy12⟩ : ∃ y, madeL k1 0 p1 [y1, y2] = y := ⟨_, rfl⟩
  rw [hy12] at hmk
  have hmk2 := fun here rest => mk_back (k := k2) (n := 0) (p := p2) (ys := [y12, y3]) (qs := [flat (.two k1 e f), flat g]) (here := here) (rest := rest) hp2 (by
    have := (hmk [] []).2.1
    simp only [List.map_cons, List.map_nil, List.cons.injEq, and_true]
    exact ⟨this.symm, hc3'⟩) (fun z hz => by
    simp at hz
    rcases hz with rfl | rfl
    · exact (hmk [] []).2.2
    · exact hy3) hc
  refine ⟨_, (hmk2 [] []).2.1.symm, (hmk2 [] []).2.2, fun rest hs => ?_⟩
  obtain ⟨F1, hF1⟩ := hr1 ((.bin k1, p1) :: (t2 ++ (.bin k2, p2) :: (t3 ++ rest))) (fun k' p' r e' => by
    injection e' with e1 _
    injection e1 with e2 _
    injection e2 with e3
    rw [← e3, hm]; omega)
  obtain ⟨F2, hF2⟩ := hr2 ((.bin k2, p2) :: (t3 ++ rest)) (fun k' p' r e' => by
    injection e' with e1 _
    injection e1 with e2 _
    injection e2 with e3
    rw [← e3, ← hl]; omega)
  obtain ⟨F3, hF3⟩ := hr3 rest (hs.mono (by omega))
  have m1 := (hmk ((.bin k1, p1) :: (t2 ++ (.bin k2, p2) :: (t3 ++ rest))) ((.bin k2, p2) :: (t3 ++ rest))).1
  have m2 := (hmk2 ((.bin k2, p2) :: (t3 ++ rest)) rest).1
  have hle : t1 ++ (Sy.bin k1, p1) :: (t2 ++ (.bin k2, p2) :: t3) ++ rest = t1 ++ (.bin k1, p1) :: (t2 ++ (.bin k2, p2) :: (t3 ++ rest)) := by simp
  rw [hle]
  refine ⟨F1 + F2 + F3 + 4, fun f hf => ?_⟩
  obtain ⟨g, rfl⟩ : ∃ g, f = g + 4 := ⟨f - 4, by omega⟩
  show (if m = 8 then _ else if m = 7 then _ else if m = 2 then _ else _) = _
  rw [if_neg (by omega), if_neg (by omega), if_neg l2, hF1 (g + 3) (by omega)]
  show backR m (go (g + 2) (m + 1) none) (fun z rest => if m = 3 then .ok z rest else go (g + 2) m (some z) rest) y1 ((.bin k1, p1) :: (t2 ++ (.bin k2, p2) :: (t3 ++ rest))) = _
  unfold backR
  simp only
  rw [if_pos hm, hF2 (g + 2) (by omega)]
  show (mk k1 0 p1 [y1, y2] _ _).then _ = _
  rw [m1]
  show (if m = 3 then R.ok _ _ else go (g + 2) m (some y12) ((.bin k2, p2) :: (t3 ++ rest))) = _
  rw [if_neg h3]
  show backR m (go (g + 1) (m + 1) none) (fun z rest => if m = 3 then .ok z rest else go (g + 1) m (some z) rest) y12 ((.bin k2, p2) :: (t3 ++ rest)) = _
  unfold backR
  simp only
  rw [if_pos hl.symm, hF3 (g + 1) (by omega)]
  show (mk k2 0 p2 [y12, y3] _ _).then _ = _
  rw [m2]
  show (if m = 3 then R.ok _ _ else go (g + 1) m (some _) rest) = _
  rw [if_neg h3]
  exact back_stops hs
/-- An expression read that begins surely, from line 3 on down past a comparison. -/
theorem past_cmp {t : List S} (hh : ∃ s t1, t = s :: t1 ∧ (s.1 = .left ∨ (∃ n, s.1 = .num n) ∨ ∃ k, s.1 = .leaf k)) {y : List Nd} {rest : List S} (h : Reads 3 (t ++ rest) y rest) (h0 : Off 0 rest) (h1 : Off 1 rest) : Reads 0 (t ++ rest) y rest :=
  pass_off (by decide) (by decide) (pass_off (by decide) (by decide) (pass_not h (head_sure t rest hh).1) h1) h0
/-- What three expressions in brackets are read as. -/
def bindE (k1 k2 : Int) (e f g : Ex) : Ex :=
  if line k1 = 3 ∧ line k2 = 3 then .two k1 e f else if line k2 ≤ line k1 then .two k2 (.two k1 e f) g else .two k1 e (.two k2 f g)
theorem binds_read {e f g : Ex} {k1 k2 : Int} (hk1 : 7 ≤ k1 ∧ k1 ≤ 19) (hk2 : 7 ≤ k2 ∧ k2 ≤ 19) (he : Wf e ∧ OkE e) (hf : Wf f ∧ OkE f) (hg : Wf g ∧ OkE g)
    (h12 : checkV (flat (.two k1 e f)) = 0) (h123 : checkV (flat (.two k2 (.two k1 e f) g)) = 0) (h23 : checkV (flat (.two k2 f g)) = 0) (h1_23 : checkV (flat (.two k1 e (.two k2 f g))) = 0)
    {t1 t2 t3 : List S} {p1 p2 : Int} (hp1 : 0 ≤ p1 ∧ p1 ≤ 400) (hp2 : 0 ≤ p2 ∧ p2 ≤ 400) (ht1 : t1.map (·.1) = .left :: toks e ++ [.right]) (ht2 : t2.map (·.1) = .left :: toks f ++ [.right]) (ht3 : t3.map (·.1) = .left :: toks g ++ [.right]) (ha1 : AtL t1) (ha2 : AtL t2) (ha3 : AtL t3) :
    ∃ y, (flat (bindE k1 k2 e f g)).map Nodes.core = y.map Nodes.core ∧ AtOk y ∧ Reads 0 (t1 ++ (.bin k1, p1) :: (t2 ++ (.bin k2, p2) :: t3)) y (if line k1 = 3 ∧ line k2 = 3 then (.bin k2, p2) :: t3 else []) := by
  have l1 := line_le k1
  have l2 := line_le k2
  have hd1 := left_head (m := toks e ++ [.right]) (by rw [ht1]; rfl)
  have hd2 := left_head (m := toks f ++ [.right]) (by rw [ht2]; rfl)
  have r1 := fun n hn => bra_read he.1 he.2 t1 ht1 ha1 n hn
  have r2 := fun n hn => bra_read hf.1 hf.2 t2 ht2 ha2 n hn
  have r3 := fun n hn => bra_read hg.1 hg.2 t3 ht3 ha3 n hn
  have hd12 : ∀ u : List S, ∃ s v, t1 ++ u = s :: v ∧ (s.1 = .left ∨ (∃ n, s.1 = .num n) ∨ ∃ k, s.1 = .leaf k) := by
    intro u
    obtain ⟨s, v, rfl, hs⟩ := hd1
    exact ⟨s, v ++ u, rfl, hs⟩
  unfold bindE
  by_cases h3 : line k1 = 3 ∧ line k2 = 3
  · rw [if_pos h3, if_pos h3]
    obtain ⟨y, hy, hya, hr⟩ := two_line (p := p1) hk1 h12 hp1 (r1 _ (by omega)) (r2 _ (by omega))
    rw [h3.1, if_pos rfl] at hr
    have hoff : ∀ n, n ≠ 3 → Off n ((.bin k2, p2) :: t3) := fun n hn k p r e' => by
      injection e' with e1 _
      injection e1 with e2 _
      injection e2 with e4
      rw [← e4, h3.2]; omega
    have h4 := hr ((.bin k2, p2) :: t3) (fun k p r e' => by
      injection e' with e1 _
      injection e1 with e2 _
      injection e2 with e4
      rw [← e4, h3.2]; decide)
    refine ⟨y, hy, hya, ?_⟩
    have e1 : t1 ++ (Sy.bin k1, p1) :: (t2 ++ (Sy.bin k2, p2) :: t3) = t1 ++ (Sy.bin k1, p1) :: t2 ++ (Sy.bin k2, p2) :: t3 := by simp
    rw [e1]
    exact past_cmp (hd12 _) h4 (hoff 0 (by decide)) (hoff 1 (by decide))
  · rw [if_neg h3, if_neg h3]
    have fin : ∀ {x : Ex} {n : Nat} {P : List S → Prop}, ReadAs n (t1 ++ (Sy.bin k1, p1) :: (t2 ++ (Sy.bin k2, p2) :: t3)) P x → n ≤ 7 → (∀ rest, Stops 0 rest → P rest) → ∃ y, (flat x).map Nodes.core = y.map Nodes.core ∧ AtOk y ∧ Reads 0 (t1 ++ (Sy.bin k1, p1) :: (t2 ++ (Sy.bin k2, p2) :: t3)) y [] := by
      intro x n P h hn hP
      obtain ⟨y, hy, hya, hr⟩ := read_down hn (hd12 _) h 0 (Nat.zero_le _) hP
      have := hr [] (stops_nil 0)
      rw [List.append_nil] at this
      exact ⟨y, hy, hya, this⟩
    by_cases hle : line k2 ≤ line k1
    · rw [if_pos hle]
      by_cases heq : line k1 = line k2
      · exact fin (same_line heq (by omega) h12 h123 hp1 hp2 (r1 _ (by omega)) (r2 _ (by omega)) (r3 _ (by omega))) (by omega) (fun rest hs => hs.mono (by omega))
      · have h4 := two_line (p := p1) hk1 h12 hp1 (r1 _ (by omega)) (r2 _ (by omega))
        have h5 := read_down (by omega) (hd12 _) h4 (line k2 + 1) (by omega) (fun rest hs => hs.mono (by split <;> omega))
        have h6 := two_line (p := p2) hk2 h123 hp2 h5 (r3 _ (by omega))
        have e1 : t1 ++ (Sy.bin k1, p1) :: t2 ++ (Sy.bin k2, p2) :: t3 = t1 ++ (Sy.bin k1, p1) :: (t2 ++ (Sy.bin k2, p2) :: t3) := by simp
        rw [e1] at h6
        exact fin h6 (by omega) (fun rest hs => hs.mono (by split <;> omega))
    · rw [if_neg hle]
      have h4 := two_line (p := p2) hk2 h23 hp2 (r2 _ (by omega)) (r3 _ (by omega))
      have hd23 : ∃ s v, t2 ++ (Sy.bin k2, p2) :: t3 = s :: v ∧ (s.1 = .left ∨ (∃ n, s.1 = .num n) ∨ ∃ k, s.1 = .leaf k) := by
        obtain ⟨s, v, rfl, hs⟩ := hd2
        exact ⟨s, _, rfl, hs⟩
      have h5 := read_down (by omega) hd23 h4 (line k1 + 1) (by omega) (fun rest hs => hs.mono (by split <;> omega))
      exact fin (two_line (p := p1) hk1 h1_23 hp1 (r1 _ (by omega)) h5) (by omega) (fun rest hs => hs.mono (by split <;> omega))
/-- The text of three expressions in brackets, two operators between. -/
def bindT (k1 k2 : Int) (a b c : List UInt8) : List UInt8 := 40 :: a ++ 41 :: 32 :: (opT k1 ++ 32 :: 40 :: b ++ 41 :: 32 :: (opT k2 ++ 32 :: 40 :: c ++ [41]))
def bindI (k1 k2 : Int) (e f g : Ex) : List It := bra 0 e ++ (1, opI k1) :: (bra 1 f ++ (1, opI k2) :: bra 1 g)
theorem bindI_str (k1 k2 : Int) (e f g : Ex) : str (bindI k1 k2 e f g) = bindT k1 k2 (textT e) (textT f) (textT g) := by
  unfold bindI bindT
  rw [str_append, bra_str]
  show _ ++ ([32] ++ (opT k1 ++ str (bra 1 f ++ (1, opI k2) :: bra 1 g))) = _
  rw [str_append, bra_str]
  show _ ++ ([32] ++ (opT k1 ++ (_ ++ ([32] ++ (opT k2 ++ str (bra 1 g)))))) = _
  rw [bra_str]
  simp
theorem bindI_fit {k1 k2 : Int} (hk1 : 7 ≤ k1 ∧ k1 ≤ 19) (hk2 : 7 ≤ k2 ∧ k2 ≤ 19) {e f g : Ex} (he : Wf e ∧ Small e) (hf : Wf f ∧ Small f) (hg : Wf g ∧ Small g) : Fit (bindI k1 k2 e f g) := by
  unfold bindI
  have h3 : Fit (bra 1 g) := fit_end (bra_fit hg.1 hg.2 1)
  have h2 : Fit ((1, opI k2) :: bra 1 g) := ⟨(op_item hk2).1, .inr (ends_blank (g := 1) (by decide) rfl _), h3⟩
  have h4 := bra_fit hf.1 hf.2 1 _ h2 (ends_blank (g := 1) (by decide) rfl _)
  exact bra_fit he.1 he.2 0 _ ⟨(op_item hk1).1, .inr (ends_blank (g := 1) (by decide) rfl _), h4⟩ (ends_blank (g := 1) (by decide) rfl _)
theorem leaf_small {l : List Nd} {e : Ex} (h : (flat e).map Nodes.core = l.map Nodes.core) : (flat e).length = l.length := by simpa using congrArg List.length h
theorem ok_flat {e : Ex} (h : OkE e) : checkV (flat e) = 0 := by
  cases e with
  | leaf k n => exact h
  | one k e => exact h.1
  | two k e f => exact h.1
/-- What is wanted: made of the given expressions. -/
def bindV (k1 k2 : Int) (x y z : List Nd) : List Nd :=
  if line k1 = 3 ∧ line k2 = 3 then madeL k1 0 0 [x, y] else if line k2 ≤ line k1 then madeL k2 0 0 [madeL k1 0 0 [x, y], z] else madeL k1 0 0 [x, madeL k2 0 0 [y, z]]
theorem binds_v {x y z : List Nd} (hx : checkV x = 0) (hy : checkV y = 0) (hz : checkV z = 0) (nx : Wide x) (ny : Wide y) (nz : Wide z) (lx : x.length ≤ 8) (ly : y.length ≤ 8) (lz : z.length ≤ 8) {k1 k2 : Int} (hk1 : 7 ≤ k1 ∧ k1 ≤ 19) (hk2 : 7 ≤ k2 ∧ k2 ≤ 19)
    (hl : (bindT k1 k2 (textV x).1 (textV y).1 (textV z).1).length ≤ 400) : ∃ (ts : List Tok) (n : Nat) (w : List Nd), allV (bindT k1 k2 (textV x).1 (textV y).1 (textV z).1) = (ts, (bindT k1 k2 (textV x).1 (textV y).1 (textV z).1).length, 0) ∧ parseV ts 0 = (w, (n : Int), 0) ∧
      sameV w (bindV k1 k2 x y z) = (true, 0) ∧ nodeV k1 0 0 [x, y] = (madeL k1 0 0 [x, y], 0) ∧ nodeV k2 0 0 [madeL k1 0 0 [x, y], z] = (madeL k2 0 0 [madeL k1 0 0 [x, y], z], 0) ∧ nodeV k2 0 0 [y, z] = (madeL k2 0 0 [y, z], 0) ∧ nodeV k1 0 0 [x, madeL k2 0 0 [y, z]] = (madeL k1 0 0 [x, madeL k2 0 0 [y, z]], 0) ∧
      (if line k1 = 3 ∧ line k2 = 3 then ∃ h : n < ts.length, ts[n].text = opT k2 else n = ts.length) ∧ ts.length ≤ 200 := by
  obtain ⟨e, we, oe, se, ce, te⟩ := tree_text hx nx
  obtain ⟨f, wf, of, sf, cf, tf⟩ := tree_text hy ny
  obtain ⟨g, wg, og, sg, cg, tg⟩ := tree_text hz nz
  rw [te, tf, tg] at hl ⊢
  simp only at hl ⊢
  have le := leaf_small ce
  have lf := leaf_small cf
  have lg := leaf_small cg
  have dx := deep_le hx
  have dy := deep_le hy
  have dz := deep_le hz
  have m12 := made_two hk1 hx hy (by omega) (by omega) (by omega)
  have m23 := made_two hk2 hy hz (by omega) (by omega) (by omega)
  have d12 := made_two_deep hk1 hx hy
  have d23 := made_two_deep hk2 hy hz
  have len2 : ∀ (k : Int) (p q : List Nd), (madeL k 0 0 [p, q]).length = p.length + q.length + 1 := fun k p q => by simp [madeL]; omega
  have m123 := made_two hk2 m12 hz (by rw [len2]; omega) (by rw [d12]; omega) (by omega)
  have m1_23 := made_two hk1 hx m23 (by rw [len2]; omega) (by omega) (by rw [d23]; omega)
  have c12 : (flat (.two k1 e f)).map Nodes.core = (madeL k1 0 0 [x, y]).map Nodes.core := made_core _ _ _ _ _ _ (by simp [ce, cf])
  have c23 : (flat (.two k2 f g)).map Nodes.core = (madeL k2 0 0 [y, z]).map Nodes.core := made_core _ _ _ _ _ _ (by simp [cf, cg])
  have c123 : (flat (.two k2 (.two k1 e f) g)).map Nodes.core = (madeL k2 0 0 [madeL k1 0 0 [x, y], z]).map Nodes.core := made_core _ _ _ _ _ _ (by
    simp only [List.map_cons, List.map_nil, cg, List.cons.injEq, and_true]; exact c12)
  have c1_23 : (flat (.two k1 e (.two k2 f g))).map Nodes.core = (madeL k1 0 0 [x, madeL k2 0 0 [y, z]]).map Nodes.core := made_core _ _ _ _ _ _ (by
    simp only [List.map_cons, List.map_nil, ce, List.cons.injEq, and_true, true_and]; exact c23)
  have hstr := bindI_str k1 k2 e f g
  have hfit := bindI_fit hk1 hk2 ⟨we, se⟩ ⟨wf, sf⟩ ⟨wg, sg⟩
  have b1 := bra_len e 0
  have b2 := bra_len f 1
  have b3 := bra_len g 1
  have hlen : (bindI k1 k2 e f g).length = (bra 0 e).length + ((bra 1 f).length + ((bra 1 g).length + 1) + 1) := by unfold bindI; simp
  have hall := all_str hfit (by omega) (by rw [hstr]; exact hl)
  rw [hstr] at hall
  have hpl := placed_valid _ 0 hfit (by rw [hstr]; omega)
  have hat := placed_at _ 0 (show 0 + (str (bindI k1 k2 e f g)).length ≤ 400 by rw [hstr]; omega)
  -- the tokens, part by part
  have hp : ∃ t1 t2 t3 q1 q2, syms (placed 0 (bindI k1 k2 e f g)) = t1 ++ (.bin k1, q1) :: (t2 ++ (.bin k2, q2) :: t3) ∧ t1.map (·.1) = .left :: toks e ++ [.right] ∧ t2.map (·.1) = .left :: toks f ++ [.right] ∧ t3.map (·.1) = .left :: toks g ++ [.right] := by
    unfold bindI
    rw [placed_append, syms_append]
    refine ⟨syms (placed 0 (bra 0 e)), ?_⟩
    obtain ⟨o1, ho1⟩ : ∃ o, 0 + (str (bra 0 e)).length = o := ⟨_, rfl⟩
    rw [ho1]
    obtain ⟨o2, ho2⟩ : ∃ o, o1 + 1 + (opT k1).length = o := ⟨_, rfl⟩
    have e1 : syms (placed o1 ((1, opI k1) :: (bra 1 f ++ (1, opI k2) :: bra 1 g))) = (symI (opI k1).1 (opI k1).2, ((o1 + 1 : Nat) : Int)) :: syms (placed (o1 + 1 + (opT k1).length) (bra 1 f ++ (1, opI k2) :: bra 1 g)) := rfl
    rw [e1, ho2, (op_item hk1).2.1, placed_append, syms_append]
    obtain ⟨o3, ho3⟩ : ∃ o, o2 + (str (bra 1 f)).length = o := ⟨_, rfl⟩
    rw [ho3]
    have e2 : syms (placed o3 ((1, opI k2) :: bra 1 g)) = (symI (opI k2).1 (opI k2).2, ((o3 + 1 : Nat) : Int)) :: syms (placed (o3 + 1 + (opT k2).length) (bra 1 g)) := rfl
    rw [e2, (op_item hk2).2.1]
    refine ⟨syms (placed o2 (bra 1 f)), syms (placed (o3 + 1 + (opT k2).length) (bra 1 g)), _, _, rfl, ?_, ?_, ?_⟩
    · rw [placed_syms]; exact bra_syms we se 0
    · rw [placed_syms]; exact bra_syms wf sf 1
    · rw [placed_syms]; exact bra_syms wg sg 1
  obtain ⟨t1, t2, t3, q1, q2, hsy, ht1, ht2, ht3⟩ := hp
  rw [hsy] at hat
  have fe := ok_flat oe
  have fl := fun {l m : List Nd} (h : l.map Nodes.core = m.map Nodes.core) (hm : checkV m = 0) (hl : AtOk l) => check_alike h.symm hl hm
  obtain ⟨w, hw, hwa, hr⟩ := binds_read hk1 hk2 ⟨we, oe⟩ ⟨wf, of⟩ ⟨wg, og⟩ (fl c12 m12 (flat_at _)) (fl c123 m123 (flat_at _)) (fl c23 m23 (flat_at _)) (fl c1_23 m1_23 (flat_at _)) (hat (.bin k1, q1) (by simp)) (hat (.bin k2, q2) (by simp)) ht1 ht2 ht3 (fun s hs => hat s (by simp [hs])) (fun s hs => hat s (by simp [hs])) (fun s hs => hat s (by simp [hs]))
  have hcw : (flat (bindE k1 k2 e f g)).map Nodes.core = (bindV k1 k2 x y z).map Nodes.core ∧ checkV (bindV k1 k2 x y z) = 0 := by
    unfold bindE bindV
    split
    · exact ⟨c12, m12⟩
    split
    · exact ⟨c123, m123⟩
    · exact ⟨c1_23, m1_23⟩
  have hwc : w.map Nodes.core = (bindV k1 k2 x y z).map Nodes.core := by rw [← hw, hcw.1]
  have hcheck : checkV w = 0 := check_alike hwc.symm hwa hcw.2
  have hask : askedV (placed 0 (bindI k1 k2 e f g)) ((0 : Nat) : Int) = 0 := asked_ok.2 ⟨by rw [placed_len]; omega, hpl, by omega, by omega⟩
  have hpv := parse_v (at_ := 0) hask (by rw [List.drop_zero, hsy]; exact parse_reads hr)
  have nv : ∀ (k : Int) (p q : List Nd), 7 ≤ k ∧ k ≤ 19 → checkV p = 0 → checkV q = 0 → checkV (madeL k 0 0 [p, q]) = 0 → nodeV k 0 0 [p, q] = (madeL k 0 0 [p, q], 0) := fun k p q hk h1 h2 h3 =>
    nodeV_ok ⟨by omega, hk.2, arity_bin hk.1, Int.le_refl _, .inl rfl, Int.le_refl _, by decide⟩ (fun r hr => by
      simp at hr
      rcases hr with rfl | rfl
      · exact h1
      · exact h2) h3
  have hsl : (placed 0 (bindI k1 k2 e f g)).length = t1.length + (t2.length + (t3.length + 1) + 1) := by
    have := congrArg List.length hsy
    rw [syms_len] at this
    rw [this]; simp
  have hsame : sameV w (bindV k1 k2 x y z) = (true, 0) := by
    unfold sameV
    rw [if_pos hcheck, if_pos hcw.2]
    show (decide (w.map Nodes.core = _), _) = _
    rw [hwc]; simp
  by_cases h3 : line k1 = 3 ∧ line k2 = 3
  · rw [if_pos h3] at hpv
    refine ⟨_, t1.length + (t2.length + 1), w, hall, ?_, hsame, nv _ _ _ hk1 hx hy m12, nv _ _ _ hk2 m12 hz m123, nv _ _ _ hk2 hy hz m23, nv _ _ _ hk1 hx m23 m1_23, ?_, by rw [placed_len]; omega⟩
    · rw [show (0 : Int) = ((0 : Nat) : Int) from rfl, hpv]
      refine Prod.ext rfl (Prod.ext ?_ rfl)
      simp only [List.length_cons]
      omega
    · rw [if_pos h3]
      refine ⟨by omega, ?_⟩
      have hb1 : t1.length = (bra 0 e).length := by
        have := congrArg List.length ht1; have h2 := congrArg List.length (bra_syms we se 0)
        rw [List.length_map] at this
        unfold symsI at h2; rw [List.length_map] at h2; omega
      have hb2 : t2.length = (bra 1 f).length := by
        have := congrArg List.length ht2; have h2 := congrArg List.length (bra_syms wf sf 1)
        rw [List.length_map] at this
        unfold symsI at h2; rw [List.length_map] at h2; omega
      have hget : ∀ (is : List It) (off i : Nat) (h : i < (placed off is).length) (h2 : i < is.length), (placed off is)[i].text = is[i].2.2 := by
        intro is
        induction is with
        | nil => intro off i h h2; simp at h2
        | cons j r ih =>
          intro off i h h2
          cases i with
          | zero => rfl
          | succ i => exact ih _ i (by rw [placed_len] at h ⊢; simp at h; omega) (by simp at h2; omega)
      rw [hget _ _ _ _ (by omega)]
      simp only [bindI]
      rw [List.getElem_append_right (by omega)]
      simp only [hb1, hb2, Nat.add_sub_cancel_left]
      simp only [List.getElem_cons_succ]
      rw [List.getElem_append_right (by omega)]
      simp only [Nat.sub_self, List.getElem_cons_zero]
      rfl
  · rw [if_neg h3] at hpv
    refine ⟨_, (placed 0 (bindI k1 k2 e f g)).length, w, hall, ?_, hsame, nv _ _ _ hk1 hx hy m12, nv _ _ _ hk2 m12 hz m123, nv _ _ _ hk2 hy hz m23, nv _ _ _ hk1 hx m23 m1_23, ?_, by rw [placed_len]; omega⟩
    · rw [show (0 : Int) = ((0 : Nat) : Int) from rfl, hpv]
      refine Prod.ext rfl (Prod.ext ?_ rfl)
      simp
    · rw [if_neg h3]
end Go.Proofs.YtdinaedknlkicaaGreatDoor.Exprs
/-
  Tokens and nodes (layer 5), plainly: what is parsed is valid, and takes each token for one node, or as a bracket. No program in this text.
-/
namespace Go.Proofs.YtdinaedknlkicaaGreatDoor.Exprs
open Nodes Go.Lib

/-! ### Errors -/
theorem then_err {r : R} {f : List Nd → List S → R} {c : Int} {rest : List S} (h : r.then f = .err c rest) : r = .err c rest ∨ ∃ y m, r = .ok y m ∧ f y m = .err c rest := by
  cases r with
  | ok y m => exact .inr ⟨y, m, rfl, h⟩
  | err d m => exact .inl h
theorem mk_err {k n at_ : Int} {ps : List (List Nd)} {here rest : List S} {c : Int} {m : List S} (h : mk k n at_ ps here rest = .err c m) : (c = 4 ∨ c = 34) ∧ m = here := by
  unfold mk at h
  split at h
  · injection h with h1 h2; exact ⟨.inl h1.symm, h2.symm⟩
  split at h
  · injection h with h1 h2; exact ⟨.inr h1.symm, h2.symm⟩
  · cases h
/-- An error with enough: a right code, at a token that is there, or behind them. -/
def Bad (c : Int) (l rest : List S) : Prop := (c = 4 ∨ c = 12 ∨ c = 34) ∧ rest <:+ l
theorem Bad.mono {c : Int} {l m rest : List S} (h : Bad c m rest) (hm : m <:+ l) : Bad c l rest := ⟨h.1, h.2.trans hm⟩
theorem taken_suffix {a : List Nd} {l : List S} {x : List Nd} {rest : List S} (h : Taken a l x rest) : rest <:+ l := by
  obtain ⟨t, rfl, _⟩ := h
  exact List.suffix_append t rest
theorem go_err (f : Nat) : ∀ (n : Nat) (acc : Option (List Nd)) (l : List S) (c : Int) (rest : List S), n ≤ 8 → (acc ≠ none → n ≤ 6) → need n acc l < f → go f n acc l = .err c rest → Bad c l rest := by
  induction f with
  | zero => intro n acc l c rest _ _ h; omega
  | succ f ih =>
    intro n acc l c rest hn hs hf h
    cases acc with
    | some a =>
      have hn6 := hs (by simp)
      replace h : backR n (go f (n + 1) none) (fun z rest => if n = 3 then .ok z rest else go f n (some z) rest) a l = .err c rest := h
      unfold backR at h
      split at h
      · rename_i k p r
        simp only [need, List.length_cons] at hf
        split at h
        · rcases then_err h with h1 | ⟨y, m, h1, h2⟩
          · exact (ih (n + 1) none r c rest (by omega) (fun h => absurd rfl h) (by simp only [need]; omega) h1).mono (List.suffix_cons _ _)
          · have hl := go_less h1
            have hsuf := taken_suffix (go_taken _ _ _ _ _ _ h1)
            rcases then_err h2 with h3 | ⟨z, m2, h3, h4⟩
            · obtain ⟨hc, rfl⟩ := mk_err h3
              exact ⟨by omega, List.suffix_refl _⟩
            · obtain ⟨_, rfl, _⟩ := mk_ok h3
              split at h4
              · cases h4
              · exact (ih n (some z) m2 c rest hn (fun _ => hn6) (by simp only [need]; omega) h4).mono (hsuf.trans (List.suffix_cons _ _))
        · cases h
      · cases h
    | none =>
      simp only [need] at hf
      unfold go at h
      split at h
      · rename_i h8
        unfold primR at h
        split at h
        · obtain ⟨hc, rfl⟩ := mk_err h
          exact ⟨by omega, List.suffix_refl _⟩
        · obtain ⟨hc, rfl⟩ := mk_err h
          exact ⟨by omega, List.suffix_refl _⟩
        · rename_i p r
          simp only [List.length_cons] at hf
          rcases then_err h with h1 | ⟨y, m, h1, h2⟩
          · exact (ih 0 none r c rest (by omega) (fun h => absurd rfl h) (by simp only [need]; omega) h1).mono (List.suffix_cons _ _)
          · have hsuf := taken_suffix (go_taken _ _ _ _ _ _ h1)
            split at h2
            · cases h2
            · injection h2 with h3 h4
              subst h3; subst h4
              exact ⟨.inr (.inl rfl), hsuf.trans (List.suffix_cons _ _)⟩
        · injection h with h3 h4
          subst h3; subst h4
          exact ⟨.inr (.inl rfl), List.suffix_refl _⟩
      split at h
      · rename_i h7
        subst h7
        unfold negR at h
        split at h
        · rename_i k p r
          simp only [List.length_cons] at hf
          split at h
          · rcases then_err h with h1 | ⟨y, m, h1, h2⟩
            · exact (ih 7 none r c rest (by omega) (fun h => absurd rfl h) (by simp only [need]; omega) h1).mono (List.suffix_cons _ _)
            · obtain ⟨hc, rfl⟩ := mk_err h2
              exact ⟨by omega, List.suffix_refl _⟩
          · exact ih 8 none _ c rest (by omega) (fun h => absurd rfl h) (by simp only [need, List.length_cons]; omega) h
        · exact ih 8 none _ c rest (by omega) (fun h => absurd rfl h) (by simp only [need]; omega) h
      split at h
      · rename_i h2
        subst h2
        unfold notR at h
        split at h
        · rename_i p r
          simp only [List.length_cons] at hf
          rcases then_err h with h1 | ⟨y, m, h1, h2⟩
          · exact (ih 2 none r c rest (by omega) (fun h => absurd rfl h) (by simp only [need]; omega) h1).mono (List.suffix_cons _ _)
          · obtain ⟨hc, rfl⟩ := mk_err h2
            exact ⟨by omega, List.suffix_refl _⟩
        · exact ih 3 none _ c rest (by omega) (fun h => absurd rfl h) (by simp only [need]; omega) h
      · rcases then_err h with h1 | ⟨y, m, h1, h2⟩
        · exact ih (n + 1) none l c rest (by omega) (fun h => absurd rfl h) (by simp only [need]; omega) h1
        · have hl := go_less h1
          have hsuf := taken_suffix (go_taken _ _ _ _ _ _ h1)
          exact (ih n (some y) m c rest hn (fun _ => by omega) (by simp only [need]; omega) h2).mono hsuf
theorem parse_err {l : List S} {c : Int} {rest : List S} (h : parse l = .err c rest) : Bad c l rest :=
  go_err _ 0 none l c rest (by omega) (fun h => absurd rfl h) (by simp only [need]; omega) h

/-! ### Symbols of right tokens -/
theorem rd_nonneg (l : List UInt8) : 0 ≤ rdV l := by
  unfold rdV
  split
  · omega
  · exact Int.le_refl _
theorem sym_fine {t : Tok} (ha : 0 ≤ t.at_ ∧ t.at_ ≤ 400) : Fine (symOf t) := by
  refine ⟨ha, ?_⟩
  show match symI t.kind t.text with | .num n => 0 ≤ n | .leaf k => 2 ≤ k ∧ k ≤ 4 | .bin k => 7 ≤ k ∧ k ≤ 19 | _ => True
  unfold symI
  split
  · rename_i h
    split at h
    · injection h with h; rw [← h]; exact rd_nonneg _
    repeat' split at h
    all_goals cases h
  · rename_i h
    split at h
    · cases h
    split at h
    · injection h with h; subst h; decide
    split at h
    · injection h with h; subst h; decide
    split at h
    · injection h with h; subst h; decide
    repeat' split at h
    all_goals cases h
  · rename_i h
    split at h
    · cases h
    split at h
    · cases h
    split at h
    · cases h
    split at h
    · cases h
    split at h
    · cases h
    split at h
    · cases h
    split at h
    · cases h
    split at h
    · rename_i hc
      injection h with h
      have hi : opTab.idxOf t.text < opTab.length := List.idxOf_lt_length_of_mem (by simpa using hc)
      have hl : opTab.length = 13 := rfl
      omega
    · cases h
  · trivial
theorem syms_fine {ts : List Tok} (h : ∀ t ∈ ts, 0 ≤ t.at_ ∧ t.at_ ≤ 400) : FineL (syms ts) := by
  intro s hs
  obtain ⟨t, ht, rfl⟩ := List.mem_map.1 hs
  exact sym_fine (h t ht)
/-- What is a bracket. -/
def braB (t : Tok) : Bool := decide (t.kind = 3 ∧ (t.text = [40] ∨ t.text = [41]))
theorem bra_sym {t : Tok} (hv : validT t = true) : isNode (symOf t).1 = !braB t ∧ (t.text = [40] → braB t = true → (symOf t).1 = .left) ∧ (t.text ≠ [40] → braB t = true → (symOf t).1 = .right) := by
  unfold braB
  show isNode (symI t.kind t.text) = _ ∧ (_ → _ → symI t.kind t.text = _) ∧ (_ → _ → symI t.kind t.text = _)
  by_cases h1 : t.kind = 1
  · unfold symI
    rw [if_pos h1]
    refine ⟨?_, fun _ h => ?_, fun _ h => ?_⟩
    · simp [h1, isNode]
    · simp [h1] at h
    · simp [h1] at h
  · by_cases h40 : t.text = [40]
    · have h3 : t.kind = 3 := by
        unfold validT validB at hv
        rw [if_neg h1] at hv
        split at hv
        · rw [h40] at hv; exact absurd hv (by decide)
        split at hv
        · assumption
        · cases hv
      rw [h40, h3]
      exact ⟨by decide, fun _ _ => rfl, fun h => absurd rfl h⟩
    · by_cases h41 : t.text = [41]
      · have h3 : t.kind = 3 := by
          unfold validT validB at hv
          rw [if_neg h1] at hv
          split at hv
          · rw [h41] at hv; exact absurd hv (by decide)
          split at hv
          · assumption
          · cases hv
        rw [h41, h3]
        exact ⟨by decide, fun h => by simp at h, fun _ _ => rfl⟩
      · refine ⟨?_, fun h => absurd h h40, fun _ h => ?_⟩
        · simp only [h40, h41, or_self, and_false, decide_false, Bool.not_false]
          unfold symI
          rw [if_neg h1]
          repeat' split
          all_goals first | rfl | (rename_i h; exact absurd h h40) | (rename_i h; exact absurd h h41) | (rename_i h _ _; exact absurd h h40) | simp_all
        · simp [h40, h41] at h

/-! ### How many -/
/-- How many brackets are open behind the first tokens. -/
def openV : List Tok → Int
  | [] => 0
  | t :: r => (if braB t then (if t.text = [40] then 1 else -1) else 0) + openV r
theorem openV_snoc (a : List Tok) (t : Tok) : openV (a ++ [t]) = openV a + (if braB t then (if t.text = [40] then 1 else -1) else 0) := by
  induction a with
  | nil => simp [openV]
  | cons u a ih => show _ + openV (a ++ [t]) = _ + openV a + _; rw [ih]; omega
def countV (l : List Tok) : Nat := (l.filter fun t => !braB t).length
def placesV (l : List Tok) : List Int := (l.filter fun t => !braB t).map (·.at_)
theorem bal_open (p : List Tok) (hv : ∀ t ∈ p, validT t = true) : ∀ (d e : Nat) (q : List S), bal d (syms p ++ q) = some e → ∃ k : Nat, bal d (syms p ++ q) = bal k q ∧ (k : Int) = d + openV p := by
  induction p with
  | nil => intro d e q h; exact ⟨d, rfl, by simp [openV]⟩
  | cons t p ih =>
    intro d e q h
    obtain ⟨b1, b2, b3⟩ := bra_sym (hv t (by simp))
    have hp : ∀ u ∈ p, validT u = true := fun u hu => hv u (by simp [hu])
    have es : syms (t :: p) ++ q = ((symOf t).1, t.at_) :: (syms p ++ q) := rfl
    rw [es] at h ⊢
    cases hb : braB t with
    | false =>
      rw [hb] at b1
      rw [bal_node ((symOf t).1, t.at_) b1] at h ⊢
      obtain ⟨k, h1, h2⟩ := ih hp d e q h
      exact ⟨k, h1, by rw [h2]; simp [openV, hb]⟩
    | true =>
      by_cases h40 : t.text = [40]
      · rw [b2 h40 hb] at h ⊢
        obtain ⟨k, h1, h2⟩ := ih hp (d + 1) e q h
        refine ⟨k, h1, ?_⟩
        rw [h2]
        simp only [openV, hb, if_pos h40, if_true]
        omega
      · rw [b3 h40 hb] at h ⊢
        cases d with
        | zero => cases h
        | succ d =>
          obtain ⟨k, h1, h2⟩ := ih hp d e q h
          refine ⟨k, h1, ?_⟩
          rw [h2]
          simp only [openV, hb, if_neg h40, if_true]
          omega
theorem node_ats {p : List Tok} (hv : ∀ t ∈ p, validT t = true) : nodeAts (syms p) = placesV p := by
  induction p with
  | nil => rfl
  | cons t p ih =>
    have hb := (bra_sym (hv t (by simp))).1
    have ihp := ih (fun u hu => hv u (by simp [hu]))
    unfold nodeAts placesV syms at ihp ⊢
    rw [List.map_cons, List.filter_cons, List.filter_cons, hb]
    cases braB t with
    | true => exact ihp
    | false =>
      simp only [Bool.not_false, if_true, List.map_cons]
      exact congrArg _ ihp
/-- What is parsed, and the tokens of it. -/
theorem counts_v {ts : List Tok} {at_ : Nat} (h : askedV ts at_ = 0) {x : List Nd} {next : Int} {e : Int} (hp : parseV ts at_ = (x, next, e)) :
    (e ≠ 0 → x = [] ∧ (at_ : Int) ≤ next ∧ next ≤ ts.length) ∧
    (e = 0 → checkV x = 0 ∧ ∃ m : Nat, next = ((at_ + m : Nat) : Int) ∧ 0 < m ∧ at_ + m ≤ ts.length ∧ (x.map (·.at_)).Perm (placesV ((ts.drop at_).take m)) ∧ openV ((ts.drop at_).take m) = 0 ∧ (∀ k, k ≤ m → 0 ≤ openV ((ts.drop at_).take k))) := by
  obtain ⟨h200, hall, h0, hle⟩ := asked_ok.1 h
  unfold parseV at hp
  rw [if_pos h, Int.toNat_natCast] at hp
  have hdl : (ts.drop at_).length = ts.length - at_ := List.length_drop
  have hsl : (syms (ts.drop at_)).length = ts.length - at_ := by rw [← hdl]; exact List.length_map _
  have hvalid : ∀ t ∈ ts.drop at_, validT t = true := fun t ht => (hall t (List.mem_of_mem_drop ht)).1
  split at hp
  · rename_i y rest hq
    simp only [Prod.mk.injEq] at hp
    obtain ⟨rfl, rfl, rfl⟩ := hp
    refine ⟨fun h => absurd rfl h, fun _ => ?_⟩
    have hfine : FineL (syms (ts.drop at_)) := syms_fine fun t ht => (hall t (List.mem_of_mem_drop ht)).2
    have hv := go_valid _ _ _ _ _ _ hq hfine (fun a e => by cases e)
    have hlt := go_less hq
    obtain ⟨t, ht, hperm, hbal⟩ := go_taken _ _ _ _ _ _ hq
    rw [hsl] at hlt
    have htl : t.length + rest.length = ts.length - at_ := by rw [← hsl, ht, List.length_append]
    have htk : t = syms ((ts.drop at_).take t.length) := by
      unfold syms at ht ⊢
      rw [List.map_take, ht, List.take_left' rfl]
    have hv2 : ∀ u ∈ (ts.drop at_).take t.length, validT u = true := fun u hu => hvalid u (List.mem_of_mem_take hu)
    refine ⟨hv, t.length, by omega, by omega, by omega, ?_, ?_, fun k hk => ?_⟩
    · simp only [Option.getD_none, List.map_nil, List.nil_append] at hperm
      rw [htk, node_ats hv2] at hperm
      exact hperm
    · have hb := hbal 0 []
      have hb0 : bal 0 (syms ((ts.drop at_).take t.length) ++ []) = some 0 := by rw [← htk, hb]; rfl
      obtain ⟨k, h1, h2⟩ := bal_open _ hv2 0 0 [] hb0
      rw [hb0] at h1
      have : (0 : Nat) = k := by have : some 0 = some k := h1; injection this
      omega
    · have hb := hbal 0 []
      have e1 : syms ((ts.drop at_).take t.length) = syms ((ts.drop at_).take k) ++ syms (((ts.drop at_).take t.length).drop k) := by
        have e2 : ((ts.drop at_).take t.length).take k = (ts.drop at_).take k := by rw [List.take_take, Nat.min_eq_left hk]
        rw [← e2]
        unfold syms
        rw [← List.map_append, List.take_append_drop]
      have hb0 : bal 0 (syms ((ts.drop at_).take k) ++ (syms (((ts.drop at_).take t.length).drop k) ++ [])) = some 0 := by rw [← List.append_assoc, ← e1, ← htk, hb]; rfl
      obtain ⟨j, _, h2⟩ := bal_open _ (fun u hu => hvalid u (List.mem_of_mem_take hu)) 0 0 _ hb0
      omega
  · rename_i c rest hq
    simp only [Prod.mk.injEq] at hp
    obtain ⟨rfl, rfl, rfl⟩ := hp
    obtain ⟨hc, hsuf⟩ := parse_err hq
    have := hsuf.length_le
    rw [hsl] at this
    exact ⟨fun _ => ⟨rfl, by omega, by omega⟩, fun h => by omega⟩
/-! ### Numbers stay within 64 bits -/
def NumL (l : List S) : Prop := ∀ s ∈ l, ∀ n, s.1 = .num n → n ≤ 9223372036854775807
theorem NumL.tail {s : S} {l : List S} (h : NumL (s :: l)) : NumL l := fun u hu => h u (by simp [hu])
theorem NumL.suffix {l m : List S} (h : NumL l) (hs : m <:+ l) : NumL m := fun u hu => h u (hs.subset hu)
theorem made_wide {k n at_ : Int} {ps : List (List Nd)} (hn : n ≤ 9223372036854775807) (h : ∀ p ∈ ps, Wide p) : Wide (madeL k n at_ ps) := by
  intro x hx
  match ps, h with
  | [], _ => simp [madeL] at hx; subst hx; exact hn
  | [a], h =>
    simp only [madeL, List.mem_append, List.mem_singleton] at hx
    rcases hx with hx | rfl
    · exact h a (by simp) x hx
    · exact hn
  | a :: c :: as, h =>
    simp only [madeL, List.mem_append, List.mem_singleton, List.mem_map] at hx
    rcases hx with (hx | ⟨y, hy, rfl⟩) | rfl
    · exact h a (by simp) x hx
    · exact h c (by simp) y hy
    · exact hn
theorem go_wide (f : Nat) : ∀ (n : Nat) (acc : Option (List Nd)) (l : List S) (x : List Nd) (rest : List S), go f n acc l = .ok x rest → NumL l → (∀ a, acc = some a → Wide a) → Wide x := by
  induction f with
  | zero => intro n acc l x rest h; cases h
  | succ f ih =>
    intro n acc l x rest h hl ha
    cases acc with
    | some a =>
      replace h : backR n (go f (n + 1) none) (fun z rest => if n = 3 then .ok z rest else go f n (some z) rest) a l = .ok x rest := h
      unfold backR at h
      split at h
      · rename_i k p r
        split at h
        · obtain ⟨y, m, h1, h2⟩ := then_ok h
          obtain ⟨z, m2, h3, h4⟩ := then_ok h2
          have hy := ih _ none _ _ _ h1 hl.tail (fun a e => by cases e)
          obtain ⟨rfl, rfl, _⟩ := mk_ok h3
          have hz : Wide (madeL k 0 p [a, y]) := made_wide (by decide) (fun q hq => by
            simp at hq
            rcases hq with rfl | rfl
            · exact ha _ rfl
            · exact hy)
          split at h4
          · injection h4 with h5 h6
            subst h5; exact hz
          · exact ih _ (some _) _ _ _ h4 (hl.tail.suffix (taken_suffix (go_taken f _ none _ _ _ h1))) (fun a e => by cases e; exact hz)
        · injection h with h1 h2
          subst h1; exact ha _ rfl
      · injection h with h1 h2
        subst h1; exact ha _ rfl
    | none =>
      unfold go at h
      split at h
      · unfold primR at h
        split at h
        · obtain ⟨rfl, _⟩ := mk_ok h
          exact made_wide (hl _ (List.mem_cons_self ..) _ rfl) (fun q hq => by cases hq)
        · obtain ⟨rfl, _⟩ := mk_ok h
          exact made_wide (by decide) (fun q hq => by cases hq)
        · obtain ⟨y, m, h1, h2⟩ := then_ok h
          have hy := ih _ none _ _ _ h1 hl.tail (fun a e => by cases e)
          split at h2
          · injection h2 with h3 h4
            subst h3; exact hy
          · cases h2
        · cases h
      split at h
      · unfold negR at h
        split at h
        · split at h
          · obtain ⟨y, m, h1, h2⟩ := then_ok h
            have hy := ih _ none _ _ _ h1 hl.tail (fun a e => by cases e)
            obtain ⟨rfl, _⟩ := mk_ok h2
            exact made_wide (by decide) (fun q hq => by simp at hq; subst hq; exact hy)
          · exact ih _ none _ _ _ h hl (fun a e => by cases e)
        · exact ih _ none _ _ _ h hl (fun a e => by cases e)
      split at h
      · unfold notR at h
        split at h
        · obtain ⟨y, m, h1, h2⟩ := then_ok h
          have hy := ih _ none _ _ _ h1 hl.tail (fun a e => by cases e)
          obtain ⟨rfl, _⟩ := mk_ok h2
          exact made_wide (by decide) (fun q hq => by simp at hq; subst hq; exact hy)
        · exact ih _ none _ _ _ h hl (fun a e => by cases e)
      · obtain ⟨y, m, h1, h2⟩ := then_ok h
        have hy := ih _ none _ _ _ h1 hl (fun a e => by cases e)
        exact ih _ (some y) _ _ _ h2 (hl.suffix (taken_suffix (go_taken f _ none _ _ _ h1))) (fun a e => by cases e; exact hy)
theorem rd_small (l : List UInt8) : rdV l ≤ 9223372036854775807 := by
  unfold rdV
  split
  · rename_i h; omega
  · decide
theorem syms_num (ts : List Tok) : NumL (syms ts) := by
  intro s hs n hn
  obtain ⟨t, ht, rfl⟩ := List.mem_map.1 hs
  have hn2 : symI t.kind t.text = .num n := hn
  unfold symI at hn2
  split at hn2
  · injection hn2 with h; rw [← h]; exact rd_small _
  repeat' split at hn2
  all_goals cases hn2
/-- What Parse returns is short, and its numbers are of 64 bits. -/
theorem parse_small (ts : List Tok) (at_ : Int) : (parseV ts at_).1.length ≤ 60 ∧ Wide (parseV ts at_).1 := by
  by_cases h : askedV ts at_ = 0
  · obtain ⟨_, hall, h0, _⟩ := asked_ok.1 h
    unfold parseV
    rw [if_pos h]
    split
    · rename_i x rest hq
      have hfine : FineL (syms (ts.drop at_.toNat)) := syms_fine fun t ht => (hall t (List.mem_of_mem_drop ht)).2
      exact ⟨(check_acc (go_valid _ _ _ _ _ _ hq hfine (fun a e => by cases e))).2.2.1, go_wide _ _ _ _ _ _ hq (syms_num _) (fun a e => by cases e)⟩
    · exact ⟨Nat.zero_le _, fun x hx => by cases hx⟩
  · unfold parseV
    rw [if_neg h]
    exact ⟨Nat.zero_le _, fun x hx => by cases hx⟩
end Go.Proofs.YtdinaedknlkicaaGreatDoor.Exprs
/-
  The lines of the grammar (layer 5), plainly, by places in a list of tokens: what each line reads from a token on. No program in this text.
-/
namespace Go.Proofs.YtdinaedknlkicaaGreatDoor.Exprs
open Nodes Go.Lib

/-! ### A line, and how it goes on, with enough -/
def rd (n : Nat) (l : List S) : R := go (need n none l + 1) n none l
def ct (n : Nat) (x : List Nd) (l : List S) : R := go (need n (some x) l + 1) n (some x) l
theorem go_rd {f n : Nat} {l : List S} (hn : n ≤ 8) (hf : need n none l < f) : go f n none l = rd n l :=
  go_fuel f _ n none l hn (fun h => absurd rfl h) hf (Nat.lt_succ_self _)
theorem go_ct {f n : Nat} {x : List Nd} {l : List S} (hn : n ≤ 6) (hf : need n (some x) l < f) : go f n (some x) l = ct n x l :=
  go_fuel f _ n (some x) l (by omega) (fun _ => hn) hf (Nat.lt_succ_self _)
theorem parse_rd (l : List S) : parse l = rd 0 l := go_rd (by omega) (by simp only [need]; omega)
theorem rd_row (n : Nat) (hn : n ≤ 6) (h2 : n ≠ 2) (l : List S) : rd n l = (rd (n + 1) l).then (ct n) := by
  show (if n = 8 then _ else if n = 7 then _ else if n = 2 then _ else _) = _
  rw [if_neg (by omega), if_neg (by omega), if_neg h2, go_rd (n := n + 1) (by omega) (by simp only [need]; omega)]
  refine then_congr fun x rest h => go_ct hn ?_
  have hl := go_less h
  simp only [need]; omega
theorem ct_back (n : Nat) (hn : n ≤ 6) (x : List Nd) (l : List S) : ct n x l = backR n (rd (n + 1)) (fun z rest => if n = 3 then .ok z rest else ct n z rest) x l := by
  show backR n (go (need n (some x) l) (n + 1) none) (fun z rest => if n = 3 then .ok z rest else go (need n (some x) l) n (some z) rest) x l = _
  unfold backR
  split
  · rename_i k p r
    split
    · rw [go_rd (n := n + 1) (l := r) (by omega) (by simp only [need, List.length_cons]; omega)]
      refine then_congr fun y rest h1 => then_congr fun z rest2 h2 => ?_
      obtain ⟨_, rfl, _⟩ := mk_ok h2
      have hl := go_less h1
      split
      · rfl
      · exact go_ct hn (by simp only [need, List.length_cons]; omega)
    · rfl
  · rfl
theorem rd_prim (l : List S) : rd 8 l = primR (rd 0) l := by
  show primR (go (need 8 none l) 0 none) l = _
  unfold primR
  split
  · rfl
  · rfl
  · rename_i p r
    rw [go_rd (n := 0) (l := r) (by omega) (by simp only [need, List.length_cons]; omega)]
  · rfl
theorem rd_neg (l : List S) : rd 7 l = negR (rd 7) (rd 8) l := by
  show negR (go (need 7 none l) 7 none) (go (need 7 none l) 8 none) l = _
  unfold negR
  split
  · rename_i k p r
    split
    · rw [go_rd (n := 7) (l := r) (by omega) (by simp only [need, List.length_cons]; omega)]
    · rw [go_rd (n := 8) (by omega) (by simp only [need]; omega)]
  · rw [go_rd (n := 8) (by omega) (by simp only [need]; omega)]
theorem rd_not (l : List S) : rd 2 l = notR (rd 2) (rd 3) l := by
  show notR (go (need 2 none l) 2 none) (go (need 2 none l) 3 none) l = _
  unfold notR
  split
  · rename_i p r
    rw [go_rd (n := 2) (l := r) (by omega) (by simp only [need, List.length_cons]; omega)]
  · rw [go_rd (n := 3) (by omega) (by simp only [need]; omega)]
theorem then_then (r : R) (f g : List Nd → List S → R) : (r.then f).then g = r.then fun x rest => (f x rest).then g := by
  cases r <;> rfl

/-! ### By places -/
/-- The symbols from a token on. -/
def sfrom (ts : List Tok) (a : Nat) : List S := syms (ts.drop a)
theorem sfrom_cons {ts : List Tok} {a : Nat} (h : a < ts.length) : sfrom ts a = symOf ts[a] :: sfrom ts (a + 1) := by
  unfold sfrom syms
  rw [List.drop_eq_getElem_cons h, List.map_cons]
theorem sfrom_nil {ts : List Tok} {a : Nat} (h : ts.length ≤ a) : sfrom ts a = [] := by
  unfold sfrom syms
  rw [List.drop_eq_nil_of_le h, List.map_nil]
theorem sfrom_len (ts : List Tok) (a : Nat) : (sfrom ts a).length = ts.length - a := by
  unfold sfrom syms
  rw [List.length_map, List.length_drop]
theorem sfrom_suffix {ts : List Tok} {a : Nat} {rest : List S} (h : rest <:+ sfrom ts a) (ha : a ≤ ts.length) : ∃ b, a ≤ b ∧ b ≤ ts.length ∧ rest = sfrom ts b := by
  have hl := h.length_le
  rw [sfrom_len] at hl
  refine ⟨ts.length - rest.length, by omega, by omega, ?_⟩
  have h1 := List.suffix_iff_eq_drop.1 h
  rw [sfrom_len] at h1
  rw [h1]
  unfold sfrom syms
  rw [← List.map_drop, List.drop_drop]
  congr 2
  simp only [List.length_map, List.length_drop]
  omega
/-- What is returned. -/
def gotV (m : Nat) : R → List Nd × Int × Int
  | .ok x rest => (x, (m : Int) - rest.length, 0)
  | .err c rest => ([], (m : Int) - rest.length, c)
theorem out_ok {ts : List Tok} {x : List Nd} {b : Nat} (hb : b ≤ ts.length) : gotV ts.length (.ok x (sfrom ts b)) = (x, (b : Int), 0) := by
  show (x, (ts.length : Int) - (sfrom ts b).length, (0 : Int)) = _
  rw [sfrom_len]
  have : (ts.length : Int) - ((ts.length - b : Nat) : Int) = b := by omega
  rw [this]
theorem out_err {ts : List Tok} {c : Int} {b : Nat} (hb : b ≤ ts.length) : gotV ts.length (.err c (sfrom ts b)) = ([], (b : Int), c) := by
  show (([] : List Nd), (ts.length : Int) - (sfrom ts b).length, c) = _
  rw [sfrom_len]
  have : (ts.length : Int) - ((ts.length - b : Nat) : Int) = b := by omega
  rw [this]
/-- Right tokens. -/
def TsOk (ts : List Tok) : Prop := ts.length ≤ 200 ∧ ∀ t ∈ ts, validT t = true ∧ 0 ≤ t.at_ ∧ t.at_ ≤ 400
theorem TsOk.tok {ts : List Tok} (h : TsOk ts) {a : Nat} (ha : a < ts.length) : validT ts[a] = true ∧ 0 ≤ ts[a].at_ ∧ ts[a].at_ ≤ 400 := h.2 _ (List.getElem_mem ha)
theorem TsOk.fine {ts : List Tok} (h : TsOk ts) (a : Nat) : FineL (sfrom ts a) := syms_fine fun t ht => (h.2 t (List.mem_of_mem_drop ht)).2
/-- What a line reads: an expression up to a place behind, or an error at a place. -/
theorem rd_cases {ts : List Tok} (h : TsOk ts) {n a : Nat} (hn : n ≤ 8) (ha : a ≤ ts.length) :
    (∃ x b, a < b ∧ b ≤ ts.length ∧ rd n (sfrom ts a) = .ok x (sfrom ts b) ∧ checkV x = 0) ∨ ∃ c b, a ≤ b ∧ b ≤ ts.length ∧ (c = 4 ∨ c = 12 ∨ c = 34) ∧ rd n (sfrom ts a) = .err c (sfrom ts b) := by
  cases hr : rd n (sfrom ts a) with
  | ok x rest =>
    left
    have hs := taken_suffix (go_taken _ _ _ _ _ _ hr)
    have hl := go_less hr
    obtain ⟨b, h1, h2, rfl⟩ := sfrom_suffix hs ha
    rw [sfrom_len, sfrom_len] at hl
    exact ⟨x, b, by omega, h2, rfl, go_valid _ _ _ _ _ _ hr (h.fine a) (fun a e => by cases e)⟩
  | err c rest =>
    right
    obtain ⟨hc, hs⟩ := go_err _ n none _ c rest hn (fun h => absurd rfl h) (Nat.lt_succ_self _) hr
    obtain ⟨b, h1, h2, rfl⟩ := sfrom_suffix hs ha
    exact ⟨c, b, h1, h2, hc, rfl⟩

/-! ### A token's text tells its symbol -/
def txt (ts : List Tok) (a : Nat) : List UInt8 := ((ts[a]?).map (·.text)).getD []
theorem txt_at {ts : List Tok} {a : Nat} (h : a < ts.length) : txt ts a = ts[a].text := by unfold txt; rw [List.getElem?_eq_getElem h]; rfl
theorem txt_end {ts : List Tok} {a : Nat} (h : ts.length ≤ a) : txt ts a = [] := by unfold txt; rw [List.getElem?_eq_none h]; rfl
def opOf (x : List UInt8) : Int := if opTab.contains x then 7 + (opTab.idxOf x : Int) else 0
theorem op_bounds (x : List UInt8) : opOf x = 0 ∨ (7 ≤ opOf x ∧ opOf x ≤ 19) := by
  unfold opOf
  split
  · rename_i hc
    have hi : opTab.idxOf x < opTab.length := List.idxOf_lt_length_of_mem (by simpa using hc)
    have hl : opTab.length = 13 := rfl
    omega
  · exact .inl rfl
/-- Texts that are no numbers. -/
def marked : List (List UInt8) := opTab ++ [[107], [116], [118], [40], [41], [110, 111, 116]]
theorem marked_no : ∀ x ∈ marked, rdE x ≠ 0 := by decide
theorem op_marked {x : List UInt8} (h : opOf x ≠ 0) : x ∈ marked := by
  unfold opOf at h
  split at h
  · rename_i hc
    exact List.mem_append_left _ (by simpa using hc)
  · exact absurd rfl h
theorem words_no : ∀ x ∈ wordTab, rdE x ≠ 0 := by decide
theorem not_dig {a : UInt8} {l : List UInt8} (h : isDig a = false) : rdE (a :: l) ≠ 0 := by
  have : digB (a :: l) = false := by unfold digB; simp [h]
  unfold rdE; rw [this, if_neg (by simp)]; decide
theorem num_valid {t : Tok} (hv : validT t = true) : t.kind = 1 ↔ rdE t.text = 0 := by
  unfold validT validB at hv
  constructor
  · intro h
    rw [if_pos h] at hv
    simpa using hv
  · intro h
    by_cases h1 : t.kind = 1
    · exact h1
    exfalso
    rw [if_neg h1] at hv
    split at hv
    · exact words_no _ (by unfold wordB at hv; simpa using hv) h
    split at hv
    · rw [decide_eq_true_iff] at hv
      obtain ⟨hpos, hs⟩ := hv
      match ht : t.text, hs, hpos with
      | [a], hs, _ =>
        rw [ht] at h
        cases h1 : oneB a with
        | false => simp [symL, h1] at hs
        | true => rcases one_cases h1 with rfl | rfl | rfl | rfl | rfl | rfl | rfl | rfl <;> exact absurd h (by decide)
      | [a, b], hs, _ =>
        rw [ht] at h
        cases h3 : twoB a b with
        | true => rcases two_cases h3 with ⟨rfl, rfl | rfl⟩ | ⟨rfl, rfl | rfl⟩ | ⟨rfl, rfl⟩ <;> exact absurd h (by decide)
        | false => cases h1 : oneB a <;> simp [symL, h1, h3] at hs
      | a :: b :: c :: r, hs, _ =>
        have := (sym_le (a :: b :: c :: r)).1
        rw [hs] at this
        simp at this
      | [], hs, hpos => simp at hpos
    · cases hv
theorem sym_num {t : Tok} (h : t.kind = 1) : (symOf t).1 = .num (rdV t.text) := by
  show symI t.kind t.text = _
  rw [h]; rfl
theorem sym_not {t : Tok} (h : t.kind ≠ 1) : (symOf t).1 = if t.text = [107] then .leaf 2 else if t.text = [116] then .leaf 3 else if t.text = [118] then .leaf 4
  else if t.text = [40] then .left else if t.text = [41] then .right else if t.text = [110, 111, 116] then .no
  else if opTab.contains t.text then .bin (7 + (opTab.idxOf t.text : Int)) else .other := by
  show symI t.kind t.text = _
  unfold symI
  rw [if_neg h]
theorem kind_marked {t : Tok} (hv : validT t = true) (h : t.text ∈ marked) : t.kind ≠ 1 := fun h1 => marked_no _ h ((num_valid hv).1 h1)
theorem sym_op {t : Tok} (hv : validT t = true) (h : opOf t.text ≠ 0) : (symOf t).1 = .bin (opOf t.text) := by
  rw [sym_not (kind_marked hv (op_marked h))]
  have hc : opTab.contains t.text = true := by
    unfold opOf at h
    split at h
    · assumption
    · exact absurd rfl h
  have hno : ∀ x : List UInt8, opTab.contains x = false → t.text ≠ x := fun x hx e => by rw [e, hx] at hc; cases hc
  rw [if_neg (hno _ (by decide)), if_neg (hno _ (by decide)), if_neg (hno _ (by decide)), if_neg (hno _ (by decide)), if_neg (hno _ (by decide)), if_neg (hno _ (by decide)), if_pos hc]
  unfold opOf
  rw [if_pos hc]
theorem sym_op_not {t : Tok} (h : opOf t.text = 0) : ∀ k, (symOf t).1 ≠ .bin k := by
  intro k
  by_cases h1 : t.kind = 1
  · rw [sym_num h1]; exact fun e => by cases e
  · have hc : ¬ opTab.contains t.text = true := by
      intro hc
      unfold opOf at h
      rw [if_pos hc] at h
      omega
    rw [sym_not h1]
    repeat' split
    all_goals first | (intro e; cases e; done) | contradiction
/-! ### A line goes on, or does not -/
theorem ct_on {ts : List Tok} (ht : TsOk ts) {n a : Nat} {x : List Nd} (hn : n ≤ 6) (ha : a < ts.length) {k : Int} (hk : opOf (txt ts a) = k) (h7 : 7 ≤ k) (hl : line k = n) :
    ct n x (sfrom ts a) = ((rd (n + 1) (sfrom ts (a + 1))).then fun y rest => mk k 0 ts[a].at_ [x, y] (sfrom ts a) rest).then fun z rest => if n = 3 then .ok z rest else ct n z rest := by
  rw [ct_back n hn, then_then]
  rw [txt_at ha] at hk
  have hs := sym_op (ht.tok ha).1 (by omega)
  rw [hk] at hs
  have he : symOf ts[a] = (.bin k, ts[a].at_) := Prod.ext hs rfl
  have hc := sfrom_cons ha
  rw [he] at hc
  rw [hc]
  show (if line k = n then _ else _) = _
  rw [if_pos hl]
theorem ct_off {ts : List Tok} {n a : Nat} {x : List Nd} (hn : n ≤ 6) (ht : TsOk ts) (h : opOf (txt ts a) = 0 ∨ line (opOf (txt ts a)) ≠ n) : ct n x (sfrom ts a) = .ok x (sfrom ts a) := by
  rw [ct_back n hn]
  rcases Nat.lt_or_ge a ts.length with ha | ha
  · rw [txt_at ha] at h
    rw [sfrom_cons ha]
    by_cases h0 : opOf ts[a].text = 0
    · have := sym_op_not h0
      unfold backR
      split
      · rename_i k p r e
        injection e with e1 e2
        exact absurd (by rw [e1]) (this k)
      · rfl
    · have hs := sym_op (ht.tok ha).1 h0
      have he : symOf ts[a] = (.bin (opOf ts[a].text), ts[a].at_) := Prod.ext hs rfl
      rw [he]
      show (if line _ = n then _ else _) = _
      rw [if_neg (by rcases h with h | h; exact absurd h h0; exact h)]
  · rw [sfrom_nil ha]; rfl
/-! ### Prefixes -/
theorem pre_neg {ts : List Tok} (ht : TsOk ts) {a : Nat} : (txt ts a = [45] → a < ts.length ∧ ∀ h : a < ts.length, rd 7 (sfrom ts a) = (rd 7 (sfrom ts (a + 1))).then fun x rest => mk 5 0 ts[a].at_ [x] (sfrom ts a) rest) ∧ (txt ts a ≠ [45] → rd 7 (sfrom ts a) = rd 8 (sfrom ts a)) := by
  rcases Nat.lt_or_ge a ts.length with ha | ha
  · rw [txt_at ha]
    refine ⟨fun h => ⟨ha, fun _ => ?_⟩, fun h => ?_⟩
    · have hs := sym_op (ht.tok ha).1 (by rw [h]; decide)
      rw [h] at hs
      have he : symOf ts[a] = (.bin 9, ts[a].at_) := Prod.ext hs rfl
      rw [rd_neg, sfrom_cons ha, he]
      rfl
    · rw [rd_neg]
      have hc := sfrom_cons ha
      unfold negR
      split
      · rename_i k p r e
        rw [hc] at e
        injection e with e1 e2
        by_cases hk : k = 9
        · exfalso
          have hb : (symOf ts[a]).1 = .bin 9 := by rw [e1, hk]
          have h0 : opOf ts[a].text ≠ 0 := fun h0 => sym_op_not h0 9 hb
          have := sym_op (ht.tok ha).1 h0
          rw [this] at hb
          injection hb with hb
          have hc9 : opTab.contains ts[a].text = true := by
            unfold opOf at h0
            split at h0
            · assumption
            · exact absurd rfl h0
          unfold opOf at hb
          rw [if_pos hc9] at hb
          have hi : opTab.idxOf ts[a].text = 2 := by omega
          have hlt : opTab.idxOf ts[a].text < opTab.length := by rw [hi]; decide
          have := List.getElem_idxOf hlt
          simp only [hi] at this
          exact h this.symm
        · rw [if_neg hk, hc, e1, e2]
      · rfl
  · rw [txt_end ha, sfrom_nil ha]
    exact ⟨fun h => (by cases h), fun _ => rd_neg []⟩
theorem pre_not {ts : List Tok} (ht : TsOk ts) {a : Nat} : (txt ts a = [110, 111, 116] → a < ts.length ∧ ∀ h : a < ts.length, rd 2 (sfrom ts a) = (rd 2 (sfrom ts (a + 1))).then fun x rest => mk 6 0 ts[a].at_ [x] (sfrom ts a) rest) ∧ (txt ts a ≠ [110, 111, 116] → rd 2 (sfrom ts a) = rd 3 (sfrom ts a)) := by
  rcases Nat.lt_or_ge a ts.length with ha | ha
  · rw [txt_at ha]
    refine ⟨fun h => ⟨ha, fun _ => ?_⟩, fun h => ?_⟩
    · have h1 : ts[a].kind ≠ 1 := kind_marked (ht.tok ha).1 (by rw [h]; decide)
      have hs := sym_not h1
      rw [h] at hs
      have he : symOf ts[a] = (.no, ts[a].at_) := Prod.ext hs rfl
      rw [rd_not, sfrom_cons ha, he]
      rfl
    · rw [rd_not]
      have hc := sfrom_cons ha
      unfold notR
      split
      · rename_i p r e
        exfalso
        rw [hc] at e
        injection e with e1 e2
        have hb : (symOf ts[a]).1 = .no := by rw [e1]
        by_cases h1 : ts[a].kind = 1
        · rw [sym_num h1] at hb; cases hb
        · rw [sym_not h1] at hb
          repeat' split at hb
          all_goals first | (cases hb; done) | contradiction
      · rfl
  · rw [txt_end ha, sfrom_nil ha]
    exact ⟨fun h => (by cases h), fun _ => rd_not []⟩
/-! ### Primaries -/
theorem prim_end {ts : List Tok} {a : Nat} (h : ts.length ≤ a) : rd 8 (sfrom ts a) = .err 12 (sfrom ts a) := by
  rw [rd_prim, sfrom_nil h]; rfl
theorem prim_num {ts : List Tok} (ht : TsOk ts) {a : Nat} (ha : a < ts.length) (h : rdE ts[a].text = 0) : rd 8 (sfrom ts a) = mk 1 (rdV ts[a].text) ts[a].at_ [] (sfrom ts a) (sfrom ts (a + 1)) := by
  have hs := sym_num ((num_valid (ht.tok ha).1).2 h)
  have he : symOf ts[a] = (.num (rdV ts[a].text), ts[a].at_) := Prod.ext hs rfl
  have hc := sfrom_cons ha
  rw [he] at hc
  rw [rd_prim, hc]
  rfl
theorem prim_leaf {ts : List Tok} (ht : TsOk ts) {a : Nat} (ha : a < ts.length) {x : List UInt8} {k : Int} (hx : ts[a].text = x) (h : (x = [107] ∧ k = 2) ∨ (x = [116] ∧ k = 3) ∨ (x = [118] ∧ k = 4)) : rd 8 (sfrom ts a) = mk k 0 ts[a].at_ [] (sfrom ts a) (sfrom ts (a + 1)) := by
  have h1 : ts[a].kind ≠ 1 := kind_marked (ht.tok ha).1 (by rw [hx]; rcases h with ⟨rfl, _⟩ | ⟨rfl, _⟩ | ⟨rfl, _⟩ <;> decide)
  have hs := sym_not h1
  rw [hx] at hs
  have hl : (symOf ts[a]).1 = .leaf k := by rw [hs]; rcases h with ⟨rfl, rfl⟩ | ⟨rfl, rfl⟩ | ⟨rfl, rfl⟩ <;> rfl
  have he : symOf ts[a] = (.leaf k, ts[a].at_) := Prod.ext hl rfl
  have hc := sfrom_cons ha
  rw [he] at hc
  rw [rd_prim, hc]
  rfl
theorem prim_no {ts : List Tok} {a : Nat} (ht : TsOk ts) (ha : a < ts.length) (h0 : rdE ts[a].text ≠ 0) (h1 : ts[a].text ≠ [40]) (h2 : ts[a].text ≠ [107]) (h3 : ts[a].text ≠ [116]) (h4 : ts[a].text ≠ [118]) : rd 8 (sfrom ts a) = .err 12 (sfrom ts a) := by
  have hk : ts[a].kind ≠ 1 := fun hk => h0 ((num_valid (ht.tok ha).1).1 hk)
  have hs := sym_not hk
  rw [if_neg h2, if_neg h3, if_neg h4, if_neg h1] at hs
  have hc := sfrom_cons ha
  rw [rd_prim]
  unfold primR
  split
  all_goals first
    | rfl
    | (exfalso
       rename_i e
       rw [hc] at e
       injection e with e1 e2
       rw [e1] at hs
       repeat' split at hs
       all_goals cases hs)
theorem prim_left {ts : List Tok} (ht : TsOk ts) {a : Nat} (ha : a < ts.length) (h : ts[a].text = [40]) :
    (∀ x b, b ≤ ts.length → rd 0 (sfrom ts (a + 1)) = .ok x (sfrom ts b) → (txt ts b = [41] → b < ts.length ∧ rd 8 (sfrom ts a) = .ok x (sfrom ts (b + 1))) ∧ (txt ts b ≠ [41] → rd 8 (sfrom ts a) = .err 12 (sfrom ts b))) ∧
    ∀ c m, rd 0 (sfrom ts (a + 1)) = .err c m → rd 8 (sfrom ts a) = .err c m := by
  have h1 : ts[a].kind ≠ 1 := kind_marked (ht.tok ha).1 (by rw [h]; decide)
  have hs := sym_not h1
  rw [h] at hs
  have he : symOf ts[a] = (.left, ts[a].at_) := Prod.ext hs rfl
  have hp : rd 8 (sfrom ts a) = (rd 0 (sfrom ts (a + 1))).then fun x rest => match rest with | (.right, _) :: rest => .ok x rest | rest => .err 12 rest := by
    rw [rd_prim, sfrom_cons ha, he]; rfl
  refine ⟨fun x b hb hr => ⟨fun h2 => ?_, fun h2 => ?_⟩, fun c m hr => by rw [hp, hr]; rfl⟩
  · rcases Nat.lt_or_ge b ts.length with hb2 | hb2
    · rw [txt_at hb2] at h2
      have h3 : ts[b].kind ≠ 1 := kind_marked (ht.tok hb2).1 (by rw [h2]; decide)
      have hs2 := sym_not h3
      rw [h2] at hs2
      have he2 : symOf ts[b] = (.right, ts[b].at_) := Prod.ext hs2 rfl
      exact ⟨hb2, by rw [hp, hr, sfrom_cons hb2, he2]; rfl⟩
    · rw [txt_end hb2] at h2; cases h2
  · rw [hp, hr]
    rcases Nat.lt_or_ge b ts.length with hb2 | hb2
    · rw [txt_at hb2] at h2
      have hc := sfrom_cons hb2
      show (match sfrom ts b with | (.right, _) :: rest => R.ok x rest | rest => .err 12 rest) = _
      split
      · exfalso
        rename_i e
        rw [hc] at e
        injection e with e1 e2
        have hb3 : (symOf ts[b]).1 = .right := by rw [e1]
        by_cases h3 : ts[b].kind = 1
        · rw [sym_num h3] at hb3; cases hb3
        · rw [sym_not h3] at hb3
          repeat' split at hb3
          all_goals first | (cases hb3; done) | contradiction
      · rfl
    · rw [sfrom_nil hb2]; rfl
/-! ### A node made of parts -/
theorem node_mk {k n at_ : Int} {ps : List (List Nd)} (h1 : 1 ≤ k ∧ k ≤ 19 ∧ arity k = ps.length ∧ 0 ≤ n ∧ (n = 0 ∨ k = 1) ∧ 0 ≤ at_ ∧ at_ ≤ 400) (h2 : ∀ p ∈ ps, checkV p = 0) (here rest : List S) :
    (mk k n at_ ps here rest = .ok (madeL k n at_ ps) rest ∧ nodeV k n at_ ps = (madeL k n at_ ps, 0) ∧ checkV (madeL k n at_ ps) = 0) ∨ ∃ c, (c = 4 ∨ c = 34) ∧ mk k n at_ ps here rest = .err c here ∧ nodeV k n at_ ps = ([], c) := by
  have hm := made_check h1 h2
  have hf : ps.find? badP = none := List.find?_eq_none.2 fun p hq => by unfold badP; rw [h2 p hq]; simp
  unfold mk nodeV
  rw [if_pos h1, hf]
  by_cases h60 : 60 < (madeL k n at_ ps).length
  · rw [if_pos h60] at hm ⊢
    exact .inr ⟨4, .inl rfl, rfl, by simp only; rw [hm, if_neg (by decide)]⟩
  · rw [if_neg h60] at hm ⊢
    by_cases h20 : 20 < dp (accV (madeL k n at_ ps)) ((madeL k n at_ ps).length - 1)
    · rw [if_pos h20] at hm ⊢
      exact .inr ⟨34, .inr rfl, rfl, by simp only; rw [hm, if_neg (by decide)]⟩
    · rw [if_neg h20] at hm ⊢
      exact .inl ⟨rfl, by simp only; rw [hm, if_pos rfl], hm⟩
/-- An operator's node: what is behind the operator, joined to what is in front. -/
def nextR (m : Nat) (ts : List Tok) (a : Nat) (k q : Int) (x : List Nd) : R := (rd m (sfrom ts (a + 1))).then fun y rest => mk k 0 q [x, y] (sfrom ts a) rest
theorem next_cases {ts : List Tok} (ht : TsOk ts) {m a : Nat} (hm : m ≤ 8) (ha : a < ts.length) {k : Int} (hk : 7 ≤ k ∧ k ≤ 19) {x : List Nd} (hx : checkV x = 0) :
    (∃ z b, a < b ∧ b ≤ ts.length ∧ nextR m ts a k ts[a].at_ x = .ok z (sfrom ts b) ∧ checkV z = 0) ∨ ∃ c b, a ≤ b ∧ b ≤ ts.length ∧ (c = 4 ∨ c = 12 ∨ c = 34) ∧ nextR m ts a k ts[a].at_ x = .err c (sfrom ts b) := by
  unfold nextR
  rcases rd_cases ht hm (show a + 1 ≤ ts.length by omega) with ⟨y, b, h1, h2, hr, hy⟩ | ⟨c, b, h1, h2, hcc, hr⟩
  · rw [hr]
    rcases node_mk (k := k) (n := 0) (at_ := ts[a].at_) (ps := [x, y]) ⟨by omega, hk.2, arity_bin hk.1, Int.le_refl _, .inl rfl, (ht.tok ha).2⟩ (fun p hp => by
      simp at hp
      rcases hp with rfl | rfl
      · exact hx
      · exact hy) (sfrom ts a) (sfrom ts b) with ⟨h3, _, h4⟩ | ⟨c, hc, h3, _⟩
    · exact .inl ⟨_, b, by omega, h2, h3, h4⟩
    · exact .inr ⟨c, a, Nat.le_refl _, by omega, by omega, h3⟩
  · rw [hr]
    exact .inr ⟨c, b, by omega, h2, hcc, rfl⟩
/-- A node in front of what follows. -/
def frontR (m : Nat) (ts : List Tok) (a : Nat) (k q : Int) : R := (rd m (sfrom ts (a + 1))).then fun x rest => mk k 0 q [x] (sfrom ts a) rest
end Go.Proofs.YtdinaedknlkicaaGreatDoor.Exprs
/-
  The text with brackets of each node of an expression (layer 5), plainly: what it is made of, and how long it is. No program in this text.
-/
namespace Go.Proofs.YtdinaedknlkicaaGreatDoor.Exprs
open Nodes Go.Lib

def kindAt (l : List Nd) (j : Nat) : Int := ((l[j]?).map (·.kind)).getD 0
theorem kindAt_lt {l : List Nd} {j : Nat} (h : j < l.length) : kindAt l j = l[j].kind := by unfold kindAt; rw [List.getElem?_eq_getElem h]; rfl
/-- The text of a node, as a part and not. -/
def WT (l : List Nd) (i : Nat) : List UInt8 := wr l (i + 1) i
def PT (l : List Nd) (i : Nat) : List UInt8 := if arity (kindAt l i) = 0 then WT l i else 40 :: WT l i ++ [41]
def pr (l : List Nd) (f : Nat) (j : Int) : List UInt8 := if arity (kindAt l j.toNat) = 0 then wr l f j else 40 :: wr l f j ++ [41]
theorem wr_succ (l : List Nd) (f i : Nat) (hi : i < l.length) : wr l (f + 1) i =
    if arity l[i].kind = 0 then leafT l[i].kind l[i].n
    else if arity l[i].kind = 1 then (frontI l[i].kind).2 ++ 32 :: pr l f l[i].a
    else pr l f l[i].a ++ 32 :: (opT l[i].kind ++ 32 :: pr l f l[i].b) := by
  show (match l[((i : Int)).toNat]? with | none => [] | some x => _) = _
  rw [Int.toNat_natCast, List.getElem?_eq_getElem hi]
  rfl
theorem wr_fuel {l : List Nd} (hc : checkV l = 0) (f : Nat) : ∀ g i : Nat, i < f → i < g → i < l.length → wr l f i = wr l g i := by
  induction f with
  | zero => intro g i h; omega
  | succ f ih =>
    intro g i hf hg hi
    cases g with
    | zero => omega
    | succ g =>
      have hpr : ∀ j : Nat, j < i → pr l f (j : Int) = pr l g (j : Int) := fun j hj => by
        unfold pr
        rw [ih g j (by omega) (by omega) (by omega)]
      rw [wr_succ l f i hi, wr_succ l g i hi]
      obtain ⟨_, _, _, _, _, _, hcase⟩ := node_facts hc hi
      rcases hcase with ⟨h0, _⟩ | ⟨h1, hi1, ha, _⟩ | ⟨h2, hi1, hs, ha, hb, _⟩
      · rw [if_pos h0, if_pos h0]
      · rw [if_neg (by omega), if_pos h1, if_neg (by omega), if_pos h1, ha, hpr _ (by omega)]
      · rw [if_neg (by omega), if_neg (by omega), if_neg (by omega), if_neg (by omega), ha, hb, hpr _ (by omega), hpr _ (by omega)]
theorem part_is {l : List Nd} (hc : checkV l = 0) {i j : Nat} (hj : j < i) (hi : i ≤ l.length) : pr l i (j : Int) = PT l j := by
  unfold pr
  rw [Int.toNat_natCast, wr_fuel hc i (j + 1) j hj (by omega) (by omega)]
  rfl
theorem wt_leaf {l : List Nd} {i : Nat} (hi : i < l.length) (h : arity l[i].kind = 0) : WT l i = leafT l[i].kind l[i].n := by
  unfold WT
  rw [wr_succ l i i hi, if_pos h]
theorem wt_one {l : List Nd} (hc : checkV l = 0) {i : Nat} (hi : i < l.length) (h : arity l[i].kind = 1) : ∃ j : Nat, j < i ∧ l[i].a = (j : Int) ∧ WT l i = (frontI l[i].kind).2 ++ 32 :: PT l j := by
  obtain ⟨_, _, _, _, _, _, hcase⟩ := node_facts hc hi
  rcases hcase with ⟨h0, _⟩ | ⟨h1, hi1, ha, _⟩ | ⟨h2, _⟩
  · omega
  · refine ⟨i - 1, by omega, ha, ?_⟩
    unfold WT
    rw [wr_succ l i i hi, if_neg (by omega), if_pos h, ha, part_is hc (by omega) (by omega)]
  · omega
theorem wt_two {l : List Nd} (hc : checkV l = 0) {i : Nat} (hi : i < l.length) (h : arity l[i].kind = 2) : ∃ j k : Nat, j < i ∧ k < i ∧ l[i].a = (j : Int) ∧ l[i].b = (k : Int) ∧ WT l i = PT l j ++ 32 :: (opT l[i].kind ++ 32 :: PT l k) ∧ sz (accV l) i = 1 + sz (accV l) j + sz (accV l) k := by
  obtain ⟨_, _, _, _, _, _, hcase⟩ := node_facts hc hi
  rcases hcase with ⟨h0, _⟩ | ⟨h1, _⟩ | ⟨h2, hi1, hs, ha, hb, hz⟩
  · omega
  · omega
  · refine ⟨i - 1 - sz (accV l) (i - 1), i - 1, by omega, by omega, ha, hb, ?_, by omega⟩
    unfold WT
    rw [wr_succ l i i hi, if_neg (by omega), if_neg (by omega), ha, hb, part_is hc (by omega) (by omega), part_is hc (by omega) (by omega)]
theorem sz_le {l : List Nd} (hc : checkV l = 0) (m : Nat) : ∀ i, i < m → i < l.length → sz (accV l) i ≤ i + 1 := by
  induction m with
  | zero => intro i h; omega
  | succ m ih =>
    intro i him hi
    obtain ⟨_, _, _, _, _, _, hcase⟩ := node_facts hc hi
    rcases hcase with ⟨_, _, _, hs⟩ | ⟨h1, hi1, _, _, hs⟩ | ⟨h2, hi1, hsz, _, _, hs⟩
    · omega
    · have := ih (i - 1) (by omega) (by omega)
      omega
    · have := ih (i - 1) (by omega) (by omega)
      have := ih (i - 1 - sz (accV l) (i - 1)) (by omega) (by omega)
      omega
theorem opT_short (k : Int) : (opT k).length ≤ 3 := by
  unfold opT
  have : ∀ x ∈ opTab, x.length ≤ 3 := by decide
  rw [List.getD_eq_getElem?_getD]
  rcases Nat.lt_or_ge (k.toNat - 7) opTab.length with h | h
  · rw [List.getElem?_eq_getElem h]
    exact this _ (List.getElem_mem h)
  · rw [List.getElem?_eq_none h]; simp
theorem wt_len {l : List Nd} (hc : checkV l = 0) (hw : Wide l) (m : Nat) : ∀ i, i < m → i < l.length → (WT l i).length + 2 ≤ 30 * sz (accV l) i := by
  induction m with
  | zero => intro i h; omega
  | succ m ih =>
    intro i him hi
    obtain ⟨k1, k2, hn0, hn1, _, _, hcase⟩ := node_facts hc hi
    rcases hcase with ⟨h0, _, _, hs⟩ | ⟨h1, hi1, ha, _, hs⟩ | ⟨h2, hi1, hsz, ha, hb, hs⟩
    · rw [wt_leaf hi h0, hs]
      unfold leafT leafI
      split
      · have := itoa_length_le l[i].n (by omega) (hw _ (List.getElem_mem hi))
        simp only
        omega
      split
      · simp
      split
      · simp
      · simp
    · have hx := ih (i - 1) (by omega) (by omega)
      have e : WT l i = (frontI l[i].kind).2 ++ 32 :: PT l (i - 1) := by
        obtain ⟨j, hj, hj2, he⟩ := wt_one hc hi h1
        have : j = i - 1 := by omega
        rw [he, this]
      have hf : (frontI l[i].kind).2.length ≤ 3 := by unfold frontI; split <;> simp
      have hp : (PT l (i - 1)).length ≤ (WT l (i - 1)).length + 2 := by unfold PT; split <;> simp
      rw [e, hs]
      simp only [List.length_append, List.length_cons]
      omega
    · obtain ⟨j, k, hj, hk, ej, ek, e, hz⟩ := wt_two hc hi h2
      have hx := ih j (by omega) (by omega)
      have hy := ih k (by omega) (by omega)
      have hp : ∀ j, (PT l j).length ≤ (WT l j).length + 2 := fun j => by unfold PT; split <;> simp
      have h1 := hp j
      have h2 := hp k
      have h3 := opT_short l[i].kind
      rw [e, hz]
      simp only [List.length_append, List.length_cons]
      omega
theorem wt_bound {l : List Nd} (hc : checkV l = 0) (hw : Wide l) {i : Nat} (hi : i < l.length) : (WT l i).length ≤ 2000 ∧ (PT l i).length ≤ 2000 := by
  have h1 := wt_len hc hw (i + 1) i (Nat.lt_succ_self _) hi
  have h2 : sz (accV l) i ≤ i + 1 := sz_le hc (i + 1) i (Nat.lt_succ_self _) hi
  have h60 : l.length ≤ 60 := (check_acc hc).2.2.1
  have hp : (PT l i).length ≤ (WT l i).length + 2 := by unfold PT; split <;> simp
  omega
theorem textV_wt {l : List Nd} (hc : checkV l = 0) (hl : 0 < l.length) : textV l = (WT l (l.length - 1), 0) := by
  unfold textV
  rw [if_pos hc]
  obtain ⟨n, hn⟩ : ∃ n, l.length = n + 1 := ⟨l.length - 1, by omega⟩
  unfold WT
  rw [hn]
  have : ((n + 1 : Nat) : Int) - 1 = (n : Int) := by omega
  rw [this]
  rfl
end Go.Proofs.YtdinaedknlkicaaGreatDoor.Exprs

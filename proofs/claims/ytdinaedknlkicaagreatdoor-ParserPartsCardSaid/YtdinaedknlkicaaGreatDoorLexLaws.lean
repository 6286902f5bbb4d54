/-
  What layer 3's statements say of tokens, over plain lists: what stands behind a token, blanks in front, behind and between, what an error leaves, tokens and gaps, tokens joined. No program in this text.
-/
import Derived.Test.YtdinaedknlkicaaGreatDoorLexMath
namespace Go.Proofs.YtdinaedknlkicaaGreatDoor

def blank (c : UInt8) : Bool := isKind 1 c
theorem kinds_apart {c : UInt8} {j k : Int} (h : isKind j c = true) (hne : j ≠ k) : isKind k c = false := by
  unfold isKind at h ⊢
  rw [decide_eq_true_iff] at h
  rw [decide_eq_false_iff_not, h]
  exact hne
theorem blank_cases {c : UInt8} (h : isKind 1 c = true) : c = 32 ∨ c = 10 := by
  unfold isKind kindV at h
  rw [decide_eq_true_iff] at h
  split at h
  · rename_i h1
    rcases h1 with h1 | h1
    · exact .inl (u8_eq (n := 32) (by omega) 32 rfl)
    · exact .inr (u8_eq (n := 10) (by omega) 10 rfl)
  · split at h
    · omega
    · split at h
      · omega
      · split at h <;> omega
theorem run_ext {k : Int} {l m : List UInt8} (hm : runN k m = 0) : runN k (l ++ m) = runN k l := by
  induction l with
  | nil => simpa [runN_nil] using hm
  | cons c l ih =>
    cases hc : isKind k c with
    | false => rw [List.cons_append, runN_no hc, runN_no hc]
    | true => rw [List.cons_append, runN_yes hc, runN_yes hc, ih]
theorem run_head {k : Int} {m : List UInt8} (h : ∀ b ∈ m.head?, isKind k b = false) : runN k m = 0 := by
  cases m with
  | nil => rfl
  | cons b m => exact runN_no (h b (by simp)) m
theorem run_zero_head {k : Int} {m : List UInt8} (h : runN k m = 0) : ∀ b ∈ m.head?, isKind k b = false := by
  cases m with
  | nil => intro b hb; simp at hb
  | cons c m =>
    intro b hb
    simp at hb
    subst hb
    cases hc : isKind k c with
    | false => rfl
    | true => rw [runN_yes hc] at h; omega
/-- What may stand behind a token so that it stays as it is: nothing, a blank, or the byte that stood there. -/
def Behind (r m : List UInt8) (n : Nat) : Prop := (∀ b ∈ m.head?, isKind 1 b = true) ∨ m.head? = (r.drop n).head?
theorem behind_run {k : Int} {r m : List UInt8} (hk : 1 ≠ k) (h : Behind r m (runN k r)) : runN k m = 0 := by
  rcases h with h | h
  · exact run_head fun b hb => kinds_apart (h b hb) hk
  · have := run_zero_head (run_behind k r)
    rw [← h] at this
    exact run_head this
theorem take_run_ext {k : Int} {r m : List UInt8} (hk : 1 ≠ k) (h : Behind r m (runN k r)) : runN k (r.take (runN k r) ++ m) = runN k r := by
  rw [run_stop k _ m (run_all k r) (behind_run hk h), List.length_take]
  have := runN_le k r
  omega
theorem two_blank {a b : UInt8} (h : isKind 1 b = true) : twoB a b = false := by
  rcases blank_cases h with rfl | rfl <;> simp [twoB]
theorem sym_behind {r m : List UInt8} (hn : symL r ≠ 0) (h : Behind r m (symL r)) : symL (r.take (symL r) ++ m) = symL r := by
  match r with
  | [] => simp [symL] at hn
  | [a] =>
    cases h1 : oneB a with
    | false => simp [symL, h1] at hn
    | true =>
      have e : symL [a] = 1 := by simp [symL, h1]
      rw [e] at h ⊢
      cases m with
      | nil => simp [symL, h1]
      | cons b m =>
        have h2 : twoB a b = false := by
          rcases h with h | h
          · exact two_blank (h b (by simp))
          · simp at h
        simp [symL, h1, h2]
  | a :: b :: t =>
    cases h2 : twoB a b with
    | true => simp [symL, h2]
    | false =>
      cases h1 : oneB a with
      | false => simp [symL, h1, h2] at hn
      | true =>
        have e : symL (a :: b :: t) = 1 := by simp [symL, h1, h2]
        rw [e] at h ⊢
        cases m with
        | nil => simp [symL, h1]
        | cons d m =>
          have h3 : twoB a d = false := by
            rcases h with h | h
            · exact two_blank (h d (by simp))
            · simp at h; rw [h]; exact h2
          simp [symL, h1, h3]
theorem tok_next {r : List UInt8} (he : tokE r = 0) (m : List UInt8) (hm : Behind r m (tokN r)) :
    tokK (r.take (tokN r) ++ m) = tokK r ∧ tokN (r.take (tokN r) ++ m) = tokN r ∧ tokE (r.take (tokN r) ++ m) = 0 := by
  cases r with
  | nil => simp [tokE] at he
  | cons c l =>
    cases h2 : isKind 2 c with
    | true =>
      obtain ⟨e1, e2, e3⟩ := tok_two h2 l
      rw [e2] at hm ⊢
      rw [e3] at he
      have hr := take_run_ext (by decide) hm
      have hc : (c :: l).take (runN 2 (c :: l)) = c :: l.take (runN 2 l) := by rw [runN_yes h2]; rfl
      rw [hc] at hr he ⊢
      rw [List.cons_append] at hr ⊢
      obtain ⟨f1, f2, f3⟩ := tok_two h2 (l.take (runN 2 l) ++ m)
      rw [f1, f2, f3, hr, e1]
      refine ⟨rfl, rfl, ?_⟩
      rw [← List.cons_append, List.take_left' (by rw [← hc, List.length_take]; have := runN_le 2 (c :: l); omega)]
      exact he
    | false =>
      cases h3 : isKind 3 c with
      | true =>
        obtain ⟨e1, e2, e3⟩ := tok_three h2 h3 l
        rw [e2] at hm ⊢
        rw [e3] at he
        have hr := take_run_ext (by decide) hm
        have hc : (c :: l).take (runN 3 (c :: l)) = c :: l.take (runN 3 l) := by rw [runN_yes h3]; rfl
        rw [hc] at hr he ⊢
        rw [List.cons_append] at hr ⊢
        obtain ⟨f1, f2, f3⟩ := tok_three h2 h3 (l.take (runN 3 l) ++ m)
        rw [f1, f2, f3, hr, e1]
        refine ⟨rfl, rfl, ?_⟩
        rw [← List.cons_append, List.take_left' (by rw [← hc, List.length_take]; have := runN_le 3 (c :: l); omega)]
        exact he
      | false =>
        obtain ⟨e1, e2, e3⟩ := tok_other h2 h3 l
        rw [e2] at hm ⊢
        rw [e3] at he
        have hn : symL (c :: l) ≠ 0 := by intro h; rw [if_pos h] at he; simp at he
        have hr := sym_behind hn hm
        obtain ⟨n, hn2⟩ : ∃ n, symL (c :: l) = n + 1 := ⟨symL (c :: l) - 1, by omega⟩
        rw [hn2] at hr hm ⊢
        rw [List.take_succ_cons, List.cons_append] at hr ⊢
        obtain ⟨f1, f2, f3⟩ := tok_other h2 h3 (l.take n ++ m)
        rw [f1, f2, f3, hr, e1, hn2]
        exact ⟨rfl, rfl, rfl⟩
/-- An error stays one where nothing or a blank comes behind the text. -/
theorem tok_bad {r : List UInt8} (hr : r ≠ []) (m : List UInt8) (hm : ∀ b ∈ m.head?, isKind 1 b = true) : tokE (r ++ m) = tokE r ∧ tokN (r ++ m) = tokN r ∧ tokK (r ++ m) = tokK r := by
  cases r with
  | nil => exact absurd rfl hr
  | cons c l =>
    have hrun : ∀ k, 1 ≠ k → runN k ((c :: l) ++ m) = runN k (c :: l) := fun k hk => run_ext (run_head fun b hb => kinds_apart (hm b hb) hk)
    cases h2 : isKind 2 c with
    | true =>
      obtain ⟨e1, e2, e3⟩ := tok_two h2 l
      have hr2 := hrun 2 (by decide)
      rw [List.cons_append] at hr2 ⊢
      obtain ⟨f1, f2, f3⟩ := tok_two h2 (l ++ m)
      rw [f1, f2, f3, e1, e2, e3, hr2]
      refine ⟨?_, rfl, rfl⟩
      rw [← List.cons_append, List.take_append_of_le_length (runN_le _ _)]
    | false =>
      cases h3 : isKind 3 c with
      | true =>
        obtain ⟨e1, e2, e3⟩ := tok_three h2 h3 l
        have hr2 := hrun 3 (by decide)
        rw [List.cons_append] at hr2 ⊢
        obtain ⟨f1, f2, f3⟩ := tok_three h2 h3 (l ++ m)
        rw [f1, f2, f3, e1, e2, e3, hr2]
        refine ⟨?_, rfl, rfl⟩
        rw [← List.cons_append, List.take_append_of_le_length (runN_le _ _)]
      | false =>
        obtain ⟨e1, e2, e3⟩ := tok_other h2 h3 l
        have hs : symL (c :: (l ++ m)) = symL (c :: l) := by
          cases l with
          | nil =>
            cases m with
            | nil => rfl
            | cons b m =>
              have := two_blank (a := c) (hm b (by simp))
              simp [symL, this]
          | cons d l => rfl
        rw [List.cons_append]
        obtain ⟨f1, f2, f3⟩ := tok_other h2 h3 (l ++ m)
        rw [f1, f2, f3, e1, e2, e3, hs]
        exact ⟨rfl, rfl, rfl⟩

/-! ### All tokens: moved, blanks in front, behind, between -/
def moved (d : Nat) (t : Tok) : Tok := ⟨t.kind, t.at_ + d, t.text⟩
theorem lex_moved (d : Nat) : ∀ (f off cnt : Nat) (l : List UInt8), lexF f (off + d) cnt l = ((lexF f off cnt l).1.map (moved d), (lexF f off cnt l).2.1 + d, (lexF f off cnt l).2.2) := by
  intro f
  induction f with
  | zero => intro off cnt l; simp [lexF]
  | succ f ih =>
    intro off cnt l
    unfold lexF
    split
    · simp; omega
    split
    · simp; omega
    split
    · have := ih (off + runN 1 l + tokN (l.drop (runN 1 l))) (cnt + 1) ((l.drop (runN 1 l)).drop (tokN (l.drop (runN 1 l))))
      rw [show off + d + runN 1 l + tokN (l.drop (runN 1 l)) = off + runN 1 l + tokN (l.drop (runN 1 l)) + d by omega, this]
      simp [moved]; omega
    · simp; omega
theorem core_moved (d : Nat) (ts : List Tok) : (ts.map (moved d)).map core = ts.map core := by
  rw [List.map_map]; rfl
theorem lex_front (f off cnt : Nat) (g l : List UInt8) (hg : ∀ c ∈ g, isKind 1 c = true) : lexF (f + 1) off cnt (g ++ l) = lexF (f + 1) (off + g.length) cnt l := by
  have hr : runN 1 (g ++ l) = g.length + runN 1 l := run_more 1 g l hg
  have hd : (g ++ l).drop (runN 1 (g ++ l)) = l.drop (runN 1 l) := by rw [hr, List.drop_append]; simp
  conv => lhs; unfold lexF
  conv => rhs; unfold lexF
  rw [hd, hr, List.length_append, ← Nat.add_assoc off g.length l.length, ← Nat.add_assoc off g.length (runN 1 l)]
theorem behind_blank {m : List UInt8} (hm : ∀ c ∈ m, isKind 1 c = true) : ∀ b ∈ m.head?, isKind 1 b = true := by
  cases m with
  | nil => intro b hb; simp at hb
  | cons c m => intro b hb; simp at hb; subst hb; exact hm _ (by simp)
theorem run_all_of {k : Int} {l : List UInt8} (h : l.drop (runN k l) = []) : ∀ c ∈ l, isKind k c = true := by
  have hl : l.take (runN k l) = l := List.take_of_length_le (by
    have := congrArg List.length h
    rw [List.length_drop, List.length_nil] at this
    omega)
  intro c hc
  rw [← hl] at hc
  exact run_all k l c hc
/-- Blanks behind. -/
theorem lex_rear (m : List UInt8) (hm : ∀ c ∈ m, isKind 1 c = true) : ∀ (f off cnt : Nat) (l : List UInt8), l.length < f →
    lexF f off cnt (l ++ m) = ((lexF f off cnt l).1, (if (lexF f off cnt l).2.2 = 0 then (lexF f off cnt l).2.1 + m.length else (lexF f off cnt l).2.1), (lexF f off cnt l).2.2) := by
  intro f
  induction f with
  | zero => intro off cnt l h; omega
  | succ f ih =>
    intro off cnt l hl
    by_cases hd : l.drop (runN 1 l) = []
    · have hall := run_all_of hd
      have hr : runN 1 (l ++ m) = l.length + m.length := by
        rw [run_more 1 l m hall]
        have := run_more 1 m [] hm
        rw [List.append_nil, runN_nil] at this
        omega
      have hd2 : (l ++ m).drop (runN 1 (l ++ m)) = [] := List.drop_of_length_le (by rw [hr, List.length_append]; exact Nat.le_refl _)
      have e1 : lexF (f + 1) off cnt (l ++ m) = ([], off + (l ++ m).length, 0) := by unfold lexF; rw [if_pos hd2]
      have e2 : lexF (f + 1) off cnt l = ([], off + l.length, 0) := by unfold lexF; rw [if_pos hd]
      rw [e1, e2, if_pos rfl, List.length_append]
      simp; omega
    · have hlt : runN 1 l < l.length := by
        have := runN_le 1 l
        rcases Nat.lt_or_ge (runN 1 l) l.length with h | h
        · exact h
        · exact absurd (List.drop_of_length_le h) hd
      have hr : runN 1 (l ++ m) = runN 1 l := by
        have e : l = l.take (runN 1 l) ++ l.drop (runN 1 l) := (List.take_append_drop _ _).symm
        conv => lhs; rw [e, List.append_assoc]
        rw [run_more 1 _ _ (run_all 1 l), List.length_take]
        have h0 : runN 1 (l.drop (runN 1 l) ++ m) = 0 := by
          cases hq : l.drop (runN 1 l) with
          | nil => exact absurd hq hd
          | cons c r =>
            have := run_zero_head (run_behind 1 l)
            rw [hq] at this
            rw [List.cons_append]
            exact runN_no (this c (by simp)) _
        rw [h0]; omega
      have hdm : (l ++ m).drop (runN 1 (l ++ m)) = l.drop (runN 1 l) ++ m := by rw [hr, List.drop_append_of_le_length (by omega)]
      have hdm0 : ¬ (l ++ m).drop (runN 1 (l ++ m)) = [] := by rw [hdm]; intro h; exact hd (List.append_eq_nil_iff.1 h).1
      obtain ⟨t1, t2, t3⟩ := tok_bad hd m (behind_blank hm)
      by_cases hc : cnt = 200
      · have e1 : lexF (f + 1) off cnt (l ++ m) = ([], off + runN 1 l, 4) := by unfold lexF; rw [if_neg hdm0, if_pos hc, hr]
        have e2 : lexF (f + 1) off cnt l = ([], off + runN 1 l, 4) := by unfold lexF; rw [if_neg hd, if_pos hc]
        rw [e1, e2]; rfl
      · by_cases he : tokE (l.drop (runN 1 l)) = 0
        · have hn := tokN_le (l.drop (runN 1 l))
          have hpos := tokN_pos he
          have hlen : ((l.drop (runN 1 l)).drop (tokN (l.drop (runN 1 l)))).length < f := by
            rw [List.length_drop, List.length_drop]; rw [List.length_drop] at hn; omega
          have := ih (off + runN 1 l + tokN (l.drop (runN 1 l))) (cnt + 1) _ hlen
          conv => lhs; unfold lexF
          rw [if_neg hdm0, if_neg hc, hdm, hr, t1, if_pos he, t2, t3, List.drop_append_of_le_length hn, this, List.take_append_of_le_length hn]
          conv => rhs; unfold lexF
          rw [if_neg hd, if_neg hc, if_pos he]
        · have e1 : lexF (f + 1) off cnt (l ++ m) = ([], off + runN 1 l, tokE (l.drop (runN 1 l))) := by
            unfold lexF; rw [if_neg hdm0, if_neg hc, hdm, t1, if_neg he, hr]
          have e2 : lexF (f + 1) off cnt l = ([], off + runN 1 l, tokE (l.drop (runN 1 l))) := by unfold lexF; rw [if_neg hd, if_neg hc, if_neg he]
          rw [e1, e2]
          simp only
          rw [if_neg he]

/-! ### One step, plainly -/
theorem lex_end {f off cnt : Nat} {l : List UInt8} (h : l.drop (runN 1 l) = []) : lexF (f + 1) off cnt l = ([], off + l.length, 0) := by
  conv => lhs; unfold lexF
  rw [if_pos h]
theorem lex_many {f off cnt : Nat} {l : List UInt8} (h : ¬ l.drop (runN 1 l) = []) (hc : cnt = 200) : lexF (f + 1) off cnt l = ([], off + runN 1 l, 4) := by
  conv => lhs; unfold lexF
  rw [if_neg h, if_pos hc]
theorem lex_bad {f off cnt : Nat} {l : List UInt8} (h : ¬ l.drop (runN 1 l) = []) (hc : ¬ cnt = 200) (he : ¬ tokE (l.drop (runN 1 l)) = 0) : lexF (f + 1) off cnt l = ([], off + runN 1 l, tokE (l.drop (runN 1 l))) := by
  conv => lhs; unfold lexF
  rw [if_neg h, if_neg hc, if_neg he]
theorem lex_one {f off cnt : Nat} {l r : List UInt8} (hr : l.drop (runN 1 l) = r) (h : ¬ r = []) (hc : ¬ cnt = 200) (he : tokE r = 0) :
    lexF (f + 1) off cnt l = (⟨tokK r, ((off + runN 1 l : Nat) : Int), r.take (tokN r)⟩ :: (lexF f (off + runN 1 l + tokN r) (cnt + 1) (r.drop (tokN r))).1, (lexF f (off + runN 1 l + tokN r) (cnt + 1) (r.drop (tokN r))).2) := by
  conv => lhs; unfold lexF
  rw [hr, if_neg h, if_neg hc, if_pos he]
theorem drop_run_lt {k : Int} {l : List UInt8} (h : ¬ l.drop (runN k l) = []) : runN k l < l.length := by
  rcases Nat.lt_or_ge (runN k l) l.length with h' | h'
  · exact h'
  · exact absurd (List.drop_of_length_le h') h
theorem rest_lt {l : List UInt8} (_h : ¬ l.drop (runN 1 l) = []) (he : tokE (l.drop (runN 1 l)) = 0) {f : Nat} (hl : l.length < f + 1) : ((l.drop (runN 1 l)).drop (tokN (l.drop (runN 1 l)))).length < f := by
  have hn := tokN_le (l.drop (runN 1 l))
  have hp := tokN_pos he
  rw [List.length_drop, List.length_drop]
  rw [List.length_drop] at hn
  omega
theorem head_take {m : List UInt8} {p : Nat} (_h : 0 < p) : (m.take p).head? = m.head? := by
  cases m with
  | nil => simp
  | cons c m =>
    cases p with
    | zero => omega
    | succ p => rfl
theorem behind_take (r : List UInt8) (p : Nat) : Behind r ((r.drop (tokN r)).take p) (tokN r) := by
  rcases Nat.eq_zero_or_pos p with rfl | h
  · exact .inl (by intro b hb; simp at hb)
  · exact .inr (head_take h)

/-! ### Errors -/
theorem lex_fault : ∀ (f off cnt : Nat) (l : List UInt8), l.length < f → (lexF f off cnt l).2.2 ≠ 0 →
    ∃ p, ∃ hp : p < l.length, (lexF f off cnt l).2.1 = off + p ∧ isKind 1 l[p] = false ∧ (lexF f off cnt (l.take p)).2 = (off + p, 0) ∧ ((lexF f off cnt l).2.2 = 4 ∨ (lexF f off cnt l).2.2 = tokE (l.drop p)) := by
  intro f
  induction f with
  | zero => intro off cnt l h; omega
  | succ f ih =>
    intro off cnt l hl hne
    by_cases hd : l.drop (runN 1 l) = []
    · rw [lex_end hd] at hne; exact absurd rfl hne
    have hlt := drop_run_lt hd
    have hhead : isKind 1 l[runN 1 l] = false := by
      have := run_zero_head (run_behind 1 l)
      refine this _ ?_
      rw [List.head?_drop, List.getElem?_eq_getElem hlt]; rfl
    have hrun : runN 1 (l.take (runN 1 l)) = runN 1 l := run_cut 1 l _ (Nat.le_refl _)
    have htake : lexF (f + 1) off cnt (l.take (runN 1 l)) = ([], off + runN 1 l, 0) := by
      rw [lex_end (List.drop_of_length_le (by rw [hrun, List.length_take]; omega)), List.length_take, Nat.min_eq_left (by omega)]
    by_cases hc : cnt = 200
    · have e := lex_many (f := f) (off := off) hd hc
      refine ⟨runN 1 l, hlt, ?_, hhead, ?_, ?_⟩
      · rw [e]
      · rw [htake]
      · rw [e]; exact .inl rfl
    · by_cases he : tokE (l.drop (runN 1 l)) = 0
      · have e := lex_one (f := f) (off := off) rfl hd hc he
        have hl2 := rest_lt hd he hl
        rw [e] at hne
        obtain ⟨p, hp, q1, q2, q3, q4⟩ := ih (off + runN 1 l + tokN (l.drop (runN 1 l))) (cnt + 1) _ hl2 hne
        have hn := tokN_le (l.drop (runN 1 l))
        have hpos := tokN_pos he
        have hp2 := hp
        rw [List.length_drop, List.length_drop] at hp2
        rw [List.length_drop] at hn
        refine ⟨runN 1 l + tokN (l.drop (runN 1 l)) + p, by omega, ?_, ?_, ?_, ?_⟩
        · rw [e]; simp only; rw [q1]; omega
        · rw [← q2]; congr 1; rw [List.getElem_drop, List.getElem_drop]; congr 1; omega
        · have hr2 : runN 1 (l.take (runN 1 l + tokN (l.drop (runN 1 l)) + p)) = runN 1 l := run_cut 1 l _ (by omega)
          have hd2 : (l.take (runN 1 l + tokN (l.drop (runN 1 l)) + p)).drop (runN 1 l) = (l.drop (runN 1 l)).take (tokN (l.drop (runN 1 l))) ++ ((l.drop (runN 1 l)).drop (tokN (l.drop (runN 1 l)))).take p := by
            rw [List.drop_take, show runN 1 l + tokN (l.drop (runN 1 l)) + p - runN 1 l = tokN (l.drop (runN 1 l)) + p by omega, List.take_add]
          obtain ⟨t1, t2, t3⟩ := tok_next he (((l.drop (runN 1 l)).drop (tokN (l.drop (runN 1 l)))).take p) (behind_take _ _)
          have e2 := lex_one (f := f) (off := off) (cnt := cnt) (l := l.take (runN 1 l + tokN (l.drop (runN 1 l)) + p)) (by rw [hr2]; exact hd2) (by
            intro h
            have h2 := congrArg List.length (List.append_eq_nil_iff.1 h).1
            rw [List.length_take, List.length_drop, List.length_nil] at h2
            omega) hc t3
          rw [e2, hr2, t2]
          simp only
          rw [List.drop_left' (by rw [List.length_take, List.length_drop]; omega), q3]
          congr 1; omega
        · rw [e]; simp only
          rcases q4 with q4 | q4
          · exact .inl q4
          · refine .inr ?_
            rw [q4, List.drop_drop, List.drop_drop]
            congr 2; omega
      · have e := lex_bad (f := f) (off := off) hd hc he
        refine ⟨runN 1 l, hlt, ?_, hhead, ?_, ?_⟩
        · rw [e]
        · rw [htake]
        · rw [e]; exact .inr rfl

/-! ### Blanks between -/
theorem lex_insert (g : List UInt8) (hg : ∀ c ∈ g, isKind 1 c = true) : ∀ (f f2 off cnt : Nat) (l : List UInt8) (i : Nat) (hi : i < (lexF f off cnt l).1.length), l.length < f → l.length + g.length < f2 → (lexF f off cnt l).2.2 = 0 →
    ∃ c, ((lexF f off cnt l).1[i]).at_ = ((off + c : Nat) : Int) ∧ c ≤ l.length ∧ (lexF f2 off cnt (l.take c ++ (g ++ l.drop c))).1.map core = (lexF f off cnt l).1.map core ∧ (lexF f2 off cnt (l.take c ++ (g ++ l.drop c))).2.2 = 0 := by
  intro f
  induction f with
  | zero => intro f2 off cnt l i hi h; omega
  | succ f ih =>
    intro f2 off cnt l i hi hl hl2 hok
    by_cases hd : l.drop (runN 1 l) = []
    · rw [lex_end hd] at hi; simp at hi
    have hlt := drop_run_lt hd
    by_cases hc : cnt = 200
    · rw [lex_many hd hc] at hok; simp at hok
    by_cases he : tokE (l.drop (runN 1 l)) = 0
    · have e := lex_one (f := f) (off := off) rfl hd hc he
      have hrest := rest_lt hd he hl
      have hn := tokN_le (l.drop (runN 1 l))
      have hpos := tokN_pos he
      rw [List.length_drop] at hn
      obtain ⟨f3, rfl⟩ : ∃ f3, f2 = f3 + 1 := ⟨f2 - 1, by omega⟩
      cases i with
      | zero =>
        refine ⟨runN 1 l, ?_, by omega, ?_⟩
        · simp only [e, List.getElem_cons_zero]
        · have hall : ∀ c ∈ l.take (runN 1 l) ++ g, isKind 1 c = true := by
            intro c hcm
            rcases List.mem_append.1 hcm with h | h
            · exact run_all 1 l c h
            · exact hg c h
          have hr0 : runN 1 (l.drop (runN 1 l)) = 0 := run_behind 1 l
          have hd0 : (l.drop (runN 1 l)).drop (runN 1 (l.drop (runN 1 l))) = l.drop (runN 1 l) := by rw [hr0, List.drop_zero]
          have e2 := lex_one (f := f3) (off := off + (l.take (runN 1 l) ++ g).length) (cnt := cnt) hd0 hd hc he
          rw [← List.append_assoc, lex_front _ _ _ _ _ hall, e2, e, hr0]
          have hmv := lex_moved g.length f3 (off + runN 1 l + tokN (l.drop (runN 1 l))) (cnt + 1) ((l.drop (runN 1 l)).drop (tokN (l.drop (runN 1 l))))
          have hoff : off + (l.take (runN 1 l) ++ g).length + 0 + tokN (l.drop (runN 1 l)) = off + runN 1 l + tokN (l.drop (runN 1 l)) + g.length := by
            rw [List.length_append, List.length_take]; omega
          have hb3 : ((l.drop (runN 1 l)).drop (tokN (l.drop (runN 1 l)))).length < f3 := by rw [List.length_drop, List.length_drop]; omega
          rw [hoff, hmv, lex_fuel f3 f _ _ _ hb3 hrest]
          rw [e] at hok
          constructor
          · simp only [List.map_cons, core_moved]; rfl
          · exact hok
      | succ i =>
        have hi2 : i < (lexF f (off + runN 1 l + tokN (l.drop (runN 1 l))) (cnt + 1) ((l.drop (runN 1 l)).drop (tokN (l.drop (runN 1 l))))).1.length := by
          simp only [e, List.length_cons] at hi; omega
        rw [e] at hok
        have hlen2 : ((l.drop (runN 1 l)).drop (tokN (l.drop (runN 1 l)))).length = l.length - runN 1 l - tokN (l.drop (runN 1 l)) := by rw [List.length_drop, List.length_drop]
        obtain ⟨c, q1, q2, q3, q4⟩ := ih f3 (off + runN 1 l + tokN (l.drop (runN 1 l))) (cnt + 1) _ i hi2 hrest (by omega) hok
        rw [hlen2] at q2
        refine ⟨runN 1 l + tokN (l.drop (runN 1 l)) + c, ?_, by omega, ?_⟩
        · simp only [e, List.getElem_cons_succ, q1]; omega
        · -- the text with the blanks laid in
          have hsplit : l.take (runN 1 l + tokN (l.drop (runN 1 l)) + c) = l.take (runN 1 l) ++ ((l.drop (runN 1 l)).take (tokN (l.drop (runN 1 l))) ++ ((l.drop (runN 1 l)).drop (tokN (l.drop (runN 1 l)))).take c) := by
            rw [Nat.add_assoc, List.take_add, List.take_add]
          have hdrop : l.drop (runN 1 l + tokN (l.drop (runN 1 l)) + c) = ((l.drop (runN 1 l)).drop (tokN (l.drop (runN 1 l)))).drop c := by
            rw [List.drop_drop, List.drop_drop, Nat.add_assoc]
          obtain ⟨m, hm⟩ : ∃ m, ((l.drop (runN 1 l)).drop (tokN (l.drop (runN 1 l)))).take c ++ (g ++ ((l.drop (runN 1 l)).drop (tokN (l.drop (runN 1 l)))).drop c) = m := ⟨_, rfl⟩
          have hwhole : l.take (runN 1 l + tokN (l.drop (runN 1 l)) + c) ++ (g ++ l.drop (runN 1 l + tokN (l.drop (runN 1 l)) + c)) = l.take (runN 1 l) ++ ((l.drop (runN 1 l)).take (tokN (l.drop (runN 1 l))) ++ m) := by
            rw [hsplit, hdrop, ← hm]; simp only [List.append_assoc]
          have hbeh : Behind (l.drop (runN 1 l)) m (tokN (l.drop (runN 1 l))) := by
            rw [← hm]
            rcases Nat.eq_zero_or_pos c with rfl | hcp
            · rw [List.take_zero, List.nil_append, List.drop_zero]
              cases g with
              | nil => exact .inr rfl
              | cons b g => exact .inl (by intro x hx; simp at hx; subst hx; exact hg _ (by simp))
            · cases hq : (l.drop (runN 1 l)).drop (tokN (l.drop (runN 1 l))) with
              | nil =>
                rw [List.take_nil, List.nil_append, List.drop_nil, List.append_nil]
                exact .inl (behind_blank hg)
              | cons b r =>
                refine .inr ?_
                obtain ⟨c2, rfl⟩ : ∃ c2, c = c2 + 1 := ⟨c - 1, by omega⟩
                rw [hq]; rfl
          obtain ⟨t1, t2, t3⟩ := tok_next he m hbeh
          have hne : ¬ (l.drop (runN 1 l)).take (tokN (l.drop (runN 1 l))) ++ m = [] := by
            intro h
            have h2 := congrArg List.length (List.append_eq_nil_iff.1 h).1
            rw [List.length_take, List.length_drop, List.length_nil] at h2
            omega
          have hr1 : runN 1 ((l.drop (runN 1 l)).take (tokN (l.drop (runN 1 l))) ++ m) = 0 := by
            refine run_head ?_
            have := run_zero_head (run_behind 1 l)
            intro b hb
            refine this b ?_
            rw [List.head?_append, head_take hpos] at hb
            cases hq : (l.drop (runN 1 l)).head? with
            | none =>
              rw [List.head?_eq_none_iff] at hq
              exact absurd hq hd
            | some x => rw [hq] at hb; exact hb
          have hrun : runN 1 (l.take (runN 1 l) ++ ((l.drop (runN 1 l)).take (tokN (l.drop (runN 1 l))) ++ m)) = runN 1 l := by
            rw [run_more 1 _ _ (run_all 1 l), hr1, List.length_take]; omega
          have hdr : (l.take (runN 1 l) ++ ((l.drop (runN 1 l)).take (tokN (l.drop (runN 1 l))) ++ m)).drop (runN 1 (l.take (runN 1 l) ++ ((l.drop (runN 1 l)).take (tokN (l.drop (runN 1 l))) ++ m))) = (l.drop (runN 1 l)).take (tokN (l.drop (runN 1 l))) ++ m := by
            rw [hrun]
            exact List.drop_left' (by rw [List.length_take]; omega)
          have e2 := lex_one (f := f3) (off := off) (cnt := cnt) hdr hne hc t3
          rw [hwhole, e2, hrun, t1, t2, e]
          have hdl : ((l.drop (runN 1 l)).take (tokN (l.drop (runN 1 l))) ++ m).drop (tokN (l.drop (runN 1 l))) = m := List.drop_left' (by rw [List.length_take, List.length_drop]; omega)
          have htl : ((l.drop (runN 1 l)).take (tokN (l.drop (runN 1 l))) ++ m).take (tokN (l.drop (runN 1 l))) = (l.drop (runN 1 l)).take (tokN (l.drop (runN 1 l))) := List.take_left' (by rw [List.length_take, List.length_drop]; omega)
          rw [hdl, htl, ← hm]
          constructor
          · simp only [List.map_cons, q3]
          · exact q4
    · rw [lex_bad hd hc he] at hok; exact absurd hok he

/-! ### Tokens and gaps -/
theorem token_valid {r : List UInt8} (h : tokE r = 0) : validB (tokK r) (r.take (tokN r)) = true := by
  cases r with
  | nil => simp [tokE] at h
  | cons c l =>
    cases h2 : isKind 2 c with
    | true =>
      obtain ⟨e1, e2, e3⟩ := tok_two h2 l
      rw [e3] at h
      rw [e1, e2]
      show (rdE _ == 0) = true
      rw [h]; rfl
    | false =>
      cases h3 : isKind 3 c with
      | true =>
        obtain ⟨e1, e2, e3⟩ := tok_three h2 h3 l
        rw [e3] at h
        rw [e1, e2]
        show wordB _ = true
        cases hw : wordB ((c :: l).take (runN 3 (c :: l))) with
        | true => rfl
        | false => rw [hw] at h; simp at h
      | false =>
        obtain ⟨e1, e2, e3⟩ := tok_other h2 h3 l
        rw [e3] at h
        have hn : ¬ symL (c :: l) = 0 := by intro h0; rw [if_pos h0] at h; simp at h
        rw [e1, e2, if_neg hn]
        show decide _ = true
        rw [decide_eq_true_iff, sym_own, List.length_take]
        have := (sym_le (c :: l)).2
        omega
/-- From place a on: only blanks up to the first token, which stands there and is valid; then the rest. -/
def Covers (l : List UInt8) : Nat → List Tok → Prop
  | a, [] => ∀ k, a ≤ k → (h : k < l.length) → isKind 1 l[k] = true
  | a, t :: ts => ∃ p : Nat, t.at_ = (p : Int) ∧ a ≤ p ∧ p + t.text.length ≤ l.length ∧ (l.drop p).take t.text.length = t.text ∧ 0 < t.text.length ∧ (∀ k, a ≤ k → k < p → (h : k < l.length) → isKind 1 l[k] = true) ∧ validT t = true ∧ Covers l (p + t.text.length) ts
theorem run_at {l : List UInt8} {a k : Nat} (h1 : a ≤ k) (h2 : k < a + runN 1 (l.drop a)) (h : k < l.length) : isKind 1 l[k] = true := by
  have hm : l[k] ∈ (l.drop a).take (runN 1 (l.drop a)) := by
    rw [List.mem_take_iff_getElem]
    refine ⟨k - a, by rw [List.length_drop]; omega, ?_⟩
    rw [List.getElem_drop]
    congr 1; omega
  exact run_all 1 _ _ hm
theorem lex_covers : ∀ (f off cnt : Nat) (l : List UInt8), off ≤ l.length → l.length - off < f → (lexF f off cnt (l.drop off)).2.2 = 0 → Covers l off (lexF f off cnt (l.drop off)).1 ∧ (lexF f off cnt (l.drop off)).2.1 = l.length := by
  intro f
  induction f with
  | zero => intro off cnt l _ h; omega
  | succ f ih =>
    intro off cnt l ho hl hok
    by_cases hd : (l.drop off).drop (runN 1 (l.drop off)) = []
    · have e := lex_end (f := f) (off := off) (cnt := cnt) hd
      have hle : l.length - off ≤ runN 1 (l.drop off) := by
        have := congrArg List.length hd
        rw [List.length_drop, List.length_drop, List.length_nil] at this
        omega
      rw [e]
      refine ⟨?_, ?_⟩
      · intro k h1 h2
        exact run_at h1 (by omega) h2
      · rw [List.length_drop]; simp only; omega
    have hlt := drop_run_lt hd
    rw [List.length_drop] at hlt
    by_cases hc : cnt = 200
    · rw [lex_many hd hc] at hok; simp at hok
    by_cases he : tokE ((l.drop off).drop (runN 1 (l.drop off))) = 0
    · have e := lex_one (f := f) (off := off) rfl hd hc he
      have hn := tokN_le ((l.drop off).drop (runN 1 (l.drop off)))
      have hpos := tokN_pos he
      rw [List.length_drop, List.length_drop] at hn
      have hv := token_valid he
      rw [e] at hok ⊢
      have hdd : ((l.drop off).drop (runN 1 (l.drop off))).drop (tokN ((l.drop off).drop (runN 1 (l.drop off)))) = l.drop (off + runN 1 (l.drop off) + tokN ((l.drop off).drop (runN 1 (l.drop off)))) := by
        rw [List.drop_drop, List.drop_drop, ← Nat.add_assoc]
      have hlen : (((l.drop off).drop (runN 1 (l.drop off))).take (tokN ((l.drop off).drop (runN 1 (l.drop off))))).length = tokN ((l.drop off).drop (runN 1 (l.drop off))) := by
        rw [List.length_take, List.length_drop, List.length_drop]; omega
      rw [hdd] at hok ⊢
      obtain ⟨q1, q2⟩ := ih (off + runN 1 (l.drop off) + tokN ((l.drop off).drop (runN 1 (l.drop off)))) (cnt + 1) l (by omega) (by omega) hok
      refine ⟨⟨off + runN 1 (l.drop off), rfl, by omega, ?_, ?_, ?_, ?_, hv, ?_⟩, q2⟩
      · rw [hlen]; omega
      · rw [hlen, ← List.drop_drop]
      · rw [hlen]; exact hpos
      · intro k h1 h2 h3; exact run_at h1 h2 h3
      · rw [hlen]; exact q1
    · rw [lex_bad hd hc he] at hok; exact absurd hok he

/-! ### Tokens joined are read -/
theorem dig_kind {c : UInt8} (h : isDig c = true) : isKind 2 c = true := by
  unfold isDig at h
  simp only [Bool.and_eq_true, decide_eq_true_eq] at h
  unfold isKind
  rw [decide_eq_true_iff]
  exact kind_digit (by omega)
theorem one_kinds {a : UInt8} (h : oneB a = true) : isKind 1 a = false ∧ isKind 2 a = false ∧ isKind 3 a = false := by
  rcases one_cases h with rfl | rfl | rfl | rfl | rfl | rfl | rfl | rfl <;> decide
theorem two_kinds {a b : UInt8} (h : twoB a b = true) : isKind 1 a = false ∧ isKind 2 a = false ∧ isKind 3 a = false := by
  rcases two_cases h with ⟨rfl, _⟩ | ⟨rfl, _⟩ | ⟨rfl, _⟩ <;> decide
/-- A valid token in front of nothing, or of a blank, is read. -/
theorem valid_read {t : Tok} (hv : validT t = true) (m : List UInt8) (hm : ∀ b ∈ m.head?, isKind 1 b = true) :
    t.text ≠ [] ∧ runN 1 (t.text ++ m) = 0 ∧ tokK (t.text ++ m) = t.kind ∧ tokN (t.text ++ m) = t.text.length ∧ tokE (t.text ++ m) = 0 := by
  obtain ⟨k, a, l⟩ := t
  unfold validT validB at hv
  simp only at hv ⊢
  have hrun : ∀ j, 1 ≠ j → runN j m = 0 := fun j hj => run_head fun b hb => kinds_apart (hm b hb) hj
  split at hv
  · rename_i hk
    subst hk
    have hr : rdE l = 0 := by simpa using hv
    have hd : digB l = true := by
      unfold rdE at hr
      cases h : digB l with
      | true => rfl
      | false => rw [h] at hr; simp at hr
    unfold digB at hd
    simp only [Bool.and_eq_true, Bool.not_eq_true'] at hd
    have hall : ∀ c ∈ l, isKind 2 c = true := fun c hc => dig_kind (List.all_eq_true.1 hd.2 c hc)
    cases l with
    | nil => simp at hd
    | cons c l =>
      have hc := hall c (by simp)
      have hlen := run_stop 2 (c :: l) m hall (hrun 2 (by decide))
      obtain ⟨e1, e2, e3⟩ := tok_two hc (l ++ m)
      rw [List.cons_append] at hlen ⊢
      refine ⟨by simp, runN_no (kinds_apart hc (by decide)) _, e1, by rw [e2, hlen], ?_⟩
      rw [e3, hlen, ← List.cons_append, List.take_left' rfl]
      exact hr
  split at hv
  · rename_i _ hk
    subst hk
    obtain ⟨h1, _, _, h4⟩ := word_is hv
    have hall : ∀ c ∈ l, isKind 3 c = true := fun c hc => decide_eq_true (h4 c hc)
    cases l with
    | nil => simp at h1
    | cons c l =>
      have hc := hall c (by simp)
      have hlen := run_stop 3 (c :: l) m hall (hrun 3 (by decide))
      obtain ⟨e1, e2, e3⟩ := tok_three (kinds_apart hc (by decide)) hc (l ++ m)
      rw [List.cons_append] at hlen ⊢
      refine ⟨by simp, runN_no (kinds_apart hc (by decide)) _, e1, by rw [e2, hlen], ?_⟩
      rw [e3, hlen, ← List.cons_append, List.take_left' rfl, hv]
      rfl
  split at hv
  · rename_i _ _ hk
    subst hk
    rw [decide_eq_true_iff] at hv
    obtain ⟨hpos, hs⟩ := hv
    have hn : symL l ≠ 0 := by omega
    have hb := sym_behind hn (m := m) (.inl hm)
    rw [hs, List.take_length] at hb
    cases l with
    | nil => simp at hpos
    | cons c l =>
      have hkinds : isKind 1 c = false ∧ isKind 2 c = false ∧ isKind 3 c = false := by
        cases l with
        | nil =>
          cases h1 : oneB c with
          | true => exact one_kinds h1
          | false => simp [symL, h1] at hn
        | cons d l =>
          cases h2 : twoB c d with
          | true => exact two_kinds h2
          | false =>
            cases h1 : oneB c with
            | true => exact one_kinds h1
            | false => simp [symL, h1, h2] at hn
      obtain ⟨k1, k2, k3⟩ := hkinds
      rw [List.cons_append] at hb ⊢
      obtain ⟨e1, e2, e3⟩ := tok_other k2 k3 (l ++ m)
      have hne : ¬ symL (c :: (l ++ m)) = 0 := by rw [hb]; simp
      refine ⟨by simp, runN_no k1 _, by rw [e1, if_neg hne], by rw [e2, hb], by rw [e3, if_neg hne]⟩
  · simp at hv
/-- The texts of tokens with a blank between any two, from the front. -/
def joinR : List Tok → List UInt8
  | [] => []
  | t :: ts => t.text ++ (match ts with | [] => [] | _ :: _ => 32 :: joinR ts)
theorem joinR_cons (t u : Tok) (ts : List Tok) : joinR (t :: u :: ts) = t.text ++ 32 :: joinR (u :: ts) := rfl
theorem joinR_one (t : Tok) : joinR [t] = t.text := by simp [joinR]
theorem joinR_snoc (ts : List Tok) (t : Tok) (h : ts ≠ []) : joinR (ts ++ [t]) = joinR ts ++ [32] ++ t.text := by
  induction ts with
  | nil => exact absurd rfl h
  | cons u ts ih =>
    cases ts with
    | nil => rw [List.cons_append, List.nil_append, joinR_cons, joinR_one, joinR_one]; simp
    | cons x ts =>
      rw [List.cons_append, List.cons_append, joinR_cons, ← List.cons_append, ih (by simp), joinR_cons]
      simp
theorem joinN_take (ts : List Tok) : ∀ k, k ≤ ts.length → joinN ts k = joinR (ts.take k) := by
  intro k
  induction k with
  | zero => intro _; rfl
  | succ k ih =>
    intro hk
    rw [List.take_succ_eq_append_getElem (by omega)]
    rcases Nat.eq_zero_or_pos k with rfl | h0
    · rw [joinN_one (by omega)]
      rw [List.take_zero, List.nil_append, joinR_one]
    · rw [joinN_succ h0 (by omega), ih (by omega), joinR_snoc _ _ (by
        intro h; have := congrArg List.length h; rw [List.length_take, List.length_nil] at this; omega)]
theorem joinN_all (ts : List Tok) : joinN ts ts.length = joinR ts := by rw [joinN_take ts _ (Nat.le_refl _), List.take_length]
theorem lex_joined : ∀ (ts : List Tok) (f off cnt : Nat), ts.all validT = true → cnt + ts.length ≤ 200 → (joinR ts).length < f →
    (lexF f off cnt (joinR ts)).1.map core = ts.map core ∧ (lexF f off cnt (joinR ts)).2 = (off + (joinR ts).length, 0) := by
  intro ts
  induction ts with
  | nil =>
    intro f off cnt _ _ hf
    cases f with
    | zero => simp at hf
    | succ f => rw [show joinR [] = [] from rfl, lex_end (by simp)]; exact ⟨rfl, rfl⟩
  | cons t ts ih =>
    intro f off cnt hall hc hf
    rw [List.all_cons, Bool.and_eq_true] at hall
    rw [List.length_cons] at hc
    obtain ⟨f2, rfl⟩ : ∃ f2, f = f2 + 1 := ⟨f - 1, by omega⟩
    obtain ⟨m, hm, hJ⟩ : ∃ m, (∀ b ∈ m.head?, isKind 1 b = true) ∧ joinR (t :: ts) = t.text ++ m := by
      cases ts with
      | nil => exact ⟨[], by intro b hb; simp at hb, by rw [joinR_one, List.append_nil]⟩
      | cons u ts => exact ⟨32 :: joinR (u :: ts), by intro b hb; simp at hb; subst hb; decide, joinR_cons t u ts⟩
    obtain ⟨v1, v2, v3, v4, v5⟩ := valid_read hall.1 m hm
    have hd : (t.text ++ m).drop (runN 1 (t.text ++ m)) = t.text ++ m := by rw [v2, List.drop_zero]
    have hne : ¬ t.text ++ m = [] := fun h => v1 (List.append_eq_nil_iff.1 h).1
    have e := lex_one (f := f2) (off := off) hd hne (cnt := cnt) (by omega) v5
    have hpos : 0 < t.text.length := by
      rcases Nat.eq_zero_or_pos t.text.length with h | h
      · exact absurd (List.length_eq_zero_iff.1 h) v1
      · exact h
    rw [hJ, e, v2, v3, v4, List.drop_left' rfl, List.take_left' rfl]
    rw [hJ, List.length_append] at hf
    have hcore : core ⟨t.kind, ((off + 0 : Nat) : Int), t.text⟩ = core t := rfl
    cases ts with
    | nil =>
      have hm0 : m = [] := by
        rw [joinR_one] at hJ
        have := congrArg List.length hJ
        rw [List.length_append] at this
        exact List.length_eq_zero_iff.1 (by omega)
      subst hm0
      obtain ⟨f3, rfl⟩ : ∃ f3, f2 = f3 + 1 := ⟨f2 - 1, by omega⟩
      rw [lex_end (by simp)]
      constructor
      · simp only [List.map_cons, List.map_nil, hcore]
      · simp
    | cons u ts =>
      rw [joinR_cons] at hJ
      have hmm := List.append_cancel_left hJ
      subst hmm
      obtain ⟨f3, rfl⟩ : ∃ f3, f2 = f3 + 1 := ⟨f2 - 1, by omega⟩
      have hfr := lex_front f3 (off + 0 + t.text.length) (cnt + 1) [32] (joinR (u :: ts)) (by intro c hc; simp at hc; subst hc; decide)
      rw [List.cons_append, List.nil_append] at hfr
      rw [List.length_cons] at hf
      obtain ⟨q1, q2⟩ := ih (f3 + 1) (off + 0 + t.text.length + ([32] : List UInt8).length) (cnt + 1) hall.2 (by simpa using by simp at hc; omega) (by omega)
      rw [hfr]
      constructor
      · rw [List.map_cons, q1, hcore]; rfl
      · simp only
        rw [q2, List.length_append, List.length_cons]
        simp; omega
end Go.Proofs.YtdinaedknlkicaaGreatDoor

/-
  What layer 3's statements say of All's and Join's answers, over plain lists. No program in this text.
-/
import Derived.Test.YtdinaedknlkicaaGreatDoorLexLaws
namespace Go.Proofs.YtdinaedknlkicaaGreatDoor

theorem all_small {l : List UInt8} (h : l.length ≤ 400) : allV l = if (lexF (l.length + 1) 0 0 l).2.2 = 0 then lexF (l.length + 1) 0 0 l else ([], (lexF (l.length + 1) 0 0 l).2.1, (lexF (l.length + 1) 0 0 l).2.2) := by
  unfold allV; rw [if_neg (by omega)]
theorem all_err {l : List UInt8} (h : l.length ≤ 400) : (allV l).2 = (lexF (l.length + 1) 0 0 l).2 := by
  rw [all_small h]; split <;> rfl
theorem all_ok {l : List UInt8} (h : l.length ≤ 400) (he : (allV l).2.2 = 0) : allV l = lexF (l.length + 1) 0 0 l := by
  have := all_err h
  rw [all_small h, if_pos (by rw [← this]; exact he)]
theorem all_none {l : List UInt8} (he : (allV l).2.2 ≠ 0) : (allV l).1 = [] := by
  unfold allV at he ⊢
  split
  · rfl
  · rename_i h
    rw [if_neg h] at he
    simp only at he ⊢
    split
    · rename_i h2; rw [if_pos h2] at he; exact absurd h2 he
    · rfl
theorem all_from {f : Nat} {l : List UInt8} (h : l.length ≤ 400) (hf : l.length < f) {ts : List Tok} {n : Nat} (e : lexF f 0 0 l = (ts, n, 0)) : allV l = (ts, n, 0) := by
  have e2 : lexF (l.length + 1) 0 0 l = (ts, n, 0) := by rw [lex_fuel _ f _ _ _ (by omega) hf, e]
  rw [all_small h, e2]; rfl
theorem all_bad {f : Nat} {l : List UInt8} (h : l.length ≤ 400) (hf : l.length < f) {ts : List Tok} {n : Nat} {er : Int} (e : lexF f 0 0 l = (ts, n, er)) (he : er ≠ 0) : allV l = ([], n, er) := by
  have e2 : lexF (l.length + 1) 0 0 l = (ts, n, er) := by rw [lex_fuel _ f _ _ _ (by omega) hf, e]
  rw [all_small h, e2]
  simp only
  rw [if_neg he]

/-! ### Joined -/
theorem join_core {a b : List Tok} (h : a.map core = b.map core) : joinV a = joinV b := by
  have hl : a.length = b.length := by simpa using congrArg List.length h
  have hv : a.all validT = b.all validT := by
    have e : ∀ ts : List Tok, ts.all validT = (ts.map core).all (fun x => validB x.1 x.2) := fun ts => by rw [List.all_map]; rfl
    rw [e, e, h]
  have ht : ∀ k, joinN a k = joinN b k := by
    intro k
    induction k with
    | zero => rfl
    | succ k ih =>
      show (if k = 0 then [] else joinN a k ++ [32]) ++ ((a[k]?).map (·.text)).getD [] = (if k = 0 then [] else joinN b k ++ [32]) ++ ((b[k]?).map (·.text)).getD []
      have e : ∀ ts : List Tok, (ts[k]?).map (·.text) = ((ts.map core)[k]?).map (·.2) := fun ts => by
        rw [List.getElem?_map]
        cases ts[k]? <;> rfl
      rw [ih, e a, e b, h]
  unfold joinV
  rw [hl, hv, ht]
theorem join_err (ts : List Tok) : (joinV ts).2 = 0 ∨ (joinV ts).2 = 4 ∧ (joinV ts).1 = [] ∨ (joinV ts).2 = 8 ∧ ts.all validT = false ∨ (joinV ts).2 = 18 ∧ (joinV ts).1 = [] := by
  unfold joinV
  split
  · exact .inr (.inl ⟨rfl, rfl⟩)
  split
  · rename_i h; exact .inr (.inr (.inl ⟨rfl, h⟩))
  split
  · exact .inr (.inr (.inr ⟨rfl, rfl⟩))
  · exact .inl rfl
/-- Valid tokens joined are read as these. -/
theorem join_read {ts : List Tok} (hv : ts.all validT = true) (he : (joinV ts).2 = 0) :
    (allV (joinV ts).1).2 = ((joinV ts).1.length, 0) ∧ alikeB ts (allV (joinV ts).1).1 = true ∧ joinV (allV (joinV ts).1).1 = ((joinV ts).1, 0) := by
  have h200 : ts.length ≤ 200 := by
    rcases Nat.lt_or_ge 200 ts.length with h | h
    · unfold joinV at he; rw [if_pos h] at he; simp at he
    · exact h
  have h400 : (joinN ts ts.length).length ≤ 400 := by
    rcases Nat.lt_or_ge 400 (joinN ts ts.length).length with h | h
    · unfold joinV at he; rw [if_neg (by omega), if_neg (by rw [hv]; simp), if_pos h] at he; simp at he
    · exact h
  have e : joinV ts = (joinR ts, 0) := by
    unfold joinV
    rw [if_neg (by omega), if_neg (by rw [hv]; simp), if_neg (by omega), joinN_all]
  rw [joinN_all] at h400
  obtain ⟨q1, q2⟩ := lex_joined ts ((joinR ts).length + 1) 0 0 hv (by omega) (by omega)
  have ea : allV (joinR ts) = ((lexF ((joinR ts).length + 1) 0 0 (joinR ts)).1, (joinR ts).length, 0) :=
    all_from h400 (Nat.lt_succ_self _) (by rw [Nat.zero_add] at q2; exact Prod.ext rfl q2)
  rw [e]
  simp only
  rw [ea]
  refine ⟨rfl, ?_, ?_⟩
  · exact decide_eq_true q1.symm
  · rw [join_core q1, e]

/-! ### Blanks -/
theorem all_around {s g : List UInt8} (hg : ∀ c ∈ g, isKind 1 c = true) (hs : s.length ≤ 300) (hgl : g.length ≤ 20) :
    (allV (g ++ s ++ g)).2.2 = (allV s).2.2 ∧ alikeB (allV s).1 (allV (g ++ s ++ g)).1 = true ∧ ((allV s).2.2 ≠ 0 → (allV (g ++ s ++ g)).2.1 = (allV s).2.1 + g.length) := by
  have hlen : (g ++ s ++ g).length ≤ 400 := by simp only [List.length_append]; omega
  obtain ⟨f, hf⟩ : ∃ f, f = (g ++ s ++ g).length := ⟨_, rfl⟩
  have hfs : s.length < f + 1 := by rw [hf]; simp only [List.length_append]; omega
  have hfs2 : (s ++ g).length < f + 1 := by rw [hf]; simp only [List.length_append]; omega
  have e1 : lexF (f + 1) 0 0 (g ++ s ++ g) = lexF (f + 1) (0 + g.length) 0 (s ++ g) := by rw [List.append_assoc, lex_front f 0 0 g (s ++ g) hg]
  have e2 := lex_rear g hg (f + 1) (0 + g.length) 0 s hfs
  have e3 := lex_moved g.length (f + 1) 0 0 s
  have e4 : lexF (s.length + 1) 0 0 s = lexF (f + 1) 0 0 s := lex_fuel _ _ _ _ _ (by omega) hfs
  rw [e3] at e2
  rw [e2] at e1
  simp only at e1
  have a1 := all_err (l := s) (by omega)
  rw [e4] at a1
  have a2 := all_err hlen
  rw [← hf, e1] at a2
  simp only at a2
  have herr : (allV (g ++ s ++ g)).2.2 = (allV s).2.2 := by rw [a2, a1]
  refine ⟨herr, ?_, ?_⟩
  · by_cases h0 : (allV s).2.2 = 0
    · have o1 := all_ok (l := s) (by omega) h0
      have o2 := all_ok hlen (by rw [herr]; exact h0)
      rw [o1, o2, e4, ← hf, e1]
      exact decide_eq_true (core_moved _ _).symm
    · rw [all_none h0, all_none (by rw [herr]; exact h0)]; rfl
  · intro h0
    rw [a2, a1]
    rw [a1] at h0
    simp only
    rw [if_neg h0]
theorem all_between {s g : List UInt8} (hg : ∀ c ∈ g, isKind 1 c = true) (hs : s.length ≤ 300) (hgl : g.length ≤ 20) (he : (allV s).2.2 = 0) (i : Nat) (hi : i < (allV s).1.length) :
    ∃ c : Nat, (allV s).1[i].at_ = (c : Int) ∧ c ≤ s.length ∧ (allV (s.take c ++ g ++ s.drop c)).2.2 = 0 ∧ alikeB (allV s).1 (allV (s.take c ++ g ++ s.drop c)).1 = true := by
  have o1 := all_ok (l := s) (by omega) he
  have hok : (lexF (s.length + 1) 0 0 s).2.2 = 0 := by rw [← o1]; exact he
  have hi2 : i < (lexF (s.length + 1) 0 0 s).1.length := by rw [← o1]; exact hi
  obtain ⟨c, q1, q2, q3, q4⟩ := lex_insert g hg (s.length + 1) (s.length + g.length + 1) 0 0 s i hi2 (by omega) (by omega) hok
  have hlen : (s.take c ++ g ++ s.drop c).length ≤ 400 := by simp only [List.length_append, List.length_take, List.length_drop]; omega
  have hl2 : (s.take c ++ g ++ s.drop c).length < s.length + g.length + 1 := by simp only [List.length_append, List.length_take, List.length_drop]; omega
  rw [← List.append_assoc] at q3 q4
  have ea : allV (s.take c ++ g ++ s.drop c) = ((lexF (s.length + g.length + 1) 0 0 (s.take c ++ g ++ s.drop c)).1, (lexF (s.length + g.length + 1) 0 0 (s.take c ++ g ++ s.drop c)).2.1, 0) :=
    all_from hlen hl2 (Prod.ext rfl (Prod.ext rfl q4))
  refine ⟨c, ?_, q2, ?_, ?_⟩
  · have : (allV s).1[i] = (lexF (s.length + 1) 0 0 s).1[i] := by congr 1; rw [o1]
    rw [this, q1, Nat.zero_add]
  · rw [ea]
  · rw [ea, o1]
    exact decide_eq_true q3.symm

/-! ### Tokens and gaps; errors -/
theorem all_covers {s : List UInt8} (he : (allV s).2.2 = 0) : Covers s 0 (allV s).1 ∧ (allV s).2.1 = s.length := by
  rcases Nat.lt_or_ge 400 s.length with h | h
  · unfold allV at he; rw [if_pos h] at he; simp at he
  · have o1 := all_ok h he
    have hok : (lexF (s.length + 1) 0 0 s).2.2 = 0 := by rw [← o1]; exact he
    have := lex_covers (s.length + 1) 0 0 s (Nat.zero_le _) (by omega) (by rw [List.drop_zero]; exact hok)
    rw [List.drop_zero, ← o1] at this
    exact this
theorem all_fault {s : List UInt8} (hs : s.length ≤ 400) (he : (allV s).2.2 ≠ 0) :
    ∃ p, ∃ hp : p < s.length, (allV s).2.1 = p ∧ isKind 1 s[p] = false ∧ (allV (s.take p)).2 = (p, 0) ∧ ((allV s).2.2 = 4 ∨ (allV (s.drop p)).2 = (0, (allV s).2.2)) := by
  have a1 := all_err hs
  rw [a1] at he
  obtain ⟨p, hp, q1, q2, q3, q4⟩ := lex_fault (s.length + 1) 0 0 s (by omega) he
  rw [Nat.zero_add] at q1 q3
  refine ⟨p, hp, by rw [a1]; exact q1, q2, ?_, ?_⟩
  · have hl : (s.take p).length < s.length + 1 := by rw [List.length_take]; omega
    rw [all_from (f := s.length + 1) (by rw [List.length_take]; omega) hl (Prod.ext rfl q3)]
  · rw [a1]
    rcases q4 with q4 | q4
    · exact .inl q4
    · refine .inr ?_
      have hr : runN 1 (s.drop p) = 0 := run_head fun b hb => by
        rw [List.head?_drop, List.getElem?_eq_getElem hp] at hb
        simp at hb; subst hb; exact q2
      have hd : (s.drop p).drop (runN 1 (s.drop p)) = s.drop p := by rw [hr, List.drop_zero]
      have hne : ¬ (s.drop p).drop (runN 1 (s.drop p)) = [] := by
        rw [hd]; intro h; have := congrArg List.length h; rw [List.length_drop, List.length_nil] at this; omega
      have hte : ¬ tokE ((s.drop p).drop (runN 1 (s.drop p))) = 0 := by rw [hd, ← q4]; exact he
      have e := lex_bad (f := s.length) (off := 0) hne (cnt := 0) (by omega) hte
      rw [hd, hr, ← q4] at e
      rw [all_bad (by rw [List.length_drop]; omega) (by rw [List.length_drop]; omega) e he]
/-- The texts of All's tokens are parts of the text. -/
theorem covers_text (l : List UInt8) : ∀ (ts : List Tok) (a : Nat), Covers l a ts → (∀ t ∈ ts, t.text.length ≤ l.length) ∧ a + ts.length ≤ max a l.length
  | [], a, _ => ⟨by intro t ht; simp at ht, by simp; omega⟩
  | t :: ts, a, h => by
    obtain ⟨p, _, h1, h2, _, h3, _, _, h4⟩ := h
    obtain ⟨q1, q2⟩ := covers_text l ts _ h4
    refine ⟨?_, by simp only [List.length_cons]; omega⟩
    intro u hu
    rcases List.mem_cons.1 hu with rfl | hu
    · omega
    · exact q1 u hu
theorem all_texts (l : List UInt8) : (∀ t ∈ (allV l).1, t.text.length ≤ l.length) ∧ (allV l).1.length ≤ l.length := by
  by_cases he : (allV l).2.2 = 0
  · obtain ⟨q1, q2⟩ := covers_text l _ _ (all_covers he).1
    exact ⟨q1, by omega⟩
  · rw [all_none he]
    exact ⟨by intro t ht; simp at ht, Nat.zero_le _⟩
end Go.Proofs.YtdinaedknlkicaaGreatDoor

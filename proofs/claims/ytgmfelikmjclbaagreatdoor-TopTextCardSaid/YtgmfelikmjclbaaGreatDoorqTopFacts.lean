/-
  N1's statement: what is known, plainly, of a text whose tokens are all those of an expression.
-/
import Derived.Test.YtgmfelikmjclbaaGreatDoorPackG1
import Derived.Test.YtgmfelikmjclbaaGreatDoorPackE1
import Derived.Test.YtgmfelikmjclbaaGreatDoorqLexAll
namespace Go.Proofs.YtgmfelikmjclbaaGreatDoor.ExprW
open Nodes Exprs

/-- Tokens of a text are valid. -/
theorem lex_valid : ∀ (f off cnt : Nat) (l : List UInt8), ∀ t ∈ (lexF f off cnt l).1, validT t = true := by
  intro f
  induction f with
  | zero => intro off cnt l t ht; simp [lexF] at ht
  | succ f ih =>
    intro off cnt l t ht
    by_cases hd : l.drop (runN 1 l) = []
    · rw [lex_end hd] at ht; simp at ht
    by_cases hc : cnt = 200
    · rw [lex_many hd hc] at ht; simp at ht
    by_cases he : tokE (l.drop (runN 1 l)) = 0
    · rw [lex_one rfl hd hc he] at ht
      rcases List.mem_cons.1 ht with rfl | h
      · exact token_valid he
      · exact ih _ _ _ _ h
    · rw [lex_bad hd hc he] at ht; simp at ht
theorem all_valid (l : List UInt8) : ∀ t ∈ (allV l).1, validT t = true := by
  intro t ht
  unfold allV at ht
  split at ht
  · simp at ht
  · simp only at ht
    split at ht
    · exact lex_valid _ _ _ _ t ht
    · simp at ht
/-- What is parsed is valid, and the numbers are the tokens' if all of them are read. -/
theorem parsed_ok {ts : List Tok} {x : List Nd} {n : Int} (h : parseV ts 0 = (x, n, 0)) : TsOk ts ∧ checkV x = 0 ∧ (n = ts.length → numN x = numT ts) := by
  have ha : askedV ts 0 = 0 := by
    by_cases h0 : askedV ts 0 = 0
    · exact h0
    · have := parse_no rfl h0
      rw [this] at h
      simp only [Prod.mk.injEq] at h
      exact absurd h.2.2 h0
  have hk : ckV ts = 0 := by
    rw [asked_ck] at ha
    by_cases h0 : ckV ts = 0
    · exact h0
    · rw [if_pos h0] at ha; exact ha
  have ht := ts_ok hk
  have hp := parse_out hk (Nat.zero_le ts.length)
  have h' : parseV ts ((0 : Nat) : Int) = (x, n, 0) := h
  rw [h'] at hp
  rcases rd_cases ht (n := 0) (by omega) (Nat.zero_le ts.length) with ⟨y, b, h1, h2, h3, h4⟩ | ⟨c, b, h1, h2, h3, h4⟩
  · rw [h3, out_ok h2] at hp
    simp only [Prod.mk.injEq] at hp
    obtain ⟨hx, hn0, _⟩ := hp
    subst hx
    refine ⟨ht, h4, fun hn => ?_⟩
    have hb : b = ts.length := by omega
    subst hb
    have hs : sfrom ts 0 = syms ts := by unfold sfrom; rw [List.drop_zero]
    rw [hs, sfrom_nil (Nat.le_refl _)] at h3
    exact nums_parsed ht (by rw [parse_rd]; exact h3)
  · rw [h4, out_err h2] at hp
    simp only [Prod.mk.injEq] at hp
    rcases h3 with rfl | rfl | rfl <;> exact absurd hp.2.2 (by decide)
end Go.Proofs.YtgmfelikmjclbaaGreatDoor.ExprW

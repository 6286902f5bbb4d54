/-
  The walk of layer 3's statement LexerError: it returns true.
-/
import Derived.Test.YtighmcooilcmfaaDoorLexHelp
import Derived.Outline
namespace Go.Proofs.YtighmcooilcmfaaDoor
open Go.ChangeShapes Go.WideShapes Go.ChangeAt Go.RowKit

/-- All of a text, its answer written out: a place, an error. -/
theorem all_is (s : ByteArray) (n : Nat) (er : Int) (h : s.size ≤ maxLen ∧ (allV s.data.toList).2 = (n, er)) (w : World) (hf : LexFix w) :
    Calls Tryd.prog 15 #[.string s] w fun e w' => ∃ v, e = .returned (.tuple #[v, .int .i64 n, .int .i64 er]) ∧ Reads w' v (allV s.data.toList).1 ∧ Below w.heap.size w w' ∧ (er ≠ 0 → v = .slice none 0 0) := by
  refine (lexAll_any s h.1 w hf).mono ?_
  rintro e w' ⟨v, rfl, hO, hb, hv⟩
  refine ⟨v, ?_, own_reads hO, hb, ?_⟩
  · rw [h.2]
  · rw [h.2] at hv; exact hv
theorem take_text (s : ByteArray) (p : Nat) : (s.extract 0 p).data.toList = s.data.toList.take p := by
  rw [ByteArray.data_extract, Array.toList_extract, List.extract_eq_take_drop, List.drop_zero, Nat.sub_zero]
theorem drop_text (s : ByteArray) (p : Nat) : (s.extract p s.size).data.toList = s.data.toList.drop p := by
  rw [ByteArray.data_extract, Array.toList_extract, List.extract_eq_take_drop, List.take_of_length_le]
  simp
set_option maxRecDepth 100000 in
set_option maxHeartbeats 1000000 in
theorem error_walk (s : ByteArray) (hs : s.size ≤ maxLen) (w : World) (hf : LexFix w) :
    Calls Tryd.prog 8 #[.string s] w fun e w' => e = .returned (.bool true) ∧ Below w.heap.size w w' := by
  have el : s.data.toList.length = s.size := by simp
  have F := Lib.hid hf
  by_cases hbig : (400 : Int) < s.size
  · have HV : (allV s.data.toList).2 = (0, 4) := by unfold allV; rw [if_pos (by omega)]
    have A := Lib.hid (all_is s 0 4 ⟨hs, HV⟩)
    clear HV el hf
    go_enter Tryd.func8, Tryd.ntmps8
    go_wp2_with fail
    refine (A.out _ F.out).mono ?_
    rintro e w1 ⟨v, rfl, _, hb, hv⟩
    obtain rfl := hv (by decide)
    have F1 := Lib.hid (F.out.below hb)
    have B1 := Lib.hid hb
    clear hb
    go_wp2_with fail
    refine (alive_any _ F1.out).mono ?_
    rintro e w2 ⟨rfl, hb⟩
    have B2 := Lib.hid (below_step B1.out hb)
    clear hb
    go_wp2_with fail
    go_ret
    exact ⟨rfl, B2.out⟩
  obtain ⟨n, er, hne⟩ : ∃ n er, (allV s.data.toList).2 = (n, er) := ⟨_, _, rfl⟩
  have A := Lib.hid (all_is s n er ⟨hs, hne⟩)
  by_cases he : er = 0
  · subst he
    clear hne el hf
    go_enter Tryd.func8, Tryd.ntmps8
    go_wp2_with fail
    refine (A.out _ F.out).mono ?_
    rintro e w1 ⟨v, rfl, _, hb, _⟩
    have F1 := Lib.hid (F.out.below hb)
    have B1 := Lib.hid hb
    clear hb
    go_wp2_with fail
    refine (alive_any _ F1.out).mono ?_
    rintro e w2 ⟨rfl, hb⟩
    have B2 := Lib.hid (below_step B1.out hb)
    clear hb
    go_wp2_with fail
    go_ret
    exact ⟨rfl, B2.out⟩
  · have hne2 : (allV s.data.toList).2.2 ≠ 0 := by rw [hne]; exact he
    obtain ⟨p, hp, q1, q2, q3, q4⟩ := all_fault (by omega) hne2
    rw [hne] at q1 q4
    simp only at q1 q4
    subst q1
    rw [el] at hp
    have C1 := Lib.hid (all_is (s.extract 0 n) n 0 ⟨by unfold maxLen; simp; omega, by rw [take_text]; exact q3⟩)
    have hk : isKind 1 s[n] = false := q2
    have g1 : (kindV (s[n].toNat : Int) == 1) = false := by
      unfold isKind at hk
      rw [decide_eq_false_iff_not] at hk
      exact beq_eq_false_iff_ne.2 hk
    have K := Lib.hid (kind_any (s[n].toNat : Int) (u8_bounds _).1 (u8_bounds _).2)
    have q0 : (er == 0) = false := beq_eq_false_iff_ne.2 he
    rcases q4 with q4 | q4
    · subst q4
      obtain ⟨n2, er2, hne3⟩ : ∃ n2 er2, (allV (s.extract n s.size).data.toList).2 = (n2, er2) := ⟨_, _, rfl⟩
      have C2 := Lib.hid (all_is (s.extract n s.size) n2 er2 ⟨by unfold maxLen; simp; omega, hne3⟩)
      clear hne el hf hne2 q2 q3 hk he hne3 q0
      go_enter Tryd.func8, Tryd.ntmps8
      go_wp2_with fail
      refine (A.out _ F.out).mono ?_
      rintro e w1 ⟨v, rfl, _, hb, _⟩
      have F1 := Lib.hid (F.out.below hb)
      have B1 := Lib.hid hb
      clear hb
      go_wp2_with fail
      refine (K.out _).mono ?_
      rintro e w2 ⟨rfl, hb⟩
      have F2 := Lib.hid (F1.out.below hb)
      have B2 := Lib.hid (below_step B1.out hb)
      clear hb
      go_wp2_with fail
      refine (C1.out _ F2.out).mono ?_
      rintro e w3 ⟨v2, rfl, _, hb, _⟩
      have F3 := Lib.hid (F2.out.below hb)
      have B3 := Lib.hid (below_step B2.out hb)
      clear hb
      go_wp2_with fail
      refine (C2.out _ F3.out).mono ?_
      rintro e w4 ⟨v3, rfl, _, hb, _⟩
      have F4 := Lib.hid (F3.out.below hb)
      have B4 := Lib.hid (below_step B3.out hb)
      clear hb
      go_wp2_with fail
      all_goals
        refine (alive_any _ F4.out).mono ?_
        rintro e w5 ⟨rfl, hb⟩
        have B5 := Lib.hid (below_step B4.out hb)
        clear hb
        go_wp2_with fail
        go_ret
        exact ⟨rfl, B5.out⟩
    · have C2 := Lib.hid (all_is (s.extract n s.size) 0 er ⟨by unfold maxLen; simp; omega, by rw [drop_text]; exact q4⟩)
      clear hne el hf hne2 q2 q3 q4 hk he
      go_enter Tryd.func8, Tryd.ntmps8
      go_wp2_with fail
      refine (A.out _ F.out).mono ?_
      rintro e w1 ⟨v, rfl, _, hb, _⟩
      have F1 := Lib.hid (F.out.below hb)
      have B1 := Lib.hid hb
      clear hb
      go_wp2_with fail
      refine (K.out _).mono ?_
      rintro e w2 ⟨rfl, hb⟩
      have F2 := Lib.hid (F1.out.below hb)
      have B2 := Lib.hid (below_step B1.out hb)
      clear hb
      go_wp2_with fail
      refine (C1.out _ F2.out).mono ?_
      rintro e w3 ⟨v2, rfl, _, hb, _⟩
      have F3 := Lib.hid (F2.out.below hb)
      have B3 := Lib.hid (below_step B2.out hb)
      clear hb
      go_wp2_with fail
      refine (C2.out _ F3.out).mono ?_
      rintro e w4 ⟨v3, rfl, _, hb, _⟩
      have F4 := Lib.hid (F3.out.below hb)
      have B4 := Lib.hid (below_step B3.out hb)
      clear hb
      go_wp2_with fail
      all_goals
        refine (alive_any _ F4.out).mono ?_
        rintro e w5 ⟨rfl, hb⟩
        have B5 := Lib.hid (below_step B4.out hb)
        clear hb
        go_wp2_with fail
        go_ret
        exact ⟨rfl, B5.out⟩
end Go.Proofs.YtighmcooilcmfaaDoor

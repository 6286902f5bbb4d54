/-
  The walk of layer 9's statement ParserBlanks: blanks do not matter, but for places.
-/
import Derived.Test.YtdinaedknlkicaaGreatDoorPackH1
import Derived.Test.YtdinaedknlkicaaGreatDoorLexCallJoin
import Derived.Outline
namespace Go.Proofs.YtdinaedknlkicaaGreatDoor.ParserW
open Nodes Exprs ExprW Prs
open Go.ChangeShapes Go.WideShapes Go.ChangeAt Go.RowKit

theorem all_wrapped {s a b : List UInt8} (ha : ∀ c ∈ a, isKind 1 c = true) (hb : ∀ c ∈ b, isKind 1 c = true) (hs : s.length ≤ 300) (hal : a.length ≤ 20) (hbl : b.length ≤ 20) (he : (allV s).2.2 = 0) :
    (allV (a ++ s ++ b)).2.2 = 0 ∧ (allV s).1.map tc = (allV (a ++ s ++ b)).1.map tc := by
  have hlen : (a ++ s ++ b).length ≤ 400 := by simp only [List.length_append]; omega
  obtain ⟨f, hf⟩ : ∃ f, f = (a ++ s ++ b).length := ⟨_, rfl⟩
  have hfs : s.length < f + 1 := by rw [hf]; simp only [List.length_append]; omega
  have e1 : lexF (f + 1) 0 0 (a ++ s ++ b) = lexF (f + 1) (0 + a.length) 0 (s ++ b) := by rw [List.append_assoc, lex_front f 0 0 a (s ++ b) ha]
  have e2 := lex_rear b hb (f + 1) (0 + a.length) 0 s hfs
  have e3 := lex_moved a.length (f + 1) 0 0 s
  have e4 : lexF (s.length + 1) 0 0 s = lexF (f + 1) 0 0 s := lex_fuel _ _ _ _ _ (by omega) hfs
  rw [e3] at e2
  rw [e2] at e1
  simp only at e1
  have a1 := all_err (l := s) (by omega)
  rw [e4] at a1
  have a2 := all_err hlen
  rw [← hf, e1] at a2
  simp only at a2
  have herr : (allV (a ++ s ++ b)).2.2 = (allV s).2.2 := by rw [a2, a1]
  refine ⟨by rw [herr, he], ?_⟩
  have o1 := all_ok (l := s) (by omega) he
  have o2 := all_ok hlen (by rw [herr]; exact he)
  rw [o1, o2, e4, ← hf, e1]
  exact (core_moved _ _).symm
theorem blanks_law {s : List UInt8} (hs : s.length ≤ 200) (he : (allV s).2.2 = 0) (hj : (joinV (allV s).1).2 = 0) :
    ((parseP (joinV (allV s).1).1).2.2 = (parseP s).2.2 ∧ alikeQ (parseP s).1 (parseP (joinV (allV s).1).1).1 = true) ∧ ((parseP ([32, 10] ++ s ++ [32])).2.2 = (parseP s).2.2 ∧ alikeQ (parseP s).1 (parseP ([32, 10] ++ s ++ [32])).1 = true) := by
  obtain ⟨j1, j2⟩ := join_ok (fun t ht => ((all_ok_ts s).2 t ht).1) hj
  obtain ⟨a1, a2⟩ := alike_law he j1 j2
  obtain ⟨w1, w2⟩ := all_wrapped (a := [32, 10]) (b := [32]) (by decide) (by decide) (show s.length ≤ 300 by omega) (by decide) (by decide) he
  obtain ⟨b1, b2⟩ := alike_law he w1 w2
  exact ⟨⟨a1.symm, a2⟩, ⟨b1.symm, b2⟩⟩
set_option maxRecDepth 100000 in
set_option maxHeartbeats 2000000 in
theorem blanks_walk (s : ByteArray) (hs : s.size ≤ maxLen) (w : World) (hf : ParFix w) :
    Calls Tryz.prog 5 #[.string s] w fun e w' => e = .returned (.bool true) ∧ Below w.heap.size w w' := by
  have F := Lib.hid hf
  have AL := Lib.hid (fun W (h : Below w.heap.size w W) => alive_any W (F.out.below h))
  have el : s.data.toList.length = s.size := by simp
  clear hf
  by_cases g1 : (200 : Int) < s.size
  · go_enter Tryz.func5, Tryz.ntmps5
    go_wp2_with fail
    refine (AL.out _ (Below.refl _ _)).mono ?_
    rintro e w1 ⟨rfl, hb⟩
    go_wp2_with fail
    go_ret
    exact ⟨rfl, hb⟩
  have hsz : s.size ≤ 200 := by omega
  have A := Lib.hid (fun W (hW : LexFix W) => lexAll_any s hs W hW)
  have hsh := all_short9 s.data.toList
  have hlaw := blanks_law (s := s.data.toList) (by omega)
  obtain ⟨ts, hts⟩ : ∃ ts, (allV s.data.toList).1 = ts := ⟨_, rfl⟩
  obtain ⟨n0, hn0⟩ : ∃ n, (allV s.data.toList).2.1 = n := ⟨_, rfl⟩
  obtain ⟨e0, he0⟩ : ∃ e, (allV s.data.toList).2.2 = e := ⟨_, rfl⟩
  unfold AllEnds at A
  rw [hts, hn0, he0] at A
  rw [hts] at hlaw hsh
  rw [he0] at hlaw
  have J := Lib.hid (fun v W (hW : LexFix W) hR => lexJoin_any v ts W hW hR (by omega) hsh.2)
  obtain ⟨t, ht⟩ : ∃ t, (joinV ts).1 = t := ⟨_, rfl⟩
  obtain ⟨f0, hf0⟩ : ∃ f, (joinV ts).2 = f := ⟨_, rfl⟩
  unfold JoinEnds at J
  rw [ht, hf0] at J
  rw [ht, hf0] at hlaw
  have HTL : t.length ≤ 400 := by
    rw [← ht]
    unfold joinV
    split
    · exact Nat.zero_le _
    split
    · exact Nat.zero_le _
    split
    · exact Nat.zero_le _
    · rename_i h; simpa using h
  by_cases he : e0 = 0
  · subst he
    by_cases hj : f0 = 0
    · subst hj
      obtain ⟨⟨l1, l2⟩, ⟨l3, l4⟩⟩ := hlaw rfl rfl
      obtain ⟨qa, na, ga, hqa⟩ : ∃ q n g, parseP s.data.toList = (q, n, g) := ⟨_, _, _, rfl⟩
      obtain ⟨qb, nb, gb, hqb⟩ : ∃ q n g, parseP t = (q, n, g) := ⟨_, _, _, rfl⟩
      obtain ⟨qc, nc, gc, hqc⟩ : ∃ q n g, parseP ([32, 10] ++ s.data.toList ++ [32]) = (q, n, g) := ⟨_, _, _, rfl⟩
      have sa := parse_small s.data.toList
      rw [hqa, hqb] at l1 l2
      rw [hqa, hqc] at l3 l4
      rw [hqa] at sa
      simp only at l1 l2 l3 l4 sa
      subst l1 l3
      have P1 := Lib.hid (fun W (hW : ParFix W) => parse_out s hs qa na _ hqa W hW)
      have P2 := Lib.hid (fun W (hW : ParFix W) => parse_out ⟨t.toArray⟩ (by unfold maxLen; simp [ByteArray.size]; omega) qb nb _ hqb W hW)
      have P3 := Lib.hid (fun W (hW : ParFix W) => parse_out ({ data := #[32, 10] } ++ s ++ { data := #[32] }) (by
        have z1 : ({ data := #[32, 10] } : ByteArray).size = 2 := rfl
        have z2 : ({ data := #[32] } : ByteArray).size = 1 := rfl
        unfold maxLen
        rw [ByteArray.size_append, ByteArray.size_append, z1, z2]
        omega) qc nc _ (by rw [← hqc]; simp) W hW)
      obtain ⟨n1, n2, n3⟩ := sa
      have HA2 := Lib.hid l2
      have HA4 := Lib.hid l4
      clear hlaw hts hn0 he0 ht hf0 hqa hqb hqc l2 l4 hsh el
      go_enter Tryz.func5, Tryz.ntmps5
      go_wp2_with fail
      refine (A.out _ F.out.1.1).mono ?_
      rintro e w1 ⟨v, rfl, ho, hb, _⟩
      obtain ⟨ad, cap, rfl⟩ := own_shape ho
      have B1 := Lib.hid hb
      have R1 := Lib.hid (own_reads ho)
      clear hb ho
      go_wp2_with fail
      refine (J.out _ _ (F.out.below B1.out).1.1 R1.out).mono ?_
      rintro e w2 ⟨rfl, hb⟩
      have B2 := Lib.hid (below_step B1.out hb)
      clear hb
      go_wp2_with fail
      refine (P1.out _ (F.out.below B2.out)).mono ?_
      rintro e w3 ⟨x1, y1, x2, y2, x3, y3, rfl, hr, hb⟩
      have S3 := Lib.hid ((SL.nil_of (below_step B2.out hb)).box w3.heap.size rfl ⟨.slice x1 qa.arg.length y1, .slice x2 qa.src.length y2, .slice x3 qa.cond.length y3⟩ qa)
      have R3 := Lib.hid (hr.below (refl_alloc9 w3 (qyBox ⟨.slice x1 qa.arg.length y1, .slice x2 qa.src.length y2, .slice x3 qa.cond.length y3⟩ qa)))
      clear hr hb
      go_wp2_with fail
      refine (P2.out _ (F.out.below S3.out.base)).mono ?_
      rintro e w4 ⟨u1, v1, u2, v2, u3, v3, rfl, hr, hb⟩
      have S4 := Lib.hid ((S3.out.below hb).box w4.heap.size rfl ⟨.slice u1 qb.arg.length v1, .slice u2 qb.src.length v2, .slice u3 qb.cond.length v3⟩ qb)
      have R4 := Lib.hid ((R3.out.below hb).below (refl_alloc9 w4 (qyBox ⟨.slice u1 qb.arg.length v1, .slice u2 qb.src.length v2, .slice u3 qb.cond.length v3⟩ qb)))
      have T4 := Lib.hid (hr.below (refl_alloc9 w4 (qyBox ⟨.slice u1 qb.arg.length v1, .slice u2 qb.src.length v2, .slice u3 qb.cond.length v3⟩ qb)))
      clear hr hb
      go_wp2_with fail
      refine (P3.out _ (F.out.below S4.out.base)).mono ?_
      rintro e w5 ⟨p1, z1, p2, z2, p3, z3, rfl, hr, hb⟩
      have S5 := Lib.hid ((S4.out.below hb).box w5.heap.size rfl ⟨.slice p1 qc.arg.length z1, .slice p2 qc.src.length z2, .slice p3 qc.cond.length z3⟩ qc)
      have R5 := Lib.hid ((R4.out.below hb).below (refl_alloc9 w5 (qyBox ⟨.slice p1 qc.arg.length z1, .slice p2 qc.src.length z2, .slice p3 qc.cond.length z3⟩ qc)))
      have T5 := Lib.hid ((T4.out.below hb).below (refl_alloc9 w5 (qyBox ⟨.slice p1 qc.arg.length z1, .slice p2 qc.src.length z2, .slice p3 qc.cond.length z3⟩ qc)))
      have U5 := Lib.hid (hr.below (refl_alloc9 w5 (qyBox ⟨.slice p1 qc.arg.length z1, .slice p2 qc.src.length z2, .slice p3 qc.cond.length z3⟩ qc)))
      obtain ⟨c0, c1, c2, c3, c4, c5, c6, c7, c8, c9⟩ := S5.out.at2.cells
      obtain ⟨d0, d1, d2, d3, d4, d5, d6, d7, d8, d9⟩ := S5.out.at1.cells
      have E1 := Lib.hid (refAlikeQ_any _ _ qa qb _ R5.out T5.out (by omega) (by omega) (by omega))
      rw [HA2.out] at E1
      clear hr hb
      go_wp2_with fail
      refine E1.out.mono ?_
      rintro e w6 ⟨rfl, hb⟩
      have S6 := Lib.hid (S5.out.below hb)
      obtain ⟨c0, c1, c2, c3, c4, c5, c6, c7, c8, c9⟩ := S6.out.at2.cells
      obtain ⟨d0, d1, d2, d3, d4, d5, d6, d7, d8, d9⟩ := S6.out.at0.cells
      have E2 := Lib.hid (refAlikeQ_any _ _ qa qc _ (R5.out.below hb) (U5.out.below hb) (by omega) (by omega) (by omega))
      rw [HA4.out] at E2
      clear hb
      go_wp2_with fail
      refine E2.out.mono ?_
      rintro e w7 ⟨rfl, hb⟩
      have S7 := Lib.hid (S6.out.below hb)
      clear hb
      go_wp2_with fail
      refine (AL.out _ S7.out.base).mono ?_
      rintro e w8 ⟨rfl, hb⟩
      have B8 := Lib.hid (below_step S7.out.base hb)
      clear hb
      go_wp2_with fail
      go_ret
      exact ⟨rfl, B8.out⟩
    · have q1 : (f0 != 0) = true := by rw [bne_iff_ne]; exact hj
      clear hlaw hts hn0 he0 ht hf0 hj hsh el
      go_enter Tryz.func5, Tryz.ntmps5
      go_wp2_with fail
      refine (A.out _ F.out.1.1).mono ?_
      rintro e w1 ⟨v, rfl, ho, hb, _⟩
      obtain ⟨ad, cap, rfl⟩ := own_shape ho
      have B1 := Lib.hid hb
      have R1 := Lib.hid (own_reads ho)
      clear hb ho
      go_wp2_with fail
      refine (J.out _ _ (F.out.below B1.out).1.1 R1.out).mono ?_
      rintro e w2 ⟨rfl, hb⟩
      have B2 := Lib.hid (below_step B1.out hb)
      clear hb
      go_wp2_with fail
      refine (AL.out _ B2.out).mono ?_
      rintro e w3 ⟨rfl, hb⟩
      have B3 := Lib.hid (below_step B2.out hb)
      clear hb
      go_wp2_with fail
      go_ret
      exact ⟨rfl, B3.out⟩
  · have q1 : (e0 != 0) = true := by rw [bne_iff_ne]; exact he
    clear hlaw hts hn0 he0 ht hf0 he hsh el
    go_enter Tryz.func5, Tryz.ntmps5
    go_wp2_with fail
    refine (A.out _ F.out.1.1).mono ?_
    rintro e w1 ⟨v, rfl, ho, hb, _⟩
    obtain ⟨ad, cap, rfl⟩ := own_shape ho
    have B1 := Lib.hid hb
    have R1 := Lib.hid (own_reads ho)
    clear hb ho
    go_wp2_with fail
    refine (J.out _ _ (F.out.below B1.out).1.1 R1.out).mono ?_
    rintro e w2 ⟨rfl, hb⟩
    have B2 := Lib.hid (below_step B1.out hb)
    clear hb
    go_wp2_with fail
    refine (AL.out _ B2.out).mono ?_
    rintro e w3 ⟨rfl, hb⟩
    have B3 := Lib.hid (below_step B2.out hb)
    clear hb
    go_wp2_with fail
    go_ret
    exact ⟨rfl, B3.out⟩
end Go.Proofs.YtdinaedknlkicaaGreatDoor.ParserW

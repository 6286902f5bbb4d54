/-
  The walk of layer 5's statement ExprsBack: it returns true.
-/
import Derived.Test.YtbhipjinoammjaaDoorPackE1
import Derived.Outline
namespace Go.Proofs.YtbhipjinoammjaaDoor.ExprW
open Nodes Exprs
open Go.ChangeShapes Go.WideShapes Go.ChangeAt Go.RowKit

set_option maxRecDepth 100000 in
set_option maxHeartbeats 2000000 in
theorem back_walk (v : Value) (l : List Nd) (w : World) (hR : ReadsN w v l) (hw : Wide l) (hf : ExprFix w) :
    Calls Tryd.prog 4 #[v] w fun e w' => e = .returned (.bool true) ∧ Below w.heap.size w w' := by
  have F := Lib.hid hf
  have R := Lib.hid hR
  have AL := Lib.hid alive_any
  have G := Lib.hid (Nodes.great_any v l w hR)
  by_cases h70 : 70 < l.length
  · rw [decide_eq_true h70] at G
    clear hf hR
    go_enter Tryd.func4, Tryd.ntmps4
    go_wp2_with fail
    refine G.out.mono ?_
    rintro e w1 ⟨rfl, rfl⟩
    go_wp2_with fail
    refine (AL.out _ F.out).mono ?_
    rintro e w1 ⟨rfl, hb⟩
    go_wp2_with fail
    go_ret
    exact ⟨rfl, hb⟩
  rw [decide_eq_false h70] at G
  have C := Lib.hid (refCheck_any v l w hR (by omega))
  cases hc : (checkV l != 0)
  · have hc0 : checkV l = 0 := by rwa [bne_eq_false_iff_eq] at hc
    have T := Lib.hid (fun W hW hr => exprsText_any v l W hW hr (by omega) hw)
    have hlen := text_long hc0 hw
    obtain ⟨t, ht⟩ : ∃ t, (textV l).1 = t := ⟨_, rfl⟩
    have hte : textV l = (t, 0) := Prod.ext ht (text_ok hc0)
    rw [ht] at hlen
    have ts : (⟨t.toArray⟩ : ByteArray).size = t.length := by show t.toArray.size = _; simp
    have tl : (⟨t.toArray⟩ : ByteArray).data.toList = t := rfl
    have A := Lib.hid (fits_all ⟨t.toArray⟩ (by rw [ts]; unfold maxLen; omega))
    rw [tl] at A
    rw [hte] at T
    have SH := Lib.hid (all_short t)
    by_cases h400 : 400 < t.length
    · have ha : allV t = ([], 0, 4) := by unfold allV; rw [if_pos h400]
      rw [ha] at A
      have hg : (400 : Int) < (⟨t.toArray⟩ : ByteArray).size := by rw [ts]; omega
      obtain ⟨s, hs⟩ : ∃ s : ByteArray, (⟨t.toArray⟩ : ByteArray) = s := ⟨_, rfl⟩
      unfold TextEnds at T
      simp only [hs] at A T hg
      clear hf hR hc0 hlen ht hte ts tl SH h400 ha hs hw
      go_enter Tryd.func4, Tryd.ntmps4
      go_wp2_with fail
      refine G.out.mono ?_
      rintro e w1 ⟨rfl, rfl⟩
      go_wp2_with fail
      refine C.out.mono ?_
      rintro e w1 ⟨rfl, hb⟩
      have F1 := Lib.hid (F.out.below hb)
      have B1 := Lib.hid hb
      have R1 := Lib.hid (R.out.below hb)
      clear hb
      go_wp2_with fail
      refine (T.out _ F1.out R1.out).mono ?_
      rintro e w2 ⟨rfl, hb⟩
      have F2 := Lib.hid (F1.out.below hb)
      have B2 := Lib.hid (below_step B1.out hb)
      clear hb
      go_wp2_with fail
      refine (A.out _ F2.out.1).mono ?_
      rintro e w3 ⟨u, rfl, hr, hb⟩
      have F3 := Lib.hid (F2.out.below hb)
      have B3 := Lib.hid (below_step B2.out hb)
      clear hb hr
      go_wp2_with fail
      refine (AL.out _ F3.out).mono ?_
      rintro e w4 ⟨rfl, hb⟩
      have B4 := Lib.hid (below_step B3.out hb)
      clear hb
      go_wp2_with fail
      go_ret
      exact ⟨rfl, B4.out⟩
    · have hg : ¬ (400 : Int) < (⟨t.toArray⟩ : ByteArray).size := by rw [ts]; omega
      obtain ⟨q1, q2, q3, q4⟩ := back_v hc0 hw (by rw [ht]; omega)
      rw [ht] at q1 q2 q3 q4
      obtain ⟨ks, n0, e0, ha⟩ : ∃ ks n0 e0, allV t = (ks, n0, e0) := ⟨_, _, _, rfl⟩
      rw [ha] at q1 q2 q3 q4 A SH
      simp only at q1 q2 q3 q4 A SH
      subst q1
      have SM := parse_small ks 0
      obtain ⟨y, n1, e1, hp⟩ : ∃ y n1 e1, parseV ks 0 = (y, n1, e1) := ⟨_, _, _, rfl⟩
      rw [hp] at q2 q3 q4 SM
      simp only at q2 q3 q4 SM
      subst q2
      have P := Lib.hid (fun v W hW hR => exprsParse_any v ks 0 W hW hR SH.out.1 SH.out.2)
      rw [hp, q3] at P
      have S := Lib.hid (fun vb W hA hB => nodesSame_any v vb l y W hA hB (by omega) (by omega))
      rw [q4] at S
      obtain ⟨s, hs⟩ : ∃ s : ByteArray, (⟨t.toArray⟩ : ByteArray) = s := ⟨_, rfl⟩
      unfold TextEnds at T
      simp only [hs] at A T hg
      clear hf hR hc0 hlen ht hte ts tl SH h400 ha hs hw q3 q4 SM hp
      go_enter Tryd.func4, Tryd.ntmps4
      go_wp2_with fail
      refine G.out.mono ?_
      rintro e w1 ⟨rfl, rfl⟩
      go_wp2_with fail
      refine C.out.mono ?_
      rintro e w1 ⟨rfl, hb⟩
      have F1 := Lib.hid (F.out.below hb)
      have B1 := Lib.hid hb
      have R1 := Lib.hid (R.out.below hb)
      clear hb
      go_wp2_with fail
      refine (T.out _ F1.out R1.out).mono ?_
      rintro e w2 ⟨rfl, hb⟩
      have F2 := Lib.hid (F1.out.below hb)
      have B2 := Lib.hid (below_step B1.out hb)
      have R2 := Lib.hid (R1.out.below hb)
      clear hb
      go_wp2_with fail
      refine (A.out _ F2.out.1).mono ?_
      rintro e w3 ⟨u, rfl, hr, hb⟩
      obtain ⟨ad, cap, rfl⟩ := hr.shape
      have K3 := Lib.hid hr
      have F3 := Lib.hid (F2.out.below hb)
      have B3 := Lib.hid (below_step B2.out hb)
      have R3 := Lib.hid (R2.out.below hb)
      clear hb hr
      go_wp2_with fail
      refine (P.out _ _ F3.out K3.out).mono ?_
      rintro e w4 ⟨vy, rfl, ho, hb⟩
      have Y4 := Lib.hid (own_readsN ho)
      have F4 := Lib.hid (F3.out.below hb)
      have B4 := Lib.hid (below_step B3.out hb)
      have R4 := Lib.hid (R3.out.below hb)
      clear hb ho
      go_wp2_with fail
      refine (S.out _ _ R4.out Y4.out).mono ?_
      rintro e w5 ⟨rfl, hb⟩
      have F5 := Lib.hid (F4.out.below hb)
      have B5 := Lib.hid (below_step B4.out hb)
      clear hb
      go_wp2_with fail
      refine (AL.out _ F5.out).mono ?_
      rintro e w6 ⟨rfl, hb⟩
      have B6 := Lib.hid (below_step B5.out hb)
      clear hb
      go_wp2_with fail
      go_ret
      exact ⟨rfl, B6.out⟩
  · clear hf hR
    go_enter Tryd.func4, Tryd.ntmps4
    go_wp2_with fail
    refine G.out.mono ?_
    rintro e w1 ⟨rfl, rfl⟩
    go_wp2_with fail
    refine C.out.mono ?_
    rintro e w1 ⟨rfl, hb⟩
    have F1 := Lib.hid (F.out.below hb)
    have B1 := Lib.hid hb
    clear hb
    go_wp2_with fail
    refine (AL.out _ F1.out).mono ?_
    rintro e w2 ⟨rfl, hb⟩
    have B2 := Lib.hid (below_step B1.out hb)
    clear hb
    go_wp2_with fail
    go_ret
    exact ⟨rfl, B2.out⟩
end Go.Proofs.YtbhipjinoammjaaDoor.ExprW

/-
  Walk of the statement ClausesJoin: a query that is valid as a join is valid without being one, and the other way about.
-/
import Derived.Test.YtfmobnlnedljeaaDoorQyState
import Derived.Test.YtfmobnlnedljeaaDoorClauseCheck
import Derived.Test.YtfmobnlnedljeaaDoorRefQuery
import Derived.Outline
namespace Go.Proofs.YtfmobnlnedljeaaDoor.Nodes
open Go.ChangeShapes Go.WideShapes Go.ChangeAt Go.RowKit

theorem both_yes {q : Qy} (h : q.src.length = 2) (h2 : q.win.kind = 1) : bothB q = true := decide_eq_true ⟨h, h2⟩
theorem both_src {q : Qy} (h : q.src.length ≠ 2) : bothB q = false := decide_eq_false fun e => h e.1
theorem both_kind {q : Qy} (h : q.win.kind ≠ 1) : bothB q = false := decide_eq_false fun e => h e.2
set_option maxRecDepth 100000 in
set_option maxHeartbeats 2000000 in
theorem join_walk (s : Sl) (q : Qy) (w : World) (hf : NameFix w) (hR : ReadsQ w s q) :
    Calls Tryd.prog 7 #[qyVal s q] w fun e w' => e = .returned (.bool true) ∧ Below w.heap.size w w' := by
  have S0 := Lib.hid ((SL.nil w).box w.heap.size rfl s q)
  have GR := Lib.hid (fun (W : World) (h : Below w.heap.size w W) => refGreat_any s q W (hR.below h))
  have AL := Lib.hid (fun (W : World) (h : Below w.heap.size w W) => alive8_any W (hf.below h))
  have HRQ := Lib.hid hR
  have F := Lib.hid hf
  obtain ⟨sa, ss, sc⟩ := s
  have hsrc : ReadsI w ss q.src := hR.src
  have harg : ReadsN w sa q.arg := hR.arg
  have hcnd : ReadsN w sc q.cond := hR.cond
  obtain ⟨ads, caps, rfl⟩ := hsrc.shape
  obtain ⟨ada, capa, rfl⟩ := harg.shape
  obtain ⟨adc, capc, rfl⟩ := hcnd.shape
  unfold qyBox at S0
  unfold qyVal qyRow at GR ⊢
  dsimp only at GR S0 ⊢
  clear hR hf hsrc harg hcnd
  cases hg : greatQ q
  case true =>
    rw [hg] at GR
    clear hg
    go_enter Tryd.func7, Tryd.ntmps7
    obtain ⟨c0, c1, c2, c3, c4, c5, c6, c7, c8, c9⟩ := S0.out.at0.cells
    dsimp only at c1 c2 c4
    go_wp2_with fail
    refine (GR.out _ S0.out.base).mono ?_
    rintro e w1 ⟨rfl, hb⟩
    clear c0 c1 c2 c3 c4 c5 c6 c7 c8 c9
    have S1 := Lib.hid (S0.out.below hb)
    obtain ⟨c0, c1, c2, c3, c4, c5, c6, c7, c8, c9⟩ := S1.out.at0.cells
    dsimp only at c1 c2 c4
    clear hb
    go_wp2_with fail
    refine (AL.out _ S1.out.base).mono ?_
    rintro e w2 ⟨rfl, hb⟩
    clear c0 c1 c2 c3 c4 c5 c6 c7 c8 c9
    have S2 := Lib.hid (S1.out.below hb)
    clear hb
    go_wp2_with fail
    go_ret
    exact ⟨rfl, S2.out.base⟩
  rw [hg] at GR
  obtain ⟨n1, n2, n3⟩ := great_small hg
  have CK := Lib.hid (fun (W : World) (h : Below w.heap.size w W) => refCheckQ_any ⟨.slice ada q.arg.length capa, .slice ads q.src.length caps, .slice adc q.cond.length capc⟩ q W (HRQ.out.below h) (by omega) (by omega) (by omega))
  have CO := Lib.hid (fun (b : Bool) (W : World) (h : Below w.heap.size w W) => clCheck_any ⟨.slice ada q.arg.length capa, .slice ads q.src.length caps, .slice adc q.cond.length capc⟩ ⟨q.agg, q.arg, q.src, b, q.cond, q.win, q.key, q.late⟩ W (F.out.below h) ⟨(HRQ.out.below h).arg, (HRQ.out.below h).src, (HRQ.out.below h).cond⟩ (by dsimp only; omega) (by dsimp only; omega) (by dsimp only; omega))
  unfold qyVal qyRow at CK CO
  dsimp only at CK CO
  clear hg n1 n2 n3
  by_cases hc : checkQ q = 0
  case neg =>
    obtain ⟨e0, he⟩ : ∃ e, checkQ q = e := ⟨_, rfl⟩
    rw [he] at CK hc
    have qz : (e0 != 0) = true := by rw [bne_iff_ne]; exact hc
    clear he hc CO
    go_enter Tryd.func7, Tryd.ntmps7
    obtain ⟨c0, c1, c2, c3, c4, c5, c6, c7, c8, c9⟩ := S0.out.at0.cells
    dsimp only at c1 c2 c4
    go_wp2_with fail
    refine (GR.out _ S0.out.base).mono ?_
    rintro e w1 ⟨rfl, hb⟩
    clear c0 c1 c2 c3 c4 c5 c6 c7 c8 c9
    have S1 := Lib.hid (S0.out.below hb)
    obtain ⟨c0, c1, c2, c3, c4, c5, c6, c7, c8, c9⟩ := S1.out.at0.cells
    dsimp only at c1 c2 c4
    clear hb
    go_wp2_with fail
    refine (CK.out _ S1.out.base).mono ?_
    rintro e w2 ⟨rfl, hb⟩
    clear c0 c1 c2 c3 c4 c5 c6 c7 c8 c9
    have S2 := Lib.hid (S1.out.below hb)
    obtain ⟨c0, c1, c2, c3, c4, c5, c6, c7, c8, c9⟩ := S2.out.at0.cells
    dsimp only at c1 c2 c4
    clear hb
    go_wp2_with fail
    refine (AL.out _ S2.out.base).mono ?_
    rintro e w3 ⟨rfl, hb⟩
    clear c0 c1 c2 c3 c4 c5 c6 c7 c8 c9
    have S3 := Lib.hid (S2.out.below hb)
    clear hb
    go_wp2_with fail
    go_ret
    exact ⟨rfl, S3.out.base⟩
  rw [hc] at CK
  have JO := join_other hc
  have JB := join_both hc
  by_cases hj : q.join = true
  · have hb := JB hj
    rw [show (!q.join) = false by rw [hj]; rfl, if_pos hb] at JO
    have CX := Lib.hid (CO.out false)
    rw [JO] at CX
    have hb2 := of_decide_eq_true hb
    have q1 : ((q.src.length : Int) == 2) = true := by rw [beq_iff_eq]; omega
    have q2 : (q.win.kind == 1) = true := by rw [beq_iff_eq]; exact hb2.2
    have QF := Lib.hid (And.intro hj (And.intro q1 q2))
    clear hj hb hb2 q1 q2 JO JB hc CO
    go_enter Tryd.func7, Tryd.ntmps7
    obtain ⟨c0, c1, c2, c3, c4, c5, c6, c7, c8, c9⟩ := S0.out.at0.cells
    dsimp only at c1 c2 c4
    go_wp2_with fail
    refine (GR.out _ S0.out.base).mono ?_
    rintro e w1 ⟨rfl, hb⟩
    clear c0 c1 c2 c3 c4 c5 c6 c7 c8 c9
    have S1 := Lib.hid (S0.out.below hb)
    obtain ⟨c0, c1, c2, c3, c4, c5, c6, c7, c8, c9⟩ := S1.out.at0.cells
    dsimp only at c1 c2 c4
    clear hb
    go_wp2_with fail
    refine (CK.out _ S1.out.base).mono ?_
    rintro e w2 ⟨rfl, hb⟩
    clear c0 c1 c2 c3 c4 c5 c6 c7 c8 c9
    have S2 := Lib.hid (S1.out.below hb)
    obtain ⟨hj, q1, q2⟩ := QF.out
    obtain ⟨_, _, x2, x3, _, x5, _, _, _, _⟩ := S2.out.at0.past
    dsimp only at x2
    obtain ⟨c0, c1, c2, c3, c4, c5, c6, c7, c8, c9⟩ := S2.out.at0.cells
    dsimp only at c1 c2 c4
    clear hb
    have S2b := Lib.hid (S2.out.box w2.heap.size rfl ⟨.slice ada q.arg.length capa, .slice ads q.src.length caps, .slice adc q.cond.length capc⟩ ⟨q.agg, q.arg, q.src, false, q.cond, q.win, q.key, q.late⟩)
    unfold qyBox at S2b
    dsimp only at S2b
    go_wp2_with fail
    refine (CX.out _ S2b.out.base).mono ?_
    rintro e w3 ⟨rfl, hb⟩
    clear c0 c1 c2 c3 c4 c5 c6 c7 c8 c9 x2 x3 x5
    have S3 := Lib.hid (S2b.out.below hb)
    obtain ⟨c0, c1, c2, c3, c4, c5, c6, c7, c8, c9⟩ := S3.out.at0.cells
    dsimp only at c1 c2 c4
    clear hb
    go_wp2_with fail
    refine (AL.out _ S3.out.base).mono ?_
    rintro e w4 ⟨rfl, hb⟩
    clear c0 c1 c2 c3 c4 c5 c6 c7 c8 c9
    have S4 := Lib.hid (S3.out.below hb)
    clear hb
    go_wp2_with fail
    go_ret
    exact ⟨rfl, S4.out.base⟩
  have hj' : q.join = false := by cases hq : q.join; rfl; exact absurd hq hj
  rw [show (!q.join) = true by rw [hj']; rfl] at JO
  have CX := Lib.hid (CO.out true)
  rw [JO] at CX
  by_cases h2 : q.src.length = 2
  case neg =>
    rw [both_src h2, if_neg (by simp)] at CX
    have q1 : ((q.src.length : Int) == 2) = false := by rw [beq_eq_false_iff_ne]; omega
    have QF := Lib.hid (And.intro hj' q1)
    clear hj hj' h2 q1 JO JB hc CO
    go_enter Tryd.func7, Tryd.ntmps7
    obtain ⟨c0, c1, c2, c3, c4, c5, c6, c7, c8, c9⟩ := S0.out.at0.cells
    dsimp only at c1 c2 c4
    go_wp2_with fail
    refine (GR.out _ S0.out.base).mono ?_
    rintro e w1 ⟨rfl, hb⟩
    clear c0 c1 c2 c3 c4 c5 c6 c7 c8 c9
    have S1 := Lib.hid (S0.out.below hb)
    obtain ⟨c0, c1, c2, c3, c4, c5, c6, c7, c8, c9⟩ := S1.out.at0.cells
    dsimp only at c1 c2 c4
    clear hb
    go_wp2_with fail
    refine (CK.out _ S1.out.base).mono ?_
    rintro e w2 ⟨rfl, hb⟩
    clear c0 c1 c2 c3 c4 c5 c6 c7 c8 c9
    have S2 := Lib.hid (S1.out.below hb)
    obtain ⟨hj, q1⟩ := QF.out
    obtain ⟨_, _, x2, x3, _, x5, _, _, _, _⟩ := S2.out.at0.past
    dsimp only at x2
    obtain ⟨c0, c1, c2, c3, c4, c5, c6, c7, c8, c9⟩ := S2.out.at0.cells
    dsimp only at c1 c2 c4
    clear hb
    have S2b := Lib.hid (S2.out.box w2.heap.size rfl ⟨.slice ada q.arg.length capa, .slice ads q.src.length caps, .slice adc q.cond.length capc⟩ ⟨q.agg, q.arg, q.src, true, q.cond, q.win, q.key, q.late⟩)
    unfold qyBox at S2b
    dsimp only at S2b
    go_wp2_with fail
    refine (CX.out _ S2b.out.base).mono ?_
    rintro e w3 ⟨rfl, hb⟩
    clear c0 c1 c2 c3 c4 c5 c6 c7 c8 c9 x2 x3 x5
    have S3 := Lib.hid (S2b.out.below hb)
    obtain ⟨c0, c1, c2, c3, c4, c5, c6, c7, c8, c9⟩ := S3.out.at0.cells
    dsimp only at c1 c2 c4
    clear hb
    go_wp2_with fail
    refine (CX.out _ S3.out.base).mono ?_
    rintro e w4 ⟨rfl, hb⟩
    clear c0 c1 c2 c3 c4 c5 c6 c7 c8 c9
    have S4 := Lib.hid (S3.out.below hb)
    obtain ⟨c0, c1, c2, c3, c4, c5, c6, c7, c8, c9⟩ := S4.out.at0.cells
    dsimp only at c1 c2 c4
    clear hb
    go_wp2_with fail
    refine (AL.out _ S4.out.base).mono ?_
    rintro e w5 ⟨rfl, hb⟩
    clear c0 c1 c2 c3 c4 c5 c6 c7 c8 c9
    have S5 := Lib.hid (S4.out.below hb)
    clear hb
    go_wp2_with fail
    go_ret
    exact ⟨rfl, S5.out.base⟩
  have q1 : ((q.src.length : Int) == 2) = true := by rw [beq_iff_eq]; omega
  by_cases h3 : q.win.kind = 1
  · rw [both_yes h2 h3, if_pos rfl] at CX
    have q2 : (q.win.kind == 1) = true := by rw [beq_iff_eq]; exact h3
    have QF := Lib.hid (And.intro hj' (And.intro q1 q2))
    clear hj hj' h2 h3 q1 q2 JO JB hc CO
    go_enter Tryd.func7, Tryd.ntmps7
    obtain ⟨c0, c1, c2, c3, c4, c5, c6, c7, c8, c9⟩ := S0.out.at0.cells
    dsimp only at c1 c2 c4
    go_wp2_with fail
    refine (GR.out _ S0.out.base).mono ?_
    rintro e w1 ⟨rfl, hb⟩
    clear c0 c1 c2 c3 c4 c5 c6 c7 c8 c9
    have S1 := Lib.hid (S0.out.below hb)
    obtain ⟨c0, c1, c2, c3, c4, c5, c6, c7, c8, c9⟩ := S1.out.at0.cells
    dsimp only at c1 c2 c4
    clear hb
    go_wp2_with fail
    refine (CK.out _ S1.out.base).mono ?_
    rintro e w2 ⟨rfl, hb⟩
    clear c0 c1 c2 c3 c4 c5 c6 c7 c8 c9
    have S2 := Lib.hid (S1.out.below hb)
    obtain ⟨hj, q1, q2⟩ := QF.out
    obtain ⟨_, _, x2, x3, _, x5, _, _, _, _⟩ := S2.out.at0.past
    dsimp only at x2
    obtain ⟨c0, c1, c2, c3, c4, c5, c6, c7, c8, c9⟩ := S2.out.at0.cells
    dsimp only at c1 c2 c4
    clear hb
    have S2b := Lib.hid (S2.out.box w2.heap.size rfl ⟨.slice ada q.arg.length capa, .slice ads q.src.length caps, .slice adc q.cond.length capc⟩ ⟨q.agg, q.arg, q.src, true, q.cond, q.win, q.key, q.late⟩)
    unfold qyBox at S2b
    dsimp only at S2b
    go_wp2_with fail
    refine (CX.out _ S2b.out.base).mono ?_
    rintro e w3 ⟨rfl, hb⟩
    clear c0 c1 c2 c3 c4 c5 c6 c7 c8 c9 x2 x3 x5
    have S3 := Lib.hid (S2b.out.below hb)
    obtain ⟨c0, c1, c2, c3, c4, c5, c6, c7, c8, c9⟩ := S3.out.at0.cells
    dsimp only at c1 c2 c4
    clear hb
    go_wp2_with fail
    refine (AL.out _ S3.out.base).mono ?_
    rintro e w4 ⟨rfl, hb⟩
    clear c0 c1 c2 c3 c4 c5 c6 c7 c8 c9
    have S4 := Lib.hid (S3.out.below hb)
    clear hb
    go_wp2_with fail
    go_ret
    exact ⟨rfl, S4.out.base⟩
  rw [both_kind h3, if_neg (by simp)] at CX
  have q2 : (q.win.kind == 1) = false := by rw [beq_eq_false_iff_ne]; exact h3
  have QF := Lib.hid (And.intro hj' (And.intro q1 q2))
  clear hj hj' h2 h3 q1 q2 JO JB hc CO
  go_enter Tryd.func7, Tryd.ntmps7
  obtain ⟨c0, c1, c2, c3, c4, c5, c6, c7, c8, c9⟩ := S0.out.at0.cells
  dsimp only at c1 c2 c4
  go_wp2_with fail
  refine (GR.out _ S0.out.base).mono ?_
  rintro e w1 ⟨rfl, hb⟩
  clear c0 c1 c2 c3 c4 c5 c6 c7 c8 c9
  have S1 := Lib.hid (S0.out.below hb)
  obtain ⟨c0, c1, c2, c3, c4, c5, c6, c7, c8, c9⟩ := S1.out.at0.cells
  dsimp only at c1 c2 c4
  clear hb
  go_wp2_with fail
  refine (CK.out _ S1.out.base).mono ?_
  rintro e w2 ⟨rfl, hb⟩
  clear c0 c1 c2 c3 c4 c5 c6 c7 c8 c9
  have S2 := Lib.hid (S1.out.below hb)
  obtain ⟨hj, q1, q2⟩ := QF.out
  obtain ⟨_, _, x2, x3, _, x5, _, _, _, _⟩ := S2.out.at0.past
  dsimp only at x2
  obtain ⟨c0, c1, c2, c3, c4, c5, c6, c7, c8, c9⟩ := S2.out.at0.cells
  dsimp only at c1 c2 c4
  clear hb
  have S2b := Lib.hid (S2.out.box w2.heap.size rfl ⟨.slice ada q.arg.length capa, .slice ads q.src.length caps, .slice adc q.cond.length capc⟩ ⟨q.agg, q.arg, q.src, true, q.cond, q.win, q.key, q.late⟩)
  unfold qyBox at S2b
  dsimp only at S2b
  go_wp2_with fail
  refine (CX.out _ S2b.out.base).mono ?_
  rintro e w3 ⟨rfl, hb⟩
  clear c0 c1 c2 c3 c4 c5 c6 c7 c8 c9 x2 x3 x5
  have S3 := Lib.hid (S2b.out.below hb)
  obtain ⟨c0, c1, c2, c3, c4, c5, c6, c7, c8, c9⟩ := S3.out.at0.cells
  dsimp only at c1 c2 c4
  clear hb
  go_wp2_with fail
  refine (CX.out _ S3.out.base).mono ?_
  rintro e w4 ⟨rfl, hb⟩
  clear c0 c1 c2 c3 c4 c5 c6 c7 c8 c9
  have S4 := Lib.hid (S3.out.below hb)
  obtain ⟨c0, c1, c2, c3, c4, c5, c6, c7, c8, c9⟩ := S4.out.at0.cells
  dsimp only at c1 c2 c4
  clear hb
  go_wp2_with fail
  refine (AL.out _ S4.out.base).mono ?_
  rintro e w5 ⟨rfl, hb⟩
  clear c0 c1 c2 c3 c4 c5 c6 c7 c8 c9
  have S5 := Lib.hid (S4.out.below hb)
  clear hb
  go_wp2_with fail
  go_ret
  exact ⟨rfl, S5.out.base⟩
end Go.Proofs.YtfmobnlnedljeaaDoor.Nodes

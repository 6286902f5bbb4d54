/-
  Contracts of the reference of layer 8: Great, Check.
-/
import Derived.Test.YtfmobnlnedljeaaDoorClauseAsks
import Derived.Test.YtfmobnlnedljeaaDoorRefSources
import Derived.Test.YtfmobnlnedljeaaDoorRefCheck
import Derived.Outline
namespace Go.Proofs.YtfmobnlnedljeaaDoor.Nodes
open Go.ChangeShapes Go.WideShapes Go.ChangeAt Go.RowKit

theorem greatQ_arg {q : Qy} (h : 70 < q.arg.length) : greatQ q = true := decide_eq_true (.inl h)
theorem greatQ_cond {q : Qy} (h : 70 < q.cond.length) : greatQ q = true := decide_eq_true (.inr (.inl h))
theorem greatQ_src {q : Qy} (h : 10 < q.src.length) : greatQ q = true := decide_eq_true (.inr (.inr h))
theorem greatQ_no {q : Qy} (h : ¬ 70 < q.arg.length) (h2 : ¬ 70 < q.cond.length) (h3 : ¬ 10 < q.src.length) : greatQ q = false := decide_eq_false (by omega)
set_option maxRecDepth 100000 in
set_option maxHeartbeats 2000000 in
theorem refGreat_any (s : Sl) (q : Qy) (w : World) (hR : ReadsQ w s q) :
    Calls Tryd.prog 23 #[qyVal s q] w fun e w' => e = .returned (.bool (greatQ q)) ∧ Below w.heap.size w w' := by
  have S0 := Lib.hid (sq_start w s q)
  have GA := Lib.hid (great_any s.arg q.arg (w.alloc (qyBox s q)) (hR.arg.below (box_below _ _)))
  have GC := Lib.hid (great_any s.cond q.cond (w.alloc (qyBox s q)) (hR.cond.below (box_below _ _)))
  obtain ⟨sa, ss, sc⟩ := s
  have hsrc : ReadsI w ss q.src := hR.src
  obtain ⟨ad, cap, rfl⟩ := hsrc.shape
  unfold qyBox at S0 GA GC
  unfold qyVal qyRow
  dsimp only at GA GC ⊢
  clear hR hsrc
  by_cases h1 : 70 < q.arg.length
  · rw [decide_eq_true h1] at GA
    rw [greatQ_arg h1]
    clear h1 GC
    go_enter Tryd.func23, Tryd.ntmps23
    go_wp2_with fail
    refine (GA.out).mono ?_
    rintro e w0' ⟨rfl, rfl⟩
    go_wp2_with fail
    go_ret
    exact ⟨rfl, S0.out.base⟩
  rw [decide_eq_false h1] at GA
  by_cases h2 : 70 < q.cond.length
  · rw [decide_eq_true h2] at GC
    rw [greatQ_cond h2]
    clear h1 h2
    go_enter Tryd.func23, Tryd.ntmps23
    go_wp2_with fail
    refine (GA.out).mono ?_
    rintro e w0' ⟨rfl, rfl⟩
    go_wp2_with fail
    refine (GC.out).mono ?_
    rintro e w0' ⟨rfl, rfl⟩
    go_wp2_with fail
    go_ret
    exact ⟨rfl, S0.out.base⟩
  rw [decide_eq_false h2] at GC
  by_cases h3 : 10 < q.src.length
  · rw [greatQ_src h3]
    have hd : decide ((10 : Int) < q.src.length) = true := decide_eq_true (by omega)
    clear h1 h2 h3
    go_enter Tryd.func23, Tryd.ntmps23
    go_wp2_with fail
    refine (GA.out).mono ?_
    rintro e w0' ⟨rfl, rfl⟩
    go_wp2_with fail
    refine (GC.out).mono ?_
    rintro e w0' ⟨rfl, rfl⟩
    go_wp2_with fail
    go_ret
    exact ⟨rfl, S0.out.base⟩
  rw [greatQ_no h1 h2 h3]
  have hd : decide ((10 : Int) < q.src.length) = false := decide_eq_false (by omega)
  clear h1 h2 h3
  go_enter Tryd.func23, Tryd.ntmps23
  go_wp2_with fail
  refine (GA.out).mono ?_
  rintro e w0' ⟨rfl, rfl⟩
  go_wp2_with fail
  refine (GC.out).mono ?_
  rintro e w0' ⟨rfl, rfl⟩
  go_wp2_with fail
  go_ret
  exact ⟨rfl, S0.out.base⟩
set_option maxRecDepth 100000 in
set_option maxHeartbeats 2000000 in
theorem refCheckQ_any (s : Sl) (q : Qy) (w : World) (hR : ReadsQ w s q) (ha : q.arg.length ≤ 1000000) (hc : q.cond.length ≤ 1000000) (hs : q.src.length ≤ 9223372036854775807) :
    Calls Tryd.prog 26 #[qyVal s q] w fun e w' => e = .returned (.int .i64 (checkQ q)) ∧ Below w.heap.size w w' := by
  have AR := Lib.hid (fun (W : World) (h : SQ w W s q) => to_sq h (refCheck_any s.arg q.arg W (hR.arg.below h.base) ha))
  have CO := Lib.hid (fun (W : World) (h : SQ w W s q) => to_sq h (refCheck_any s.cond q.cond W (hR.cond.below h.base) hc))
  have SO := Lib.hid (fun (W : World) (h : SQ w W s q) => to_sq h (by_draws (refSources_any s.src q.src q.join W (hR.src.below h.base) hs)))
  have WI := Lib.hid (fun (W : World) (h : SQ w W s q) => to_sq h (refFits_any q.win W))
  have S0 := Lib.hid (sq_start w s q)
  obtain ⟨sa, ss, sc⟩ := s
  have harg : ReadsN w sa q.arg := hR.arg
  have hcnd : ReadsN w sc q.cond := hR.cond
  obtain ⟨ada, capa, rfl⟩ := harg.shape
  obtain ⟨adc, capc, rfl⟩ := hcnd.shape
  unfold qyBox at S0
  unfold winVal at WI
  unfold qyVal qyRow
  dsimp only at AR CO SO WI S0 ⊢
  obtain ⟨ea, hea⟩ : ∃ e, argV q.agg q.arg = e := ⟨_, rfl⟩
  obtain ⟨ec, hec⟩ : ∃ e, condV q.cond = e := ⟨_, rfl⟩
  obtain ⟨es, hes⟩ : ∃ e, sourcesV q.src q.join = e := ⟨_, rfl⟩
  rw [hes] at SO
  clear hR harg hcnd ha hc hs
  by_cases xa0 : q.agg < 1
  · have H : Hid (checkQ q = 8) := Lib.hid (if_pos (decide_eq_false (by omega)))
    have hd0 : decide (q.agg < 1) = true := decide_eq_true xa0
    clear hea hec hes
    go_enter Tryd.func26, Tryd.ntmps26
    go_wp2_with fail
    go_ret
    exact ⟨by rw [H.out]; rfl, S0.out.base⟩
  have hd0 : decide (q.agg < 1) = false := decide_eq_false xa0
  by_cases xa4 : 4 < q.agg
  · have H : Hid (checkQ q = 8) := Lib.hid (if_pos (decide_eq_false (by omega)))
    have hd1 : decide (4 < q.agg) = true := decide_eq_true xa4
    clear hea hec hes
    go_enter Tryd.func26, Tryd.ntmps26
    go_wp2_with fail
    go_ret
    exact ⟨by rw [H.out]; rfl, S0.out.base⟩
  have hd1 : decide (4 < q.agg) = false := decide_eq_false xa4
  by_cases xl0 : q.late < 1
  · have H : Hid (checkQ q = 8) := Lib.hid (if_pos (decide_eq_false (by omega)))
    have hd2 : decide (q.late < 1) = true := decide_eq_true xl0
    clear hea hec hes
    go_enter Tryd.func26, Tryd.ntmps26
    go_wp2_with fail
    go_ret
    exact ⟨by rw [H.out]; rfl, S0.out.base⟩
  have hd2 : decide (q.late < 1) = false := decide_eq_false xl0
  by_cases xl2 : 2 < q.late
  · have H : Hid (checkQ q = 8) := Lib.hid (if_pos (decide_eq_false (by omega)))
    have hd3 : decide (2 < q.late) = true := decide_eq_true xl2
    clear hea hec hes
    go_enter Tryd.func26, Tryd.ntmps26
    go_wp2_with fail
    go_ret
    exact ⟨by rw [H.out]; rfl, S0.out.base⟩
  have hd3 : decide (2 < q.late) = false := decide_eq_false xl2
  have hh : headB q = true := decide_eq_true (by omega)
  have n1 : ¬ headB q = false := by rw [hh]; simp
  clear xa0 xa4 xl0 xl2
  by_cases g1 : q.agg = 1
  · have qg : (q.agg == 1) = true := by rw [beq_iff_eq]; exact g1
    have qg2 : (q.agg != 1) = false := by rw [bne_eq_false_iff_eq]; exact g1
    have hav : argV q.agg q.arg = if q.arg.length = 0 then 0 else 8 := by unfold argV; rw [if_pos g1]
    by_cases a0 : q.arg.length = 0
    · rw [if_pos a0] at hav
      obtain rfl : ea = 0 := hea.symm.trans hav
      have hal : decide ((0 : Int) < q.arg.length) = false := decide_eq_false (by omega)
      have hal2 : decide (0 < q.arg.length) = false := decide_eq_false (by omega)
      have hal3 : ¬ (0 : Int) < q.arg.length := by omega
      clear hav a0 g1
      by_cases c0 : q.cond.length = 0
      · have hec0 : condV q.cond = 0 := by unfold condV; rw [if_pos c0]
        have hcl : decide ((0 : Int) < q.cond.length) = false := decide_eq_false (by omega)
        have hcl2 : decide (0 < q.cond.length) = false := decide_eq_false (by omega)
        have hcl3 : ¬ (0 : Int) < q.cond.length := by omega
        obtain rfl : ec = 0 := hec.symm.trans hec0
        clear hec0 c0
        by_cases z2 : es = 0
        case neg =>
          have qz : (es != 0) = true := by rw [bne_iff_ne]; exact z2
          have H : Hid (checkQ q = es) := Lib.hid (by unfold checkQ; rw [if_neg n1, if_neg (by rw [hea]; simp), if_neg (by rw [hec]; simp), if_pos (by rw [hes]; exact z2), hes])
          clear hh n1 hea hec hes z2
          go_enter Tryd.func26, Tryd.ntmps26
          go_wp2_with fail
          refine (SO.out _ S0.out).mono ?_
          rintro e w1 ⟨rfl, hs⟩
          have S1 := Lib.hid hs
          obtain ⟨c0, c1, c2, c3, c4, c5, c6, c7, c8, c9⟩ := S1.out.at_.cells
          dsimp only at c1 c2 c4
          clear hs
          go_wp2_with fail
          refine (SO.out _ S1.out).mono ?_
          rintro e w2 ⟨rfl, hs⟩
          have S2 := Lib.hid hs
          clear c0 c1 c2 c3 c4 c5 c6 c7 c8 c9
          obtain ⟨c0, c1, c2, c3, c4, c5, c6, c7, c8, c9⟩ := S2.out.at_.cells
          dsimp only at c1 c2 c4
          clear hs
          go_wp2_with fail
          go_ret
          exact ⟨by rw [H.out]; rfl, S2.out.base⟩
        subst z2
        cases hw : fitsW q.win
        · rw [hw] at WI
          have H : Hid (checkQ q = 8) := Lib.hid (by unfold checkQ; rw [if_neg n1, if_neg (by rw [hea]; simp), if_neg (by rw [hec]; simp), if_neg (by rw [hes]; simp), windowV_no hw]; rfl)
          clear hh n1 hea hec hes hw
          go_enter Tryd.func26, Tryd.ntmps26
          go_wp2_with fail
          refine (SO.out _ S0.out).mono ?_
          rintro e w1 ⟨rfl, hs⟩
          have S1 := Lib.hid hs
          obtain ⟨c0, c1, c2, c3, c4, c5, c6, c7, c8, c9⟩ := S1.out.at_.cells
          dsimp only at c1 c2 c4
          clear hs
          go_wp2_with fail
          refine (WI.out _ S1.out).mono ?_
          rintro e w2 ⟨rfl, hs⟩
          have S2 := Lib.hid hs
          clear c0 c1 c2 c3 c4 c5 c6 c7 c8 c9
          obtain ⟨c0, c1, c2, c3, c4, c5, c6, c7, c8, c9⟩ := S2.out.at_.cells
          dsimp only at c1 c2 c4
          clear hs
          go_wp2_with fail
          go_ret
          exact ⟨by rw [H.out]; rfl, S2.out.base⟩
        rw [hw] at WI
        have ht : checkQ q = tailV q := checkQ_tail hh hea hec hes (windowV_yes hw)
        clear hea hec hes n1 hh hw
        by_cases hj : q.join = false
        · have H : Hid (checkQ q = 0) := Lib.hid (by rw [ht]; unfold tailV; rw [if_neg (fun e => by rw [hj] at e; cases e.1)])
          have HJ := Lib.hid hj
          clear ht hj
          go_enter Tryd.func26, Tryd.ntmps26
          go_wp2_with fail
          refine (SO.out _ S0.out).mono ?_
          rintro e w1 ⟨rfl, hs⟩
          have S1 := Lib.hid hs
          obtain ⟨c0, c1, c2, c3, c4, c5, c6, c7, c8, c9⟩ := S1.out.at_.cells
          dsimp only at c1 c2 c4
          clear hs
          go_wp2_with fail
          refine (WI.out _ S1.out).mono ?_
          rintro e w2 ⟨rfl, hs⟩
          have S2 := Lib.hid hs
          clear c0 c1 c2 c3 c4 c5 c6 c7 c8 c9
          have hj := HJ.out
          obtain ⟨c0, c1, c2, c3, c4, c5, c6, c7, c8, c9⟩ := S2.out.at_.cells
          dsimp only at c1 c2 c4
          clear hs
          go_wp2_with fail
          go_ret
          exact ⟨by rw [H.out]; rfl, S2.out.base⟩
        replace hj : q.join = true := by cases hq : q.join; exact absurd hq hj; rfl
        by_cases hk : q.win.kind = 1
        · have H : Hid (checkQ q = 0) := Lib.hid (by rw [ht]; unfold tailV; rw [if_neg (fun e => e.2 hk)])
          have qk : (q.win.kind != 1) = false := by rw [bne_eq_false_iff_eq]; exact hk
          have HJ := Lib.hid (And.intro hj qk)
          clear ht hk hj qk
          go_enter Tryd.func26, Tryd.ntmps26
          go_wp2_with fail
          refine (SO.out _ S0.out).mono ?_
          rintro e w1 ⟨rfl, hs⟩
          have S1 := Lib.hid hs
          obtain ⟨c0, c1, c2, c3, c4, c5, c6, c7, c8, c9⟩ := S1.out.at_.cells
          dsimp only at c1 c2 c4
          clear hs
          go_wp2_with fail
          refine (WI.out _ S1.out).mono ?_
          rintro e w2 ⟨rfl, hs⟩
          have S2 := Lib.hid hs
          clear c0 c1 c2 c3 c4 c5 c6 c7 c8 c9
          obtain ⟨hj, qk⟩ := HJ.out
          obtain ⟨c0, c1, c2, c3, c4, c5, c6, c7, c8, c9⟩ := S2.out.at_.cells
          dsimp only at c1 c2 c4
          clear hs
          go_wp2_with fail
          go_ret
          exact ⟨by rw [H.out]; rfl, S2.out.base⟩
        have H : Hid (checkQ q = 8) := Lib.hid (by rw [ht]; unfold tailV; rw [if_pos ⟨hj, hk⟩])
        have qk : (q.win.kind != 1) = true := by rw [bne_iff_ne]; exact hk
        have HJ := Lib.hid (And.intro hj qk)
        clear ht hk hj qk
        go_enter Tryd.func26, Tryd.ntmps26
        go_wp2_with fail
        refine (SO.out _ S0.out).mono ?_
        rintro e w1 ⟨rfl, hs⟩
        have S1 := Lib.hid hs
        obtain ⟨c0, c1, c2, c3, c4, c5, c6, c7, c8, c9⟩ := S1.out.at_.cells
        dsimp only at c1 c2 c4
        clear hs
        go_wp2_with fail
        refine (WI.out _ S1.out).mono ?_
        rintro e w2 ⟨rfl, hs⟩
        have S2 := Lib.hid hs
        clear c0 c1 c2 c3 c4 c5 c6 c7 c8 c9
        obtain ⟨hj, qk⟩ := HJ.out
        obtain ⟨c0, c1, c2, c3, c4, c5, c6, c7, c8, c9⟩ := S2.out.at_.cells
        dsimp only at c1 c2 c4
        clear hs
        go_wp2_with fail
        go_ret
        exact ⟨by rw [H.out]; rfl, S2.out.base⟩
      have hcl : decide ((0 : Int) < q.cond.length) = true := decide_eq_true (by omega)
      have hcl2 : decide (0 < q.cond.length) = true := decide_eq_true (by omega)
      have hcl3 : (0 : Int) < q.cond.length := by omega
      have hcv : condV q.cond = checkV q.cond := by unfold condV; rw [if_neg c0]
      rw [← hcv, hec] at CO
      clear hcv c0
      by_cases z1 : ec = 0
      case neg =>
        have qz1 : (ec != 0) = true := by rw [bne_iff_ne]; exact z1
        have H : Hid (checkQ q = ec) := Lib.hid (by unfold checkQ; rw [if_neg n1, if_neg (by rw [hea]; simp), if_pos (by rw [hec]; exact z1), hec])
        clear hh n1 hea hec hes z1
        go_enter Tryd.func26, Tryd.ntmps26
        go_wp2_with fail
        refine (CO.out _ S0.out).mono ?_
        rintro e w1 ⟨rfl, hs⟩
        have S1 := Lib.hid hs
        obtain ⟨c0, c1, c2, c3, c4, c5, c6, c7, c8, c9⟩ := S1.out.at_.cells
        dsimp only at c1 c2 c4
        clear hs
        go_wp2_with fail
        refine (CO.out _ S1.out).mono ?_
        rintro e w2 ⟨rfl, hs⟩
        have S2 := Lib.hid hs
        clear c0 c1 c2 c3 c4 c5 c6 c7 c8 c9
        obtain ⟨c0, c1, c2, c3, c4, c5, c6, c7, c8, c9⟩ := S2.out.at_.cells
        dsimp only at c1 c2 c4
        clear hs
        go_wp2_with fail
        go_ret
        exact ⟨by rw [H.out]; rfl, S2.out.base⟩
      subst z1
      by_cases z2 : es = 0
      case neg =>
        have qz : (es != 0) = true := by rw [bne_iff_ne]; exact z2
        have H : Hid (checkQ q = es) := Lib.hid (by unfold checkQ; rw [if_neg n1, if_neg (by rw [hea]; simp), if_neg (by rw [hec]; simp), if_pos (by rw [hes]; exact z2), hes])
        clear hh n1 hea hec hes z2
        go_enter Tryd.func26, Tryd.ntmps26
        go_wp2_with fail
        refine (CO.out _ S0.out).mono ?_
        rintro e w1 ⟨rfl, hs⟩
        have S1 := Lib.hid hs
        obtain ⟨c0, c1, c2, c3, c4, c5, c6, c7, c8, c9⟩ := S1.out.at_.cells
        dsimp only at c1 c2 c4
        clear hs
        go_wp2_with fail
        refine (SO.out _ S1.out).mono ?_
        rintro e w2 ⟨rfl, hs⟩
        have S2 := Lib.hid hs
        clear c0 c1 c2 c3 c4 c5 c6 c7 c8 c9
        obtain ⟨c0, c1, c2, c3, c4, c5, c6, c7, c8, c9⟩ := S2.out.at_.cells
        dsimp only at c1 c2 c4
        clear hs
        go_wp2_with fail
        refine (SO.out _ S2.out).mono ?_
        rintro e w3 ⟨rfl, hs⟩
        have S3 := Lib.hid hs
        clear c0 c1 c2 c3 c4 c5 c6 c7 c8 c9
        obtain ⟨c0, c1, c2, c3, c4, c5, c6, c7, c8, c9⟩ := S3.out.at_.cells
        dsimp only at c1 c2 c4
        clear hs
        go_wp2_with fail
        go_ret
        exact ⟨by rw [H.out]; rfl, S3.out.base⟩
      subst z2
      cases hw : fitsW q.win
      · rw [hw] at WI
        have H : Hid (checkQ q = 8) := Lib.hid (by unfold checkQ; rw [if_neg n1, if_neg (by rw [hea]; simp), if_neg (by rw [hec]; simp), if_neg (by rw [hes]; simp), windowV_no hw]; rfl)
        clear hh n1 hea hec hes hw
        go_enter Tryd.func26, Tryd.ntmps26
        go_wp2_with fail
        refine (CO.out _ S0.out).mono ?_
        rintro e w1 ⟨rfl, hs⟩
        have S1 := Lib.hid hs
        obtain ⟨c0, c1, c2, c3, c4, c5, c6, c7, c8, c9⟩ := S1.out.at_.cells
        dsimp only at c1 c2 c4
        clear hs
        go_wp2_with fail
        refine (SO.out _ S1.out).mono ?_
        rintro e w2 ⟨rfl, hs⟩
        have S2 := Lib.hid hs
        clear c0 c1 c2 c3 c4 c5 c6 c7 c8 c9
        obtain ⟨c0, c1, c2, c3, c4, c5, c6, c7, c8, c9⟩ := S2.out.at_.cells
        dsimp only at c1 c2 c4
        clear hs
        go_wp2_with fail
        refine (WI.out _ S2.out).mono ?_
        rintro e w3 ⟨rfl, hs⟩
        have S3 := Lib.hid hs
        clear c0 c1 c2 c3 c4 c5 c6 c7 c8 c9
        obtain ⟨c0, c1, c2, c3, c4, c5, c6, c7, c8, c9⟩ := S3.out.at_.cells
        dsimp only at c1 c2 c4
        clear hs
        go_wp2_with fail
        go_ret
        exact ⟨by rw [H.out]; rfl, S3.out.base⟩
      rw [hw] at WI
      have ht : checkQ q = tailV q := checkQ_tail hh hea hec hes (windowV_yes hw)
      clear hea hec hes n1 hh hw
      by_cases hj : q.join = false
      · have H : Hid (checkQ q = 0) := Lib.hid (by rw [ht]; unfold tailV; rw [if_neg (fun e => by rw [hj] at e; cases e.1)])
        have HJ := Lib.hid hj
        clear ht hj
        go_enter Tryd.func26, Tryd.ntmps26
        go_wp2_with fail
        refine (CO.out _ S0.out).mono ?_
        rintro e w1 ⟨rfl, hs⟩
        have S1 := Lib.hid hs
        obtain ⟨c0, c1, c2, c3, c4, c5, c6, c7, c8, c9⟩ := S1.out.at_.cells
        dsimp only at c1 c2 c4
        clear hs
        go_wp2_with fail
        refine (SO.out _ S1.out).mono ?_
        rintro e w2 ⟨rfl, hs⟩
        have S2 := Lib.hid hs
        clear c0 c1 c2 c3 c4 c5 c6 c7 c8 c9
        obtain ⟨c0, c1, c2, c3, c4, c5, c6, c7, c8, c9⟩ := S2.out.at_.cells
        dsimp only at c1 c2 c4
        clear hs
        go_wp2_with fail
        refine (WI.out _ S2.out).mono ?_
        rintro e w3 ⟨rfl, hs⟩
        have S3 := Lib.hid hs
        clear c0 c1 c2 c3 c4 c5 c6 c7 c8 c9
        have hj := HJ.out
        obtain ⟨c0, c1, c2, c3, c4, c5, c6, c7, c8, c9⟩ := S3.out.at_.cells
        dsimp only at c1 c2 c4
        clear hs
        go_wp2_with fail
        go_ret
        exact ⟨by rw [H.out]; rfl, S3.out.base⟩
      replace hj : q.join = true := by cases hq : q.join; exact absurd hq hj; rfl
      by_cases hk : q.win.kind = 1
      · have H : Hid (checkQ q = 0) := Lib.hid (by rw [ht]; unfold tailV; rw [if_neg (fun e => e.2 hk)])
        have qk : (q.win.kind != 1) = false := by rw [bne_eq_false_iff_eq]; exact hk
        have HJ := Lib.hid (And.intro hj qk)
        clear ht hk hj qk
        go_enter Tryd.func26, Tryd.ntmps26
        go_wp2_with fail
        refine (CO.out _ S0.out).mono ?_
        rintro e w1 ⟨rfl, hs⟩
        have S1 := Lib.hid hs
        obtain ⟨c0, c1, c2, c3, c4, c5, c6, c7, c8, c9⟩ := S1.out.at_.cells
        dsimp only at c1 c2 c4
        clear hs
        go_wp2_with fail
        refine (SO.out _ S1.out).mono ?_
        rintro e w2 ⟨rfl, hs⟩
        have S2 := Lib.hid hs
        clear c0 c1 c2 c3 c4 c5 c6 c7 c8 c9
        obtain ⟨c0, c1, c2, c3, c4, c5, c6, c7, c8, c9⟩ := S2.out.at_.cells
        dsimp only at c1 c2 c4
        clear hs
        go_wp2_with fail
        refine (WI.out _ S2.out).mono ?_
        rintro e w3 ⟨rfl, hs⟩
        have S3 := Lib.hid hs
        clear c0 c1 c2 c3 c4 c5 c6 c7 c8 c9
        obtain ⟨hj, qk⟩ := HJ.out
        obtain ⟨c0, c1, c2, c3, c4, c5, c6, c7, c8, c9⟩ := S3.out.at_.cells
        dsimp only at c1 c2 c4
        clear hs
        go_wp2_with fail
        go_ret
        exact ⟨by rw [H.out]; rfl, S3.out.base⟩
      have H : Hid (checkQ q = 8) := Lib.hid (by rw [ht]; unfold tailV; rw [if_pos ⟨hj, hk⟩])
      have qk : (q.win.kind != 1) = true := by rw [bne_iff_ne]; exact hk
      have HJ := Lib.hid (And.intro hj qk)
      clear ht hk hj qk
      go_enter Tryd.func26, Tryd.ntmps26
      go_wp2_with fail
      refine (CO.out _ S0.out).mono ?_
      rintro e w1 ⟨rfl, hs⟩
      have S1 := Lib.hid hs
      obtain ⟨c0, c1, c2, c3, c4, c5, c6, c7, c8, c9⟩ := S1.out.at_.cells
      dsimp only at c1 c2 c4
      clear hs
      go_wp2_with fail
      refine (SO.out _ S1.out).mono ?_
      rintro e w2 ⟨rfl, hs⟩
      have S2 := Lib.hid hs
      clear c0 c1 c2 c3 c4 c5 c6 c7 c8 c9
      obtain ⟨c0, c1, c2, c3, c4, c5, c6, c7, c8, c9⟩ := S2.out.at_.cells
      dsimp only at c1 c2 c4
      clear hs
      go_wp2_with fail
      refine (WI.out _ S2.out).mono ?_
      rintro e w3 ⟨rfl, hs⟩
      have S3 := Lib.hid hs
      clear c0 c1 c2 c3 c4 c5 c6 c7 c8 c9
      obtain ⟨hj, qk⟩ := HJ.out
      obtain ⟨c0, c1, c2, c3, c4, c5, c6, c7, c8, c9⟩ := S3.out.at_.cells
      dsimp only at c1 c2 c4
      clear hs
      go_wp2_with fail
      go_ret
      exact ⟨by rw [H.out]; rfl, S3.out.base⟩
    · rw [if_neg a0] at hav
      have H : Hid (checkQ q = 8) := Lib.hid (by unfold checkQ; rw [if_neg n1, if_pos (by rw [hav]; simp), hav])
      have hal : decide ((0 : Int) < q.arg.length) = true := decide_eq_true (by omega)
      have hal2 : decide (0 < q.arg.length) = true := decide_eq_true (by omega)
      have hal3 : (0 : Int) < q.arg.length := by omega
      clear hh n1 hea hec hes hav a0 g1
      go_enter Tryd.func26, Tryd.ntmps26
      go_wp2_with fail
      go_ret
      exact ⟨by rw [H.out]; rfl, S0.out.base⟩
  · have qg : (q.agg == 1) = false := by rw [beq_eq_false_iff_ne]; exact g1
    have qg2 : (q.agg != 1) = true := by rw [bne_iff_ne]; exact g1
    have hav : argV q.agg q.arg = checkV q.arg := by unfold argV; rw [if_neg g1]
    rw [← hav, hea] at AR
    clear hav g1
    by_cases z0 : ea = 0
    case neg =>
      have qz0 : (ea != 0) = true := by rw [bne_iff_ne]; exact z0
      have H : Hid (checkQ q = ea) := Lib.hid (by unfold checkQ; rw [if_neg n1, if_pos (by rw [hea]; exact z0), hea])
      clear hh n1 hea hec hes z0
      go_enter Tryd.func26, Tryd.ntmps26
      go_wp2_with fail
      refine (AR.out _ S0.out).mono ?_
      rintro e w1 ⟨rfl, hs⟩
      have S1 := Lib.hid hs
      obtain ⟨c0, c1, c2, c3, c4, c5, c6, c7, c8, c9⟩ := S1.out.at_.cells
      dsimp only at c1 c2 c4
      clear hs
      go_wp2_with fail
      refine (AR.out _ S1.out).mono ?_
      rintro e w2 ⟨rfl, hs⟩
      have S2 := Lib.hid hs
      clear c0 c1 c2 c3 c4 c5 c6 c7 c8 c9
      obtain ⟨c0, c1, c2, c3, c4, c5, c6, c7, c8, c9⟩ := S2.out.at_.cells
      dsimp only at c1 c2 c4
      clear hs
      go_wp2_with fail
      go_ret
      exact ⟨by rw [H.out]; rfl, S2.out.base⟩
    subst z0
    by_cases c0 : q.cond.length = 0
    · have hec0 : condV q.cond = 0 := by unfold condV; rw [if_pos c0]
      have hcl : decide ((0 : Int) < q.cond.length) = false := decide_eq_false (by omega)
      have hcl2 : decide (0 < q.cond.length) = false := decide_eq_false (by omega)
      have hcl3 : ¬ (0 : Int) < q.cond.length := by omega
      obtain rfl : ec = 0 := hec.symm.trans hec0
      clear hec0 c0
      by_cases z2 : es = 0
      case neg =>
        have qz : (es != 0) = true := by rw [bne_iff_ne]; exact z2
        have H : Hid (checkQ q = es) := Lib.hid (by unfold checkQ; rw [if_neg n1, if_neg (by rw [hea]; simp), if_neg (by rw [hec]; simp), if_pos (by rw [hes]; exact z2), hes])
        clear hh n1 hea hec hes z2
        go_enter Tryd.func26, Tryd.ntmps26
        go_wp2_with fail
        refine (AR.out _ S0.out).mono ?_
        rintro e w1 ⟨rfl, hs⟩
        have S1 := Lib.hid hs
        obtain ⟨c0, c1, c2, c3, c4, c5, c6, c7, c8, c9⟩ := S1.out.at_.cells
        dsimp only at c1 c2 c4
        clear hs
        go_wp2_with fail
        refine (SO.out _ S1.out).mono ?_
        rintro e w2 ⟨rfl, hs⟩
        have S2 := Lib.hid hs
        clear c0 c1 c2 c3 c4 c5 c6 c7 c8 c9
        obtain ⟨c0, c1, c2, c3, c4, c5, c6, c7, c8, c9⟩ := S2.out.at_.cells
        dsimp only at c1 c2 c4
        clear hs
        go_wp2_with fail
        refine (SO.out _ S2.out).mono ?_
        rintro e w3 ⟨rfl, hs⟩
        have S3 := Lib.hid hs
        clear c0 c1 c2 c3 c4 c5 c6 c7 c8 c9
        obtain ⟨c0, c1, c2, c3, c4, c5, c6, c7, c8, c9⟩ := S3.out.at_.cells
        dsimp only at c1 c2 c4
        clear hs
        go_wp2_with fail
        go_ret
        exact ⟨by rw [H.out]; rfl, S3.out.base⟩
      subst z2
      cases hw : fitsW q.win
      · rw [hw] at WI
        have H : Hid (checkQ q = 8) := Lib.hid (by unfold checkQ; rw [if_neg n1, if_neg (by rw [hea]; simp), if_neg (by rw [hec]; simp), if_neg (by rw [hes]; simp), windowV_no hw]; rfl)
        clear hh n1 hea hec hes hw
        go_enter Tryd.func26, Tryd.ntmps26
        go_wp2_with fail
        refine (AR.out _ S0.out).mono ?_
        rintro e w1 ⟨rfl, hs⟩
        have S1 := Lib.hid hs
        obtain ⟨c0, c1, c2, c3, c4, c5, c6, c7, c8, c9⟩ := S1.out.at_.cells
        dsimp only at c1 c2 c4
        clear hs
        go_wp2_with fail
        refine (SO.out _ S1.out).mono ?_
        rintro e w2 ⟨rfl, hs⟩
        have S2 := Lib.hid hs
        clear c0 c1 c2 c3 c4 c5 c6 c7 c8 c9
        obtain ⟨c0, c1, c2, c3, c4, c5, c6, c7, c8, c9⟩ := S2.out.at_.cells
        dsimp only at c1 c2 c4
        clear hs
        go_wp2_with fail
        refine (WI.out _ S2.out).mono ?_
        rintro e w3 ⟨rfl, hs⟩
        have S3 := Lib.hid hs
        clear c0 c1 c2 c3 c4 c5 c6 c7 c8 c9
        obtain ⟨c0, c1, c2, c3, c4, c5, c6, c7, c8, c9⟩ := S3.out.at_.cells
        dsimp only at c1 c2 c4
        clear hs
        go_wp2_with fail
        go_ret
        exact ⟨by rw [H.out]; rfl, S3.out.base⟩
      rw [hw] at WI
      have ht : checkQ q = tailV q := checkQ_tail hh hea hec hes (windowV_yes hw)
      clear hea hec hes n1 hh hw
      by_cases hj : q.join = false
      · have H : Hid (checkQ q = 0) := Lib.hid (by rw [ht]; unfold tailV; rw [if_neg (fun e => by rw [hj] at e; cases e.1)])
        have HJ := Lib.hid hj
        clear ht hj
        go_enter Tryd.func26, Tryd.ntmps26
        go_wp2_with fail
        refine (AR.out _ S0.out).mono ?_
        rintro e w1 ⟨rfl, hs⟩
        have S1 := Lib.hid hs
        obtain ⟨c0, c1, c2, c3, c4, c5, c6, c7, c8, c9⟩ := S1.out.at_.cells
        dsimp only at c1 c2 c4
        clear hs
        go_wp2_with fail
        refine (SO.out _ S1.out).mono ?_
        rintro e w2 ⟨rfl, hs⟩
        have S2 := Lib.hid hs
        clear c0 c1 c2 c3 c4 c5 c6 c7 c8 c9
        obtain ⟨c0, c1, c2, c3, c4, c5, c6, c7, c8, c9⟩ := S2.out.at_.cells
        dsimp only at c1 c2 c4
        clear hs
        go_wp2_with fail
        refine (WI.out _ S2.out).mono ?_
        rintro e w3 ⟨rfl, hs⟩
        have S3 := Lib.hid hs
        clear c0 c1 c2 c3 c4 c5 c6 c7 c8 c9
        have hj := HJ.out
        obtain ⟨c0, c1, c2, c3, c4, c5, c6, c7, c8, c9⟩ := S3.out.at_.cells
        dsimp only at c1 c2 c4
        clear hs
        go_wp2_with fail
        go_ret
        exact ⟨by rw [H.out]; rfl, S3.out.base⟩
      replace hj : q.join = true := by cases hq : q.join; exact absurd hq hj; rfl
      by_cases hk : q.win.kind = 1
      · have H : Hid (checkQ q = 0) := Lib.hid (by rw [ht]; unfold tailV; rw [if_neg (fun e => e.2 hk)])
        have qk : (q.win.kind != 1) = false := by rw [bne_eq_false_iff_eq]; exact hk
        have HJ := Lib.hid (And.intro hj qk)
        clear ht hk hj qk
        go_enter Tryd.func26, Tryd.ntmps26
        go_wp2_with fail
        refine (AR.out _ S0.out).mono ?_
        rintro e w1 ⟨rfl, hs⟩
        have S1 := Lib.hid hs
        obtain ⟨c0, c1, c2, c3, c4, c5, c6, c7, c8, c9⟩ := S1.out.at_.cells
        dsimp only at c1 c2 c4
        clear hs
        go_wp2_with fail
        refine (SO.out _ S1.out).mono ?_
        rintro e w2 ⟨rfl, hs⟩
        have S2 := Lib.hid hs
        clear c0 c1 c2 c3 c4 c5 c6 c7 c8 c9
        obtain ⟨c0, c1, c2, c3, c4, c5, c6, c7, c8, c9⟩ := S2.out.at_.cells
        dsimp only at c1 c2 c4
        clear hs
        go_wp2_with fail
        refine (WI.out _ S2.out).mono ?_
        rintro e w3 ⟨rfl, hs⟩
        have S3 := Lib.hid hs
        clear c0 c1 c2 c3 c4 c5 c6 c7 c8 c9
        obtain ⟨hj, qk⟩ := HJ.out
        obtain ⟨c0, c1, c2, c3, c4, c5, c6, c7, c8, c9⟩ := S3.out.at_.cells
        dsimp only at c1 c2 c4
        clear hs
        go_wp2_with fail
        go_ret
        exact ⟨by rw [H.out]; rfl, S3.out.base⟩
      have H : Hid (checkQ q = 8) := Lib.hid (by rw [ht]; unfold tailV; rw [if_pos ⟨hj, hk⟩])
      have qk : (q.win.kind != 1) = true := by rw [bne_iff_ne]; exact hk
      have HJ := Lib.hid (And.intro hj qk)
      clear ht hk hj qk
      go_enter Tryd.func26, Tryd.ntmps26
      go_wp2_with fail
      refine (AR.out _ S0.out).mono ?_
      rintro e w1 ⟨rfl, hs⟩
      have S1 := Lib.hid hs
      obtain ⟨c0, c1, c2, c3, c4, c5, c6, c7, c8, c9⟩ := S1.out.at_.cells
      dsimp only at c1 c2 c4
      clear hs
      go_wp2_with fail
      refine (SO.out _ S1.out).mono ?_
      rintro e w2 ⟨rfl, hs⟩
      have S2 := Lib.hid hs
      clear c0 c1 c2 c3 c4 c5 c6 c7 c8 c9
      obtain ⟨c0, c1, c2, c3, c4, c5, c6, c7, c8, c9⟩ := S2.out.at_.cells
      dsimp only at c1 c2 c4
      clear hs
      go_wp2_with fail
      refine (WI.out _ S2.out).mono ?_
      rintro e w3 ⟨rfl, hs⟩
      have S3 := Lib.hid hs
      clear c0 c1 c2 c3 c4 c5 c6 c7 c8 c9
      obtain ⟨hj, qk⟩ := HJ.out
      obtain ⟨c0, c1, c2, c3, c4, c5, c6, c7, c8, c9⟩ := S3.out.at_.cells
      dsimp only at c1 c2 c4
      clear hs
      go_wp2_with fail
      go_ret
      exact ⟨by rw [H.out]; rfl, S3.out.base⟩
    have hcl : decide ((0 : Int) < q.cond.length) = true := decide_eq_true (by omega)
    have hcl2 : decide (0 < q.cond.length) = true := decide_eq_true (by omega)
    have hcl3 : (0 : Int) < q.cond.length := by omega
    have hcv : condV q.cond = checkV q.cond := by unfold condV; rw [if_neg c0]
    rw [← hcv, hec] at CO
    clear hcv c0
    by_cases z1 : ec = 0
    case neg =>
      have qz1 : (ec != 0) = true := by rw [bne_iff_ne]; exact z1
      have H : Hid (checkQ q = ec) := Lib.hid (by unfold checkQ; rw [if_neg n1, if_neg (by rw [hea]; simp), if_pos (by rw [hec]; exact z1), hec])
      clear hh n1 hea hec hes z1
      go_enter Tryd.func26, Tryd.ntmps26
      go_wp2_with fail
      refine (AR.out _ S0.out).mono ?_
      rintro e w1 ⟨rfl, hs⟩
      have S1 := Lib.hid hs
      obtain ⟨c0, c1, c2, c3, c4, c5, c6, c7, c8, c9⟩ := S1.out.at_.cells
      dsimp only at c1 c2 c4
      clear hs
      go_wp2_with fail
      refine (CO.out _ S1.out).mono ?_
      rintro e w2 ⟨rfl, hs⟩
      have S2 := Lib.hid hs
      clear c0 c1 c2 c3 c4 c5 c6 c7 c8 c9
      obtain ⟨c0, c1, c2, c3, c4, c5, c6, c7, c8, c9⟩ := S2.out.at_.cells
      dsimp only at c1 c2 c4
      clear hs
      go_wp2_with fail
      refine (CO.out _ S2.out).mono ?_
      rintro e w3 ⟨rfl, hs⟩
      have S3 := Lib.hid hs
      clear c0 c1 c2 c3 c4 c5 c6 c7 c8 c9
      obtain ⟨c0, c1, c2, c3, c4, c5, c6, c7, c8, c9⟩ := S3.out.at_.cells
      dsimp only at c1 c2 c4
      clear hs
      go_wp2_with fail
      go_ret
      exact ⟨by rw [H.out]; rfl, S3.out.base⟩
    subst z1
    by_cases z2 : es = 0
    case neg =>
      have qz : (es != 0) = true := by rw [bne_iff_ne]; exact z2
      have H : Hid (checkQ q = es) := Lib.hid (by unfold checkQ; rw [if_neg n1, if_neg (by rw [hea]; simp), if_neg (by rw [hec]; simp), if_pos (by rw [hes]; exact z2), hes])
      clear hh n1 hea hec hes z2
      go_enter Tryd.func26, Tryd.ntmps26
      go_wp2_with fail
      refine (AR.out _ S0.out).mono ?_
      rintro e w1 ⟨rfl, hs⟩
      have S1 := Lib.hid hs
      obtain ⟨c0, c1, c2, c3, c4, c5, c6, c7, c8, c9⟩ := S1.out.at_.cells
      dsimp only at c1 c2 c4
      clear hs
      go_wp2_with fail
      refine (CO.out _ S1.out).mono ?_
      rintro e w2 ⟨rfl, hs⟩
      have S2 := Lib.hid hs
      clear c0 c1 c2 c3 c4 c5 c6 c7 c8 c9
      obtain ⟨c0, c1, c2, c3, c4, c5, c6, c7, c8, c9⟩ := S2.out.at_.cells
      dsimp only at c1 c2 c4
      clear hs
      go_wp2_with fail
      refine (SO.out _ S2.out).mono ?_
      rintro e w3 ⟨rfl, hs⟩
      have S3 := Lib.hid hs
      clear c0 c1 c2 c3 c4 c5 c6 c7 c8 c9
      obtain ⟨c0, c1, c2, c3, c4, c5, c6, c7, c8, c9⟩ := S3.out.at_.cells
      dsimp only at c1 c2 c4
      clear hs
      go_wp2_with fail
      refine (SO.out _ S3.out).mono ?_
      rintro e w4 ⟨rfl, hs⟩
      have S4 := Lib.hid hs
      clear c0 c1 c2 c3 c4 c5 c6 c7 c8 c9
      obtain ⟨c0, c1, c2, c3, c4, c5, c6, c7, c8, c9⟩ := S4.out.at_.cells
      dsimp only at c1 c2 c4
      clear hs
      go_wp2_with fail
      go_ret
      exact ⟨by rw [H.out]; rfl, S4.out.base⟩
    subst z2
    cases hw : fitsW q.win
    · rw [hw] at WI
      have H : Hid (checkQ q = 8) := Lib.hid (by unfold checkQ; rw [if_neg n1, if_neg (by rw [hea]; simp), if_neg (by rw [hec]; simp), if_neg (by rw [hes]; simp), windowV_no hw]; rfl)
      clear hh n1 hea hec hes hw
      go_enter Tryd.func26, Tryd.ntmps26
      go_wp2_with fail
      refine (AR.out _ S0.out).mono ?_
      rintro e w1 ⟨rfl, hs⟩
      have S1 := Lib.hid hs
      obtain ⟨c0, c1, c2, c3, c4, c5, c6, c7, c8, c9⟩ := S1.out.at_.cells
      dsimp only at c1 c2 c4
      clear hs
      go_wp2_with fail
      refine (CO.out _ S1.out).mono ?_
      rintro e w2 ⟨rfl, hs⟩
      have S2 := Lib.hid hs
      clear c0 c1 c2 c3 c4 c5 c6 c7 c8 c9
      obtain ⟨c0, c1, c2, c3, c4, c5, c6, c7, c8, c9⟩ := S2.out.at_.cells
      dsimp only at c1 c2 c4
      clear hs
      go_wp2_with fail
      refine (SO.out _ S2.out).mono ?_
      rintro e w3 ⟨rfl, hs⟩
      have S3 := Lib.hid hs
      clear c0 c1 c2 c3 c4 c5 c6 c7 c8 c9
      obtain ⟨c0, c1, c2, c3, c4, c5, c6, c7, c8, c9⟩ := S3.out.at_.cells
      dsimp only at c1 c2 c4
      clear hs
      go_wp2_with fail
      refine (WI.out _ S3.out).mono ?_
      rintro e w4 ⟨rfl, hs⟩
      have S4 := Lib.hid hs
      clear c0 c1 c2 c3 c4 c5 c6 c7 c8 c9
      obtain ⟨c0, c1, c2, c3, c4, c5, c6, c7, c8, c9⟩ := S4.out.at_.cells
      dsimp only at c1 c2 c4
      clear hs
      go_wp2_with fail
      go_ret
      exact ⟨by rw [H.out]; rfl, S4.out.base⟩
    rw [hw] at WI
    have ht : checkQ q = tailV q := checkQ_tail hh hea hec hes (windowV_yes hw)
    clear hea hec hes n1 hh hw
    by_cases hj : q.join = false
    · have H : Hid (checkQ q = 0) := Lib.hid (by rw [ht]; unfold tailV; rw [if_neg (fun e => by rw [hj] at e; cases e.1)])
      have HJ := Lib.hid hj
      clear ht hj
      go_enter Tryd.func26, Tryd.ntmps26
      go_wp2_with fail
      refine (AR.out _ S0.out).mono ?_
      rintro e w1 ⟨rfl, hs⟩
      have S1 := Lib.hid hs
      obtain ⟨c0, c1, c2, c3, c4, c5, c6, c7, c8, c9⟩ := S1.out.at_.cells
      dsimp only at c1 c2 c4
      clear hs
      go_wp2_with fail
      refine (CO.out _ S1.out).mono ?_
      rintro e w2 ⟨rfl, hs⟩
      have S2 := Lib.hid hs
      clear c0 c1 c2 c3 c4 c5 c6 c7 c8 c9
      obtain ⟨c0, c1, c2, c3, c4, c5, c6, c7, c8, c9⟩ := S2.out.at_.cells
      dsimp only at c1 c2 c4
      clear hs
      go_wp2_with fail
      refine (SO.out _ S2.out).mono ?_
      rintro e w3 ⟨rfl, hs⟩
      have S3 := Lib.hid hs
      clear c0 c1 c2 c3 c4 c5 c6 c7 c8 c9
      obtain ⟨c0, c1, c2, c3, c4, c5, c6, c7, c8, c9⟩ := S3.out.at_.cells
      dsimp only at c1 c2 c4
      clear hs
      go_wp2_with fail
      refine (WI.out _ S3.out).mono ?_
      rintro e w4 ⟨rfl, hs⟩
      have S4 := Lib.hid hs
      clear c0 c1 c2 c3 c4 c5 c6 c7 c8 c9
      have hj := HJ.out
      obtain ⟨c0, c1, c2, c3, c4, c5, c6, c7, c8, c9⟩ := S4.out.at_.cells
      dsimp only at c1 c2 c4
      clear hs
      go_wp2_with fail
      go_ret
      exact ⟨by rw [H.out]; rfl, S4.out.base⟩
    replace hj : q.join = true := by cases hq : q.join; exact absurd hq hj; rfl
    by_cases hk : q.win.kind = 1
    · have H : Hid (checkQ q = 0) := Lib.hid (by rw [ht]; unfold tailV; rw [if_neg (fun e => e.2 hk)])
      have qk : (q.win.kind != 1) = false := by rw [bne_eq_false_iff_eq]; exact hk
      have HJ := Lib.hid (And.intro hj qk)
      clear ht hk hj qk
      go_enter Tryd.func26, Tryd.ntmps26
      go_wp2_with fail
      refine (AR.out _ S0.out).mono ?_
      rintro e w1 ⟨rfl, hs⟩
      have S1 := Lib.hid hs
      obtain ⟨c0, c1, c2, c3, c4, c5, c6, c7, c8, c9⟩ := S1.out.at_.cells
      dsimp only at c1 c2 c4
      clear hs
      go_wp2_with fail
      refine (CO.out _ S1.out).mono ?_
      rintro e w2 ⟨rfl, hs⟩
      have S2 := Lib.hid hs
      clear c0 c1 c2 c3 c4 c5 c6 c7 c8 c9
      obtain ⟨c0, c1, c2, c3, c4, c5, c6, c7, c8, c9⟩ := S2.out.at_.cells
      dsimp only at c1 c2 c4
      clear hs
      go_wp2_with fail
      refine (SO.out _ S2.out).mono ?_
      rintro e w3 ⟨rfl, hs⟩
      have S3 := Lib.hid hs
      clear c0 c1 c2 c3 c4 c5 c6 c7 c8 c9
      obtain ⟨c0, c1, c2, c3, c4, c5, c6, c7, c8, c9⟩ := S3.out.at_.cells
      dsimp only at c1 c2 c4
      clear hs
      go_wp2_with fail
      refine (WI.out _ S3.out).mono ?_
      rintro e w4 ⟨rfl, hs⟩
      have S4 := Lib.hid hs
      clear c0 c1 c2 c3 c4 c5 c6 c7 c8 c9
      obtain ⟨hj, qk⟩ := HJ.out
      obtain ⟨c0, c1, c2, c3, c4, c5, c6, c7, c8, c9⟩ := S4.out.at_.cells
      dsimp only at c1 c2 c4
      clear hs
      go_wp2_with fail
      go_ret
      exact ⟨by rw [H.out]; rfl, S4.out.base⟩
    have H : Hid (checkQ q = 8) := Lib.hid (by rw [ht]; unfold tailV; rw [if_pos ⟨hj, hk⟩])
    have qk : (q.win.kind != 1) = true := by rw [bne_iff_ne]; exact hk
    have HJ := Lib.hid (And.intro hj qk)
    clear ht hk hj qk
    go_enter Tryd.func26, Tryd.ntmps26
    go_wp2_with fail
    refine (AR.out _ S0.out).mono ?_
    rintro e w1 ⟨rfl, hs⟩
    have S1 := Lib.hid hs
    obtain ⟨c0, c1, c2, c3, c4, c5, c6, c7, c8, c9⟩ := S1.out.at_.cells
    dsimp only at c1 c2 c4
    clear hs
    go_wp2_with fail
    refine (CO.out _ S1.out).mono ?_
    rintro e w2 ⟨rfl, hs⟩
    have S2 := Lib.hid hs
    clear c0 c1 c2 c3 c4 c5 c6 c7 c8 c9
    obtain ⟨c0, c1, c2, c3, c4, c5, c6, c7, c8, c9⟩ := S2.out.at_.cells
    dsimp only at c1 c2 c4
    clear hs
    go_wp2_with fail
    refine (SO.out _ S2.out).mono ?_
    rintro e w3 ⟨rfl, hs⟩
    have S3 := Lib.hid hs
    clear c0 c1 c2 c3 c4 c5 c6 c7 c8 c9
    obtain ⟨c0, c1, c2, c3, c4, c5, c6, c7, c8, c9⟩ := S3.out.at_.cells
    dsimp only at c1 c2 c4
    clear hs
    go_wp2_with fail
    refine (WI.out _ S3.out).mono ?_
    rintro e w4 ⟨rfl, hs⟩
    have S4 := Lib.hid hs
    clear c0 c1 c2 c3 c4 c5 c6 c7 c8 c9
    obtain ⟨hj, qk⟩ := HJ.out
    obtain ⟨c0, c1, c2, c3, c4, c5, c6, c7, c8, c9⟩ := S4.out.at_.cells
    dsimp only at c1 c2 c4
    clear hs
    go_wp2_with fail
    go_ret
    exact ⟨by rw [H.out]; rfl, S4.out.base⟩
end Go.Proofs.YtfmobnlnedljeaaDoor.Nodes

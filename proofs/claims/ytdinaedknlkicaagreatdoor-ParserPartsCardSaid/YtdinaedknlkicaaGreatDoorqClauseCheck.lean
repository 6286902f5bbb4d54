/-
  Contracts of clauses.Check and Same at the landed code (layer 8).
-/
import Derived.Test.YtdinaedknlkicaaGreatDoorPackB1
import Derived.Outline
namespace Go.Proofs.YtdinaedknlkicaaGreatDoor.Nodes
open Go.ChangeShapes Go.WideShapes Go.ChangeAt Go.RowKit

set_option maxRecDepth 100000 in
set_option maxHeartbeats 2000000 in
theorem clCheck_any (s : Sl) (q : Qy) (w : World) (hf : NameFix w) (hR : ReadsQ w s q) (ha : q.arg.length ≤ 1000000) (hc : q.cond.length ≤ 1000000) (hs : q.src.length ≤ 9223372036854775807) :
    Calls Tryz.prog 14 #[qyVal s q] w fun e w' => e = .returned (.int .i64 (checkQ q)) ∧ Below w.heap.size w w' := by
  have CU := Lib.hid (fun a b c W => cwithinU_any a b c W)
  have AR := Lib.hid (fun (W : World) (h : SQ w W s q) => to_sq h (clArgument_any q.agg s.arg q.arg W (hR.arg.below h.base) ha))
  have CO := Lib.hid (fun (W : World) (h : SQ w W s q) => to_sq h (clCondition_any s.cond q.cond W (hR.cond.below h.base) hc))
  have SO := Lib.hid (fun (W : World) (h : SQ w W s q) => to_sq h (clSources_any s.src q.src q.join W (hf.below h.base) (hR.src.below h.base) hs))
  have WI := Lib.hid (fun (W : World) (h : SQ w W s q) => to_sq h (clWindow_any q.win W))
  have S0 := Lib.hid (sq_start w s q)
  have A1 := Lib.hid (CU.out q.agg 1 4)
  have A2 := Lib.hid (CU.out q.late 1 2)
  unfold qyBox at S0
  unfold winVal at WI
  unfold qyVal qyRow
  obtain ⟨ea, hea⟩ : ∃ e, argV q.agg q.arg = e := ⟨_, rfl⟩
  obtain ⟨ec, hec⟩ : ∃ e, condV q.cond = e := ⟨_, rfl⟩
  obtain ⟨es, hes⟩ : ∃ e, sourcesV q.src q.join = e := ⟨_, rfl⟩
  obtain ⟨ew, hew⟩ : ∃ e, windowV q.win = e := ⟨_, rfl⟩
  rw [hea] at AR
  rw [hec] at CO
  rw [hes] at SO
  rw [hew] at WI
  clear hf hR ha hc hs
  cases h1 : inB q.agg 1 4
  · rw [h1] at A1
    have H : Hid (checkQ q = 8) := Lib.hid (if_pos (decide_eq_false fun e => by have h9 := of_decide_eq_false h1; omega))
    clear h1 hea hec hes hew
    go_enter Tryz.func14, Tryz.ntmps14
    go_wp2_with fail
    refine (A1.out _).mono ?_
    rintro e w0' ⟨rfl, rfl⟩
    go_wp2_with fail
    go_ret
    exact ⟨by rw [H.out]; rfl, S0.out.base⟩
  rw [h1] at A1
  cases h2 : inB q.late 1 2
  · rw [h2] at A2
    have H : Hid (checkQ q = 8) := Lib.hid (if_pos (decide_eq_false fun e => by have h9 := of_decide_eq_false h2; omega))
    clear h1 h2 hea hec hes hew
    go_enter Tryz.func14, Tryz.ntmps14
    go_wp2_with fail
    refine (A1.out _).mono ?_
    rintro e w0' ⟨rfl, rfl⟩
    go_wp2_with fail
    refine (A2.out _).mono ?_
    rintro e w0' ⟨rfl, rfl⟩
    go_wp2_with fail
    go_ret
    exact ⟨by rw [H.out]; rfl, S0.out.base⟩
  rw [h2] at A2
  have hh : headB q = true := decide_eq_true (by have h8 := of_decide_eq_true h1; have h9 := of_decide_eq_true h2; omega)
  have n1 : ¬ headB q = false := by rw [hh]; simp
  clear h1 h2
  by_cases z0 : ea = 0
  case neg =>
    have qz : (ea != 0) = true := by rw [bne_iff_ne]; exact z0
    have H : Hid (checkQ q = ea) := Lib.hid (by unfold checkQ; rw [if_neg n1, if_pos (by rw [hea]; exact z0), hea])
    clear hh n1 hea hec hes hew z0
    go_enter Tryz.func14, Tryz.ntmps14
    go_wp2_with fail
    refine (A1.out _).mono ?_
    rintro e w0' ⟨rfl, rfl⟩
    go_wp2_with fail
    refine (A2.out _).mono ?_
    rintro e w0' ⟨rfl, rfl⟩
    go_wp2_with fail
    refine (AR.out _ S0.out).mono ?_
    rintro e w1 ⟨rfl, hs⟩
    have S1 := Lib.hid hs
    obtain ⟨c0, c1, c2, c3, c4, c5, c6, c7, c8, c9⟩ := S1.out.at_.cells
    clear hs
    go_wp2_with fail
    go_ret
    exact ⟨by rw [H.out]; rfl, S1.out.base⟩
  subst z0
  by_cases z1 : ec = 0
  case neg =>
    have qz : (ec != 0) = true := by rw [bne_iff_ne]; exact z1
    have H : Hid (checkQ q = ec) := Lib.hid (by unfold checkQ; rw [if_neg n1, if_neg (by rw [hea]; simp), if_pos (by rw [hec]; exact z1), hec])
    clear hh n1 hea hec hes hew z1
    go_enter Tryz.func14, Tryz.ntmps14
    go_wp2_with fail
    refine (A1.out _).mono ?_
    rintro e w0' ⟨rfl, rfl⟩
    go_wp2_with fail
    refine (A2.out _).mono ?_
    rintro e w0' ⟨rfl, rfl⟩
    go_wp2_with fail
    refine (AR.out _ S0.out).mono ?_
    rintro e w1 ⟨rfl, hs⟩
    have S1 := Lib.hid hs
    obtain ⟨c0, c1, c2, c3, c4, c5, c6, c7, c8, c9⟩ := S1.out.at_.cells
    clear hs
    go_wp2_with fail
    refine (CO.out _ S1.out).mono ?_
    rintro e w2 ⟨rfl, hs⟩
    have S2 := Lib.hid hs
    clear c0 c1 c2 c3 c4 c5 c6 c7 c8 c9
    obtain ⟨c0, c1, c2, c3, c4, c5, c6, c7, c8, c9⟩ := S2.out.at_.cells
    clear hs
    go_wp2_with fail
    go_ret
    exact ⟨by rw [H.out]; rfl, S2.out.base⟩
  subst z1
  by_cases z2 : es = 0
  case neg =>
    have qz : (es != 0) = true := by rw [bne_iff_ne]; exact z2
    have H : Hid (checkQ q = es) := Lib.hid (by unfold checkQ; rw [if_neg n1, if_neg (by rw [hea]; simp), if_neg (by rw [hec]; simp), if_pos (by rw [hes]; exact z2), hes])
    clear hh n1 hea hec hes hew z2
    go_enter Tryz.func14, Tryz.ntmps14
    go_wp2_with fail
    refine (A1.out _).mono ?_
    rintro e w0' ⟨rfl, rfl⟩
    go_wp2_with fail
    refine (A2.out _).mono ?_
    rintro e w0' ⟨rfl, rfl⟩
    go_wp2_with fail
    refine (AR.out _ S0.out).mono ?_
    rintro e w1 ⟨rfl, hs⟩
    have S1 := Lib.hid hs
    obtain ⟨c0, c1, c2, c3, c4, c5, c6, c7, c8, c9⟩ := S1.out.at_.cells
    clear hs
    go_wp2_with fail
    refine (CO.out _ S1.out).mono ?_
    rintro e w2 ⟨rfl, hs⟩
    have S2 := Lib.hid hs
    clear c0 c1 c2 c3 c4 c5 c6 c7 c8 c9
    obtain ⟨c0, c1, c2, c3, c4, c5, c6, c7, c8, c9⟩ := S2.out.at_.cells
    clear hs
    go_wp2_with fail
    refine (SO.out _ S2.out).mono ?_
    rintro e w3 ⟨rfl, hs⟩
    have S3 := Lib.hid hs
    clear c0 c1 c2 c3 c4 c5 c6 c7 c8 c9
    obtain ⟨c0, c1, c2, c3, c4, c5, c6, c7, c8, c9⟩ := S3.out.at_.cells
    clear hs
    go_wp2_with fail
    go_ret
    exact ⟨by rw [H.out]; rfl, S3.out.base⟩
  subst z2
  by_cases z3 : ew = 0
  case neg =>
    have qz : (ew != 0) = true := by rw [bne_iff_ne]; exact z3
    have H : Hid (checkQ q = ew) := Lib.hid (by unfold checkQ; rw [if_neg n1, if_neg (by rw [hea]; simp), if_neg (by rw [hec]; simp), if_neg (by rw [hes]; simp), if_pos (by rw [hew]; exact z3), hew])
    clear hh n1 hea hec hes hew z3
    go_enter Tryz.func14, Tryz.ntmps14
    go_wp2_with fail
    refine (A1.out _).mono ?_
    rintro e w0' ⟨rfl, rfl⟩
    go_wp2_with fail
    refine (A2.out _).mono ?_
    rintro e w0' ⟨rfl, rfl⟩
    go_wp2_with fail
    refine (AR.out _ S0.out).mono ?_
    rintro e w1 ⟨rfl, hs⟩
    have S1 := Lib.hid hs
    obtain ⟨c0, c1, c2, c3, c4, c5, c6, c7, c8, c9⟩ := S1.out.at_.cells
    clear hs
    go_wp2_with fail
    refine (CO.out _ S1.out).mono ?_
    rintro e w2 ⟨rfl, hs⟩
    have S2 := Lib.hid hs
    clear c0 c1 c2 c3 c4 c5 c6 c7 c8 c9
    obtain ⟨c0, c1, c2, c3, c4, c5, c6, c7, c8, c9⟩ := S2.out.at_.cells
    clear hs
    go_wp2_with fail
    refine (SO.out _ S2.out).mono ?_
    rintro e w3 ⟨rfl, hs⟩
    have S3 := Lib.hid hs
    clear c0 c1 c2 c3 c4 c5 c6 c7 c8 c9
    obtain ⟨c0, c1, c2, c3, c4, c5, c6, c7, c8, c9⟩ := S3.out.at_.cells
    clear hs
    go_wp2_with fail
    refine (WI.out _ S3.out).mono ?_
    rintro e w4 ⟨rfl, hs⟩
    have S4 := Lib.hid hs
    clear c0 c1 c2 c3 c4 c5 c6 c7 c8 c9
    obtain ⟨c0, c1, c2, c3, c4, c5, c6, c7, c8, c9⟩ := S4.out.at_.cells
    clear hs
    go_wp2_with fail
    go_ret
    exact ⟨by rw [H.out]; rfl, S4.out.base⟩
  subst z3
  have ht : checkQ q = tailV q := checkQ_tail hh hea hec hes hew
  clear hea hec hes hew n1 hh
  by_cases hj : q.join = false
  · have H : Hid (checkQ q = 0) := Lib.hid (by rw [ht]; unfold tailV; rw [if_neg (fun e => by rw [hj] at e; cases e.1)])
    have HJ := Lib.hid hj
    clear ht hj
    go_enter Tryz.func14, Tryz.ntmps14
    go_wp2_with fail
    refine (A1.out _).mono ?_
    rintro e w0' ⟨rfl, rfl⟩
    go_wp2_with fail
    refine (A2.out _).mono ?_
    rintro e w0' ⟨rfl, rfl⟩
    go_wp2_with fail
    refine (AR.out _ S0.out).mono ?_
    rintro e w1 ⟨rfl, hs⟩
    have S1 := Lib.hid hs
    obtain ⟨c0, c1, c2, c3, c4, c5, c6, c7, c8, c9⟩ := S1.out.at_.cells
    clear hs
    go_wp2_with fail
    refine (CO.out _ S1.out).mono ?_
    rintro e w2 ⟨rfl, hs⟩
    have S2 := Lib.hid hs
    clear c0 c1 c2 c3 c4 c5 c6 c7 c8 c9
    obtain ⟨c0, c1, c2, c3, c4, c5, c6, c7, c8, c9⟩ := S2.out.at_.cells
    clear hs
    go_wp2_with fail
    refine (SO.out _ S2.out).mono ?_
    rintro e w3 ⟨rfl, hs⟩
    have S3 := Lib.hid hs
    clear c0 c1 c2 c3 c4 c5 c6 c7 c8 c9
    obtain ⟨c0, c1, c2, c3, c4, c5, c6, c7, c8, c9⟩ := S3.out.at_.cells
    clear hs
    go_wp2_with fail
    refine (WI.out _ S3.out).mono ?_
    rintro e w4 ⟨rfl, hs⟩
    have S4 := Lib.hid hs
    clear c0 c1 c2 c3 c4 c5 c6 c7 c8 c9
    have hj := HJ.out
    obtain ⟨c0, c1, c2, c3, c4, c5, c6, c7, c8, c9⟩ := S4.out.at_.cells
    clear hs
    go_wp2_with fail
    go_ret
    exact ⟨by rw [H.out]; rfl, S4.out.base⟩
  replace hj : q.join = true := by cases hq : q.join; exact absurd hq hj; rfl
  by_cases hk : q.win.kind = 1
  · have H : Hid (checkQ q = 0) := Lib.hid (by rw [ht]; unfold tailV; rw [if_neg (fun e => e.2 hk)])
    have qk : (q.win.kind != 1) = false := by rw [bne_eq_false_iff_eq]; exact hk
    have HJ := Lib.hid (And.intro hj qk)
    clear ht hk hj qk
    go_enter Tryz.func14, Tryz.ntmps14
    go_wp2_with fail
    refine (A1.out _).mono ?_
    rintro e w0' ⟨rfl, rfl⟩
    go_wp2_with fail
    refine (A2.out _).mono ?_
    rintro e w0' ⟨rfl, rfl⟩
    go_wp2_with fail
    refine (AR.out _ S0.out).mono ?_
    rintro e w1 ⟨rfl, hs⟩
    have S1 := Lib.hid hs
    obtain ⟨c0, c1, c2, c3, c4, c5, c6, c7, c8, c9⟩ := S1.out.at_.cells
    clear hs
    go_wp2_with fail
    refine (CO.out _ S1.out).mono ?_
    rintro e w2 ⟨rfl, hs⟩
    have S2 := Lib.hid hs
    clear c0 c1 c2 c3 c4 c5 c6 c7 c8 c9
    obtain ⟨c0, c1, c2, c3, c4, c5, c6, c7, c8, c9⟩ := S2.out.at_.cells
    clear hs
    go_wp2_with fail
    refine (SO.out _ S2.out).mono ?_
    rintro e w3 ⟨rfl, hs⟩
    have S3 := Lib.hid hs
    clear c0 c1 c2 c3 c4 c5 c6 c7 c8 c9
    obtain ⟨c0, c1, c2, c3, c4, c5, c6, c7, c8, c9⟩ := S3.out.at_.cells
    clear hs
    go_wp2_with fail
    refine (WI.out _ S3.out).mono ?_
    rintro e w4 ⟨rfl, hs⟩
    have S4 := Lib.hid hs
    clear c0 c1 c2 c3 c4 c5 c6 c7 c8 c9
    obtain ⟨hj, qk⟩ := HJ.out
    obtain ⟨c0, c1, c2, c3, c4, c5, c6, c7, c8, c9⟩ := S4.out.at_.cells
    clear hs
    go_wp2_with fail
    go_ret
    exact ⟨by rw [H.out]; rfl, S4.out.base⟩
  · have H : Hid (checkQ q = 8) := Lib.hid (by rw [ht]; unfold tailV; rw [if_pos ⟨hj, hk⟩])
    have qk : (q.win.kind != 1) = true := by rw [bne_iff_ne]; exact hk
    have HJ := Lib.hid (And.intro hj qk)
    clear ht hk hj qk
    go_enter Tryz.func14, Tryz.ntmps14
    go_wp2_with fail
    refine (A1.out _).mono ?_
    rintro e w0' ⟨rfl, rfl⟩
    go_wp2_with fail
    refine (A2.out _).mono ?_
    rintro e w0' ⟨rfl, rfl⟩
    go_wp2_with fail
    refine (AR.out _ S0.out).mono ?_
    rintro e w1 ⟨rfl, hs⟩
    have S1 := Lib.hid hs
    obtain ⟨c0, c1, c2, c3, c4, c5, c6, c7, c8, c9⟩ := S1.out.at_.cells
    clear hs
    go_wp2_with fail
    refine (CO.out _ S1.out).mono ?_
    rintro e w2 ⟨rfl, hs⟩
    have S2 := Lib.hid hs
    clear c0 c1 c2 c3 c4 c5 c6 c7 c8 c9
    obtain ⟨c0, c1, c2, c3, c4, c5, c6, c7, c8, c9⟩ := S2.out.at_.cells
    clear hs
    go_wp2_with fail
    refine (SO.out _ S2.out).mono ?_
    rintro e w3 ⟨rfl, hs⟩
    have S3 := Lib.hid hs
    clear c0 c1 c2 c3 c4 c5 c6 c7 c8 c9
    obtain ⟨c0, c1, c2, c3, c4, c5, c6, c7, c8, c9⟩ := S3.out.at_.cells
    clear hs
    go_wp2_with fail
    refine (WI.out _ S3.out).mono ?_
    rintro e w4 ⟨rfl, hs⟩
    have S4 := Lib.hid hs
    clear c0 c1 c2 c3 c4 c5 c6 c7 c8 c9
    obtain ⟨hj, qk⟩ := HJ.out
    obtain ⟨c0, c1, c2, c3, c4, c5, c6, c7, c8, c9⟩ := S4.out.at_.cells
    clear hs
    go_wp2_with fail
    go_ret
    exact ⟨by rw [H.out]; rfl, S4.out.base⟩
theorem heads_cases (p q : Qy) : (headsB p q = true ∧ p.agg = q.agg ∧ p.join = q.join ∧ p.win.kind = q.win.kind ∧ p.win.size = q.win.size ∧ p.win.every = q.win.every ∧ p.key = q.key ∧ p.late = q.late) ∨ (headsB p q = false ∧ ¬ (p.agg = q.agg ∧ p.join = q.join ∧ p.win.kind = q.win.kind ∧ p.win.size = q.win.size ∧ p.win.every = q.win.every ∧ p.key = q.key ∧ p.late = q.late)) := by
  cases h : headsB p q
  · refine .inr ⟨rfl, fun e => ?_⟩
    have := of_decide_eq_false h
    unfold coreQ at this
    simp only [Prod.mk.injEq] at this
    exact this ⟨e.1, e.2.1, ⟨e.2.2.1, e.2.2.2.1, e.2.2.2.2.1⟩, e.2.2.2.2.2.1, e.2.2.2.2.2.2⟩
  · have := of_decide_eq_true h
    unfold coreQ at this
    simp only [Prod.mk.injEq] at this
    exact .inl ⟨rfl, this.1, this.2.1, this.2.2.1.1, this.2.2.1.2.1, this.2.2.1.2.2, this.2.2.2.1, this.2.2.2.2⟩
set_option maxRecDepth 100000 in
set_option maxHeartbeats 2000000 in
theorem clSame_any (s t : Sl) (p q : Qy) (w : World) (hf : NameFix w) (hP : ReadsQ w s p) (hQ : ReadsQ w t q) (hpa : p.arg.length ≤ 1000000) (hpc : p.cond.length ≤ 1000000) (hps : p.src.length ≤ 9223372036854775807) (hqa : q.arg.length ≤ 1000000) (hqc : q.cond.length ≤ 1000000) (hqs : q.src.length ≤ 9223372036854775807) :
    Calls Tryz.prog 19 #[qyVal s p, qyVal t q] w fun e w' => e = .returned (.tuple #[.bool (sameQ p q).1, .int .i64 (sameQ p q).2]) ∧ Below w.heap.size w w' := by
  have K1 := Lib.hid (fun (W : World) (h : SP w W s p t q) => to_sp h (clCheck_any s p W (hf.below h.base) (hP.below h.base) hpa hpc hps))
  have K2 := Lib.hid (fun (W : World) (h : SP w W s p t q) => to_sp h (clCheck_any t q W (hf.below h.base) (hQ.below h.base) hqa hqc hqs))
  have EQ := Lib.hid (fun (W : World) (h : SP w W s p t q) => to_sp h (by_draws (slicesEqual_any s.src t.src p.src q.src W (hP.src.below h.base) (hQ.src.below h.base) hps)))
  have L1 := Lib.hid (fun (W : World) (h : SP w W s p t q) h1 h2 => to_sp h (clAlike_any s.arg t.arg p.arg q.arg W (hP.arg.below h.base) (hQ.arg.below h.base) hpa hqa h1 h2))
  have L2 := Lib.hid (fun (W : World) (h : SP w W s p t q) h1 h2 => to_sp h (clAlike_any s.cond t.cond p.cond q.cond W (hP.cond.below h.base) (hQ.cond.below h.base) hpc hqc h1 h2))
  have S0 := Lib.hid (sp_start w s t p q)
  unfold qyBox at S0
  unfold qyVal qyRow at K1 K2 ⊢
  clear hf hP hQ hpa hpc hps hqa hqc hqs
  obtain ⟨ep, hep⟩ : ∃ e, checkQ p = e := ⟨_, rfl⟩
  obtain ⟨eq, heq⟩ : ∃ e, checkQ q = e := ⟨_, rfl⟩
  rw [hep] at K1
  rw [heq] at K2
  by_cases z0 : ep = 0
  case neg =>
    have qz : (ep != 0) = true := by rw [bne_iff_ne]; exact z0
    have H : Hid (sameQ p q = (false, ep)) := Lib.hid (by rw [sameQ_err (by rw [hep]; exact z0), hep])
    clear z0 hep heq L1 L2
    go_enter Tryz.func19, Tryz.ntmps19
    obtain ⟨c0, c1, c2, c3, c4, c5, c6, c7, c8, c9⟩ := S0.out.one.cells
    obtain ⟨d0, d1, d2, d3, d4, d5, d6, d7, d8, d9⟩ := S0.out.two.cells
    go_wp2_with fail
    refine (K1.out _ S0.out).mono ?_
    rintro e w1 ⟨rfl, hs⟩
    have S1 := Lib.hid hs
    clear c0 c1 c2 c3 c4 c5 c6 c7 c8 c9 d0 d1 d2 d3 d4 d5 d6 d7 d8 d9
    obtain ⟨c0, c1, c2, c3, c4, c5, c6, c7, c8, c9⟩ := S1.out.one.cells
    obtain ⟨d0, d1, d2, d3, d4, d5, d6, d7, d8, d9⟩ := S1.out.two.cells
    clear hs
    go_wp2_with fail
    go_ret2
    exact ⟨by rw [H.out]; rfl, S1.out.base⟩
  subst z0
  by_cases z1 : eq = 0
  case neg =>
    have qz : (eq != 0) = true := by rw [bne_iff_ne]; exact z1
    have H : Hid (sameQ p q = (false, eq)) := Lib.hid (by rw [sameQ_err2 hep (by rw [heq]; exact z1), heq])
    clear z1 hep heq L1 L2
    go_enter Tryz.func19, Tryz.ntmps19
    obtain ⟨c0, c1, c2, c3, c4, c5, c6, c7, c8, c9⟩ := S0.out.one.cells
    obtain ⟨d0, d1, d2, d3, d4, d5, d6, d7, d8, d9⟩ := S0.out.two.cells
    go_wp2_with fail
    refine (K1.out _ S0.out).mono ?_
    rintro e w1 ⟨rfl, hs⟩
    have S1 := Lib.hid hs
    clear c0 c1 c2 c3 c4 c5 c6 c7 c8 c9 d0 d1 d2 d3 d4 d5 d6 d7 d8 d9
    obtain ⟨c0, c1, c2, c3, c4, c5, c6, c7, c8, c9⟩ := S1.out.one.cells
    obtain ⟨d0, d1, d2, d3, d4, d5, d6, d7, d8, d9⟩ := S1.out.two.cells
    clear hs
    go_wp2_with fail
    refine (K2.out _ S1.out).mono ?_
    rintro e w2 ⟨rfl, hs⟩
    have S2 := Lib.hid hs
    clear c0 c1 c2 c3 c4 c5 c6 c7 c8 c9 d0 d1 d2 d3 d4 d5 d6 d7 d8 d9
    obtain ⟨c0, c1, c2, c3, c4, c5, c6, c7, c8, c9⟩ := S2.out.one.cells
    obtain ⟨d0, d1, d2, d3, d4, d5, d6, d7, d8, d9⟩ := S2.out.two.cells
    clear hs
    go_wp2_with fail
    go_ret2
    exact ⟨by rw [H.out]; rfl, S2.out.base⟩
  subst z1
  have HS := sameQ_is hep heq
  obtain ⟨_, va, vc, _⟩ := checkQ_ok.1 hep
  obtain ⟨_, vb, vd, _⟩ := checkQ_ok.1 heq
  have M1 := Lib.hid (fun (W : World) h => L1.out W h (arg_valid va) (arg_valid vb))
  have M2 := Lib.hid (fun (W : World) h => L2.out W h (cond_valid vc) (cond_valid vd))
  clear hep heq va vb vc vd L1 L2
  rcases heads_cases p q with ⟨hh, e1, e2, e3, e4, e5, e6, e7⟩ | ⟨hh, hne⟩
  · have q1 : (p.agg != q.agg) = false := by rw [bne_eq_false_iff_eq]; exact e1
    have q2 : (p.join == q.join) = true := by rw [beq_iff_eq]; exact e2
    have q3 : (p.win.kind == q.win.kind) = true := by rw [beq_iff_eq]; exact e3
    have q4 : (p.win.size == q.win.size) = true := by rw [beq_iff_eq]; exact e4
    have q5 : (p.win.every == q.win.every) = true := by rw [beq_iff_eq]; exact e5
    have q6 : (p.key == q.key) = true := by rw [beq_iff_eq]; exact e6
    have q7 : (p.late != q.late) = false := by rw [bne_eq_false_iff_eq]; exact e7
    unfold alikeQ restB at HS
    rw [hh, Bool.true_and] at HS
    have QF := Lib.hid (And.intro q1 (And.intro q2 (And.intro q3 (And.intro q4 (And.intro q5 (And.intro q6 q7))))))
    clear hh e1 e2 e3 e4 e5 e6 e7 q1 q2 q3 q4 q5 q6 q7
    cases x1 : decide (p.src = q.src)
    · rw [x1] at HS EQ
      have H : Hid (sameQ p q = (false, 0)) := Lib.hid HS
      clear x1 HS M1 M2
      go_enter Tryz.func19, Tryz.ntmps19
      obtain ⟨c0, c1, c2, c3, c4, c5, c6, c7, c8, c9⟩ := S0.out.one.cells
      obtain ⟨d0, d1, d2, d3, d4, d5, d6, d7, d8, d9⟩ := S0.out.two.cells
      go_wp2_with fail
      refine (K1.out _ S0.out).mono ?_
      rintro e w1 ⟨rfl, hs⟩
      have S1 := Lib.hid hs
      clear c0 c1 c2 c3 c4 c5 c6 c7 c8 c9 d0 d1 d2 d3 d4 d5 d6 d7 d8 d9
      obtain ⟨c0, c1, c2, c3, c4, c5, c6, c7, c8, c9⟩ := S1.out.one.cells
      obtain ⟨d0, d1, d2, d3, d4, d5, d6, d7, d8, d9⟩ := S1.out.two.cells
      clear hs
      go_wp2_with fail
      refine (K2.out _ S1.out).mono ?_
      rintro e w2 ⟨rfl, hs⟩
      have S2 := Lib.hid hs
      clear c0 c1 c2 c3 c4 c5 c6 c7 c8 c9 d0 d1 d2 d3 d4 d5 d6 d7 d8 d9
      obtain ⟨q1, q2, q3, q4, q5, q6, q7⟩ := QF.out
      obtain ⟨c0, c1, c2, c3, c4, c5, c6, c7, c8, c9⟩ := S2.out.one.cells
      obtain ⟨d0, d1, d2, d3, d4, d5, d6, d7, d8, d9⟩ := S2.out.two.cells
      clear hs
      go_wp2_with fail
      refine (EQ.out _ S2.out).mono ?_
      rintro e w3 ⟨rfl, hs⟩
      have S3 := Lib.hid hs
      clear c0 c1 c2 c3 c4 c5 c6 c7 c8 c9 d0 d1 d2 d3 d4 d5 d6 d7 d8 d9
      obtain ⟨c0, c1, c2, c3, c4, c5, c6, c7, c8, c9⟩ := S3.out.one.cells
      obtain ⟨d0, d1, d2, d3, d4, d5, d6, d7, d8, d9⟩ := S3.out.two.cells
      clear hs
      go_wp2_with fail
      go_ret2
      exact ⟨by rw [H.out]; rfl, S3.out.base⟩
    rw [x1] at HS EQ
    cases x2 : alikeB p.arg q.arg
    · rw [x2] at HS M1
      have H : Hid (sameQ p q = (false, 0)) := Lib.hid HS
      clear x1 x2 HS M2
      go_enter Tryz.func19, Tryz.ntmps19
      obtain ⟨c0, c1, c2, c3, c4, c5, c6, c7, c8, c9⟩ := S0.out.one.cells
      obtain ⟨d0, d1, d2, d3, d4, d5, d6, d7, d8, d9⟩ := S0.out.two.cells
      go_wp2_with fail
      refine (K1.out _ S0.out).mono ?_
      rintro e w1 ⟨rfl, hs⟩
      have S1 := Lib.hid hs
      clear c0 c1 c2 c3 c4 c5 c6 c7 c8 c9 d0 d1 d2 d3 d4 d5 d6 d7 d8 d9
      obtain ⟨c0, c1, c2, c3, c4, c5, c6, c7, c8, c9⟩ := S1.out.one.cells
      obtain ⟨d0, d1, d2, d3, d4, d5, d6, d7, d8, d9⟩ := S1.out.two.cells
      clear hs
      go_wp2_with fail
      refine (K2.out _ S1.out).mono ?_
      rintro e w2 ⟨rfl, hs⟩
      have S2 := Lib.hid hs
      clear c0 c1 c2 c3 c4 c5 c6 c7 c8 c9 d0 d1 d2 d3 d4 d5 d6 d7 d8 d9
      obtain ⟨q1, q2, q3, q4, q5, q6, q7⟩ := QF.out
      obtain ⟨c0, c1, c2, c3, c4, c5, c6, c7, c8, c9⟩ := S2.out.one.cells
      obtain ⟨d0, d1, d2, d3, d4, d5, d6, d7, d8, d9⟩ := S2.out.two.cells
      clear hs
      go_wp2_with fail
      refine (EQ.out _ S2.out).mono ?_
      rintro e w3 ⟨rfl, hs⟩
      have S3 := Lib.hid hs
      clear c0 c1 c2 c3 c4 c5 c6 c7 c8 c9 d0 d1 d2 d3 d4 d5 d6 d7 d8 d9
      obtain ⟨c0, c1, c2, c3, c4, c5, c6, c7, c8, c9⟩ := S3.out.one.cells
      obtain ⟨d0, d1, d2, d3, d4, d5, d6, d7, d8, d9⟩ := S3.out.two.cells
      clear hs
      go_wp2_with fail
      refine (M1.out _ S3.out).mono ?_
      rintro e w4 ⟨rfl, hs⟩
      have S4 := Lib.hid hs
      clear c0 c1 c2 c3 c4 c5 c6 c7 c8 c9 d0 d1 d2 d3 d4 d5 d6 d7 d8 d9
      obtain ⟨c0, c1, c2, c3, c4, c5, c6, c7, c8, c9⟩ := S4.out.one.cells
      obtain ⟨d0, d1, d2, d3, d4, d5, d6, d7, d8, d9⟩ := S4.out.two.cells
      clear hs
      go_wp2_with fail
      go_ret2
      exact ⟨by rw [H.out]; rfl, S4.out.base⟩
    rw [x2] at HS M1
    obtain ⟨y, hy⟩ : ∃ y, alikeB p.cond q.cond = y := ⟨_, rfl⟩
    rw [hy] at HS M2
    have H : Hid (sameQ p q = (y, 0)) := Lib.hid HS
    clear x1 x2 HS hy
    go_enter Tryz.func19, Tryz.ntmps19
    obtain ⟨c0, c1, c2, c3, c4, c5, c6, c7, c8, c9⟩ := S0.out.one.cells
    obtain ⟨d0, d1, d2, d3, d4, d5, d6, d7, d8, d9⟩ := S0.out.two.cells
    go_wp2_with fail
    refine (K1.out _ S0.out).mono ?_
    rintro e w1 ⟨rfl, hs⟩
    have S1 := Lib.hid hs
    clear c0 c1 c2 c3 c4 c5 c6 c7 c8 c9 d0 d1 d2 d3 d4 d5 d6 d7 d8 d9
    obtain ⟨c0, c1, c2, c3, c4, c5, c6, c7, c8, c9⟩ := S1.out.one.cells
    obtain ⟨d0, d1, d2, d3, d4, d5, d6, d7, d8, d9⟩ := S1.out.two.cells
    clear hs
    go_wp2_with fail
    refine (K2.out _ S1.out).mono ?_
    rintro e w2 ⟨rfl, hs⟩
    have S2 := Lib.hid hs
    clear c0 c1 c2 c3 c4 c5 c6 c7 c8 c9 d0 d1 d2 d3 d4 d5 d6 d7 d8 d9
    obtain ⟨q1, q2, q3, q4, q5, q6, q7⟩ := QF.out
    obtain ⟨c0, c1, c2, c3, c4, c5, c6, c7, c8, c9⟩ := S2.out.one.cells
    obtain ⟨d0, d1, d2, d3, d4, d5, d6, d7, d8, d9⟩ := S2.out.two.cells
    clear hs
    go_wp2_with fail
    refine (EQ.out _ S2.out).mono ?_
    rintro e w3 ⟨rfl, hs⟩
    have S3 := Lib.hid hs
    clear c0 c1 c2 c3 c4 c5 c6 c7 c8 c9 d0 d1 d2 d3 d4 d5 d6 d7 d8 d9
    obtain ⟨c0, c1, c2, c3, c4, c5, c6, c7, c8, c9⟩ := S3.out.one.cells
    obtain ⟨d0, d1, d2, d3, d4, d5, d6, d7, d8, d9⟩ := S3.out.two.cells
    clear hs
    go_wp2_with fail
    refine (M1.out _ S3.out).mono ?_
    rintro e w4 ⟨rfl, hs⟩
    have S4 := Lib.hid hs
    clear c0 c1 c2 c3 c4 c5 c6 c7 c8 c9 d0 d1 d2 d3 d4 d5 d6 d7 d8 d9
    obtain ⟨c0, c1, c2, c3, c4, c5, c6, c7, c8, c9⟩ := S4.out.one.cells
    obtain ⟨d0, d1, d2, d3, d4, d5, d6, d7, d8, d9⟩ := S4.out.two.cells
    clear hs
    go_wp2_with fail
    refine (M2.out _ S4.out).mono ?_
    rintro e w5 ⟨rfl, hs⟩
    have S5 := Lib.hid hs
    clear c0 c1 c2 c3 c4 c5 c6 c7 c8 c9 d0 d1 d2 d3 d4 d5 d6 d7 d8 d9
    obtain ⟨c0, c1, c2, c3, c4, c5, c6, c7, c8, c9⟩ := S5.out.one.cells
    obtain ⟨d0, d1, d2, d3, d4, d5, d6, d7, d8, d9⟩ := S5.out.two.cells
    clear hs
    go_wp2_with fail
    go_ret2
    exact ⟨by rw [H.out]; rfl, S5.out.base⟩
  · have H : Hid (sameQ p q = (false, 0)) := Lib.hid (by rw [HS]; unfold alikeQ; rw [hh]; rfl)
    clear HS hh M1 M2 EQ
    by_cases e0 : p.agg = q.agg
    case neg =>
      have q0 : (p.agg != q.agg) = true := by rw [bne_iff_ne]; exact e0
      have QF := Lib.hid (q0)
      clear hne e0 q0
      go_enter Tryz.func19, Tryz.ntmps19
      obtain ⟨c0, c1, c2, c3, c4, c5, c6, c7, c8, c9⟩ := S0.out.one.cells
      obtain ⟨d0, d1, d2, d3, d4, d5, d6, d7, d8, d9⟩ := S0.out.two.cells
      go_wp2_with fail
      refine (K1.out _ S0.out).mono ?_
      rintro e w1 ⟨rfl, hs⟩
      have S1 := Lib.hid hs
      clear c0 c1 c2 c3 c4 c5 c6 c7 c8 c9 d0 d1 d2 d3 d4 d5 d6 d7 d8 d9
      obtain ⟨c0, c1, c2, c3, c4, c5, c6, c7, c8, c9⟩ := S1.out.one.cells
      obtain ⟨d0, d1, d2, d3, d4, d5, d6, d7, d8, d9⟩ := S1.out.two.cells
      clear hs
      go_wp2_with fail
      refine (K2.out _ S1.out).mono ?_
      rintro e w2 ⟨rfl, hs⟩
      have S2 := Lib.hid hs
      clear c0 c1 c2 c3 c4 c5 c6 c7 c8 c9 d0 d1 d2 d3 d4 d5 d6 d7 d8 d9
      have q0 := QF.out
      obtain ⟨c0, c1, c2, c3, c4, c5, c6, c7, c8, c9⟩ := S2.out.one.cells
      obtain ⟨d0, d1, d2, d3, d4, d5, d6, d7, d8, d9⟩ := S2.out.two.cells
      clear hs
      go_wp2_with fail
      go_ret2
      exact ⟨by rw [H.out]; rfl, S2.out.base⟩
    have q0 : (p.agg != q.agg) = false := by rw [bne_eq_false_iff_eq]; exact e0
    by_cases e1 : p.join = q.join
    case neg =>
      have q1 : (p.join == q.join) = false := by rw [beq_eq_false_iff_ne]; exact e1
      have QF := Lib.hid (And.intro q0 (q1))
      clear hne e0 e1 q0 q1
      go_enter Tryz.func19, Tryz.ntmps19
      obtain ⟨c0, c1, c2, c3, c4, c5, c6, c7, c8, c9⟩ := S0.out.one.cells
      obtain ⟨d0, d1, d2, d3, d4, d5, d6, d7, d8, d9⟩ := S0.out.two.cells
      go_wp2_with fail
      refine (K1.out _ S0.out).mono ?_
      rintro e w1 ⟨rfl, hs⟩
      have S1 := Lib.hid hs
      clear c0 c1 c2 c3 c4 c5 c6 c7 c8 c9 d0 d1 d2 d3 d4 d5 d6 d7 d8 d9
      obtain ⟨c0, c1, c2, c3, c4, c5, c6, c7, c8, c9⟩ := S1.out.one.cells
      obtain ⟨d0, d1, d2, d3, d4, d5, d6, d7, d8, d9⟩ := S1.out.two.cells
      clear hs
      go_wp2_with fail
      refine (K2.out _ S1.out).mono ?_
      rintro e w2 ⟨rfl, hs⟩
      have S2 := Lib.hid hs
      clear c0 c1 c2 c3 c4 c5 c6 c7 c8 c9 d0 d1 d2 d3 d4 d5 d6 d7 d8 d9
      obtain ⟨q0, q1⟩ := QF.out
      obtain ⟨c0, c1, c2, c3, c4, c5, c6, c7, c8, c9⟩ := S2.out.one.cells
      obtain ⟨d0, d1, d2, d3, d4, d5, d6, d7, d8, d9⟩ := S2.out.two.cells
      clear hs
      go_wp2_with fail
      go_ret2
      exact ⟨by rw [H.out]; rfl, S2.out.base⟩
    have q1 : (p.join == q.join) = true := by rw [beq_iff_eq]; exact e1
    by_cases e2 : p.win.kind = q.win.kind
    case neg =>
      have q2 : (p.win.kind == q.win.kind) = false := by rw [beq_eq_false_iff_ne]; exact e2
      have QF := Lib.hid (And.intro q0 (And.intro q1 (q2)))
      clear hne e0 e1 e2 q0 q1 q2
      go_enter Tryz.func19, Tryz.ntmps19
      obtain ⟨c0, c1, c2, c3, c4, c5, c6, c7, c8, c9⟩ := S0.out.one.cells
      obtain ⟨d0, d1, d2, d3, d4, d5, d6, d7, d8, d9⟩ := S0.out.two.cells
      go_wp2_with fail
      refine (K1.out _ S0.out).mono ?_
      rintro e w1 ⟨rfl, hs⟩
      have S1 := Lib.hid hs
      clear c0 c1 c2 c3 c4 c5 c6 c7 c8 c9 d0 d1 d2 d3 d4 d5 d6 d7 d8 d9
      obtain ⟨c0, c1, c2, c3, c4, c5, c6, c7, c8, c9⟩ := S1.out.one.cells
      obtain ⟨d0, d1, d2, d3, d4, d5, d6, d7, d8, d9⟩ := S1.out.two.cells
      clear hs
      go_wp2_with fail
      refine (K2.out _ S1.out).mono ?_
      rintro e w2 ⟨rfl, hs⟩
      have S2 := Lib.hid hs
      clear c0 c1 c2 c3 c4 c5 c6 c7 c8 c9 d0 d1 d2 d3 d4 d5 d6 d7 d8 d9
      obtain ⟨q0, q1, q2⟩ := QF.out
      obtain ⟨c0, c1, c2, c3, c4, c5, c6, c7, c8, c9⟩ := S2.out.one.cells
      obtain ⟨d0, d1, d2, d3, d4, d5, d6, d7, d8, d9⟩ := S2.out.two.cells
      clear hs
      go_wp2_with fail
      go_ret2
      exact ⟨by rw [H.out]; rfl, S2.out.base⟩
    have q2 : (p.win.kind == q.win.kind) = true := by rw [beq_iff_eq]; exact e2
    by_cases e3 : p.win.size = q.win.size
    case neg =>
      have q3 : (p.win.size == q.win.size) = false := by rw [beq_eq_false_iff_ne]; exact e3
      have QF := Lib.hid (And.intro q0 (And.intro q1 (And.intro q2 (q3))))
      clear hne e0 e1 e2 e3 q0 q1 q2 q3
      go_enter Tryz.func19, Tryz.ntmps19
      obtain ⟨c0, c1, c2, c3, c4, c5, c6, c7, c8, c9⟩ := S0.out.one.cells
      obtain ⟨d0, d1, d2, d3, d4, d5, d6, d7, d8, d9⟩ := S0.out.two.cells
      go_wp2_with fail
      refine (K1.out _ S0.out).mono ?_
      rintro e w1 ⟨rfl, hs⟩
      have S1 := Lib.hid hs
      clear c0 c1 c2 c3 c4 c5 c6 c7 c8 c9 d0 d1 d2 d3 d4 d5 d6 d7 d8 d9
      obtain ⟨c0, c1, c2, c3, c4, c5, c6, c7, c8, c9⟩ := S1.out.one.cells
      obtain ⟨d0, d1, d2, d3, d4, d5, d6, d7, d8, d9⟩ := S1.out.two.cells
      clear hs
      go_wp2_with fail
      refine (K2.out _ S1.out).mono ?_
      rintro e w2 ⟨rfl, hs⟩
      have S2 := Lib.hid hs
      clear c0 c1 c2 c3 c4 c5 c6 c7 c8 c9 d0 d1 d2 d3 d4 d5 d6 d7 d8 d9
      obtain ⟨q0, q1, q2, q3⟩ := QF.out
      obtain ⟨c0, c1, c2, c3, c4, c5, c6, c7, c8, c9⟩ := S2.out.one.cells
      obtain ⟨d0, d1, d2, d3, d4, d5, d6, d7, d8, d9⟩ := S2.out.two.cells
      clear hs
      go_wp2_with fail
      go_ret2
      exact ⟨by rw [H.out]; rfl, S2.out.base⟩
    have q3 : (p.win.size == q.win.size) = true := by rw [beq_iff_eq]; exact e3
    by_cases e4 : p.win.every = q.win.every
    case neg =>
      have q4 : (p.win.every == q.win.every) = false := by rw [beq_eq_false_iff_ne]; exact e4
      have QF := Lib.hid (And.intro q0 (And.intro q1 (And.intro q2 (And.intro q3 (q4)))))
      clear hne e0 e1 e2 e3 e4 q0 q1 q2 q3 q4
      go_enter Tryz.func19, Tryz.ntmps19
      obtain ⟨c0, c1, c2, c3, c4, c5, c6, c7, c8, c9⟩ := S0.out.one.cells
      obtain ⟨d0, d1, d2, d3, d4, d5, d6, d7, d8, d9⟩ := S0.out.two.cells
      go_wp2_with fail
      refine (K1.out _ S0.out).mono ?_
      rintro e w1 ⟨rfl, hs⟩
      have S1 := Lib.hid hs
      clear c0 c1 c2 c3 c4 c5 c6 c7 c8 c9 d0 d1 d2 d3 d4 d5 d6 d7 d8 d9
      obtain ⟨c0, c1, c2, c3, c4, c5, c6, c7, c8, c9⟩ := S1.out.one.cells
      obtain ⟨d0, d1, d2, d3, d4, d5, d6, d7, d8, d9⟩ := S1.out.two.cells
      clear hs
      go_wp2_with fail
      refine (K2.out _ S1.out).mono ?_
      rintro e w2 ⟨rfl, hs⟩
      have S2 := Lib.hid hs
      clear c0 c1 c2 c3 c4 c5 c6 c7 c8 c9 d0 d1 d2 d3 d4 d5 d6 d7 d8 d9
      obtain ⟨q0, q1, q2, q3, q4⟩ := QF.out
      obtain ⟨c0, c1, c2, c3, c4, c5, c6, c7, c8, c9⟩ := S2.out.one.cells
      obtain ⟨d0, d1, d2, d3, d4, d5, d6, d7, d8, d9⟩ := S2.out.two.cells
      clear hs
      go_wp2_with fail
      go_ret2
      exact ⟨by rw [H.out]; rfl, S2.out.base⟩
    have q4 : (p.win.every == q.win.every) = true := by rw [beq_iff_eq]; exact e4
    by_cases e5 : p.key = q.key
    case neg =>
      have q5 : (p.key == q.key) = false := by rw [beq_eq_false_iff_ne]; exact e5
      have QF := Lib.hid (And.intro q0 (And.intro q1 (And.intro q2 (And.intro q3 (And.intro q4 (q5))))))
      clear hne e0 e1 e2 e3 e4 e5 q0 q1 q2 q3 q4 q5
      go_enter Tryz.func19, Tryz.ntmps19
      obtain ⟨c0, c1, c2, c3, c4, c5, c6, c7, c8, c9⟩ := S0.out.one.cells
      obtain ⟨d0, d1, d2, d3, d4, d5, d6, d7, d8, d9⟩ := S0.out.two.cells
      go_wp2_with fail
      refine (K1.out _ S0.out).mono ?_
      rintro e w1 ⟨rfl, hs⟩
      have S1 := Lib.hid hs
      clear c0 c1 c2 c3 c4 c5 c6 c7 c8 c9 d0 d1 d2 d3 d4 d5 d6 d7 d8 d9
      obtain ⟨c0, c1, c2, c3, c4, c5, c6, c7, c8, c9⟩ := S1.out.one.cells
      obtain ⟨d0, d1, d2, d3, d4, d5, d6, d7, d8, d9⟩ := S1.out.two.cells
      clear hs
      go_wp2_with fail
      refine (K2.out _ S1.out).mono ?_
      rintro e w2 ⟨rfl, hs⟩
      have S2 := Lib.hid hs
      clear c0 c1 c2 c3 c4 c5 c6 c7 c8 c9 d0 d1 d2 d3 d4 d5 d6 d7 d8 d9
      obtain ⟨q0, q1, q2, q3, q4, q5⟩ := QF.out
      obtain ⟨c0, c1, c2, c3, c4, c5, c6, c7, c8, c9⟩ := S2.out.one.cells
      obtain ⟨d0, d1, d2, d3, d4, d5, d6, d7, d8, d9⟩ := S2.out.two.cells
      clear hs
      go_wp2_with fail
      go_ret2
      exact ⟨by rw [H.out]; rfl, S2.out.base⟩
    have q5 : (p.key == q.key) = true := by rw [beq_iff_eq]; exact e5
    have e6 : ¬ p.late = q.late := fun e => hne ⟨e0, e1, e2, e3, e4, e5, e⟩
    have q6 : (p.late != q.late) = true := by rw [bne_iff_ne]; exact e6
    have QF := Lib.hid (And.intro q0 (And.intro q1 (And.intro q2 (And.intro q3 (And.intro q4 (And.intro q5 (q6)))))))
    clear hne e0 e1 e2 e3 e4 e5 e6 q0 q1 q2 q3 q4 q5 q6
    go_enter Tryz.func19, Tryz.ntmps19
    obtain ⟨c0, c1, c2, c3, c4, c5, c6, c7, c8, c9⟩ := S0.out.one.cells
    obtain ⟨d0, d1, d2, d3, d4, d5, d6, d7, d8, d9⟩ := S0.out.two.cells
    go_wp2_with fail
    refine (K1.out _ S0.out).mono ?_
    rintro e w1 ⟨rfl, hs⟩
    have S1 := Lib.hid hs
    clear c0 c1 c2 c3 c4 c5 c6 c7 c8 c9 d0 d1 d2 d3 d4 d5 d6 d7 d8 d9
    obtain ⟨c0, c1, c2, c3, c4, c5, c6, c7, c8, c9⟩ := S1.out.one.cells
    obtain ⟨d0, d1, d2, d3, d4, d5, d6, d7, d8, d9⟩ := S1.out.two.cells
    clear hs
    go_wp2_with fail
    refine (K2.out _ S1.out).mono ?_
    rintro e w2 ⟨rfl, hs⟩
    have S2 := Lib.hid hs
    clear c0 c1 c2 c3 c4 c5 c6 c7 c8 c9 d0 d1 d2 d3 d4 d5 d6 d7 d8 d9
    obtain ⟨q0, q1, q2, q3, q4, q5, q6⟩ := QF.out
    obtain ⟨c0, c1, c2, c3, c4, c5, c6, c7, c8, c9⟩ := S2.out.one.cells
    obtain ⟨d0, d1, d2, d3, d4, d5, d6, d7, d8, d9⟩ := S2.out.two.cells
    clear hs
    go_wp2_with fail
    go_ret2
    exact ⟨by rw [H.out]; rfl, S2.out.base⟩
end Go.Proofs.YtdinaedknlkicaaGreatDoor.Nodes

/-
  Contracts of the reference of layer 8: Alike, Equal, Same.
-/
import Derived.Test.YtfmobnlnedljeaaDoorClauseAsks
import Derived.Test.YtfmobnlnedljeaaDoorRefSources
import Derived.Test.YtfmobnlnedljeaaDoorRefQuery
import Derived.Test.YtfmobnlnedljeaaDoorRefAlike
import Derived.Test.YtfmobnlnedljeaaDoorRefEqual
import Derived.Outline
namespace Go.Proofs.YtfmobnlnedljeaaDoor.Nodes
open Go.ChangeShapes Go.WideShapes Go.ChangeAt Go.RowKit

theorem alikeQ_parts (p q : Qy) : alikeQ p q = ((p.agg == q.agg) && (alikeB p.arg q.arg && (decide (p.src = q.src) && ((p.join == q.join) && (alikeB p.cond q.cond && ((p.win.kind == q.win.kind) && ((p.win.size == q.win.size) && ((p.win.every == q.win.every) && ((p.key == q.key) && (p.late == q.late)))))))))) := by
  unfold alikeQ headsB restB coreQ
  rw [Bool.eq_iff_iff]
  simp only [Bool.and_eq_true, decide_eq_true_iff, beq_iff_eq, Prod.mk.injEq]
  constructor
  · rintro ⟨⟨h1, h2, ⟨h3, h4, h5⟩, h6, h7⟩, h8, h9, h10⟩
    exact ⟨h1, h9, h8, h2, h10, h3, h4, h5, h6, h7⟩
  · rintro ⟨h1, h9, h8, h2, h10, h3, h4, h5, h6, h7⟩
    exact ⟨⟨h1, h2, ⟨h3, h4, h5⟩, h6, h7⟩, h8, h9, h10⟩
set_option maxRecDepth 100000 in
set_option maxHeartbeats 2000000 in
theorem refAlikeQ_any (s t : Sl) (p q : Qy) (w : World) (hP : ReadsQ w s p) (hQ : ReadsQ w t q) (hpa : p.arg.length ≤ 1000000) (hpc : p.cond.length ≤ 1000000) (hps : p.src.length ≤ 9223372036854775807) :
    Calls Tryd.prog 39 #[qyVal s p, qyVal t q] w fun e w' => e = .returned (.bool (alikeQ p q)) ∧ Below w.heap.size w w' := by
  have L1 := Lib.hid (fun (W : World) (h : SP w W s p t q) => to_sp h (refAlike_any s.arg t.arg p.arg q.arg W (hP.arg.below h.base) (hQ.arg.below h.base) hpa))
  have EQ := Lib.hid (fun (W : World) (h : SP w W s p t q) => to_sp h (by_draws (refSameSources_any s.src t.src p.src q.src W (hP.src.below h.base) (hQ.src.below h.base) hps)))
  have L2 := Lib.hid (fun (W : World) (h : SP w W s p t q) => to_sp h (refAlike_any s.cond t.cond p.cond q.cond W (hP.cond.below h.base) (hQ.cond.below h.base) hpc))
  have S0 := Lib.hid (sp_start w s t p q)
  have HP := alikeQ_parts p q
  unfold qyBox at S0
  unfold qyVal qyRow
  clear hP hQ hpa hpc hps
  cases x0 : (p.agg == q.agg)
  · have H : Hid (alikeQ p q = false) := Lib.hid (by rw [HP, x0]; rfl)
    clear HP
    go_enter Tryd.func39, Tryd.ntmps39
    obtain ⟨c0, c1, c2, c3, c4, c5, c6, c7, c8, c9⟩ := S0.out.one.cells
    obtain ⟨d0, d1, d2, d3, d4, d5, d6, d7, d8, d9⟩ := S0.out.two.cells
    go_wp2_with fail
    go_ret
    exact ⟨by rw [H.out]; rfl, S0.out.base⟩
  rw [x0, Bool.true_and] at HP
  cases x1 : alikeB p.arg q.arg
  · have H : Hid (alikeQ p q = false) := Lib.hid (by rw [HP, x1]; rfl)
    rw [x1] at L1
    clear HP x1
    go_enter Tryd.func39, Tryd.ntmps39
    obtain ⟨c0, c1, c2, c3, c4, c5, c6, c7, c8, c9⟩ := S0.out.one.cells
    obtain ⟨d0, d1, d2, d3, d4, d5, d6, d7, d8, d9⟩ := S0.out.two.cells
    go_wp2_with fail
    refine (L1.out _ S0.out).mono ?_
    rintro e w1 ⟨rfl, hs⟩
    have S1 := Lib.hid hs
    clear c0 c1 c2 c3 c4 c5 c6 c7 c8 c9 d0 d1 d2 d3 d4 d5 d6 d7 d8 d9
    obtain ⟨c0, c1, c2, c3, c4, c5, c6, c7, c8, c9⟩ := S1.out.one.cells
    obtain ⟨d0, d1, d2, d3, d4, d5, d6, d7, d8, d9⟩ := S1.out.two.cells
    clear hs
    go_wp2_with fail
    go_ret
    exact ⟨by rw [H.out]; rfl, S1.out.base⟩
  rw [x1, Bool.true_and] at HP
  rw [x1] at L1
  cases x2 : decide (p.src = q.src)
  · have H : Hid (alikeQ p q = false) := Lib.hid (by rw [HP, x2]; rfl)
    rw [x2] at EQ
    clear HP x1 x2
    go_enter Tryd.func39, Tryd.ntmps39
    obtain ⟨c0, c1, c2, c3, c4, c5, c6, c7, c8, c9⟩ := S0.out.one.cells
    obtain ⟨d0, d1, d2, d3, d4, d5, d6, d7, d8, d9⟩ := S0.out.two.cells
    go_wp2_with fail
    refine (L1.out _ S0.out).mono ?_
    rintro e w1 ⟨rfl, hs⟩
    have S1 := Lib.hid hs
    clear c0 c1 c2 c3 c4 c5 c6 c7 c8 c9 d0 d1 d2 d3 d4 d5 d6 d7 d8 d9
    obtain ⟨c0, c1, c2, c3, c4, c5, c6, c7, c8, c9⟩ := S1.out.one.cells
    obtain ⟨d0, d1, d2, d3, d4, d5, d6, d7, d8, d9⟩ := S1.out.two.cells
    clear hs
    go_wp2_with fail
    refine (EQ.out _ S1.out).mono ?_
    rintro e w2 ⟨rfl, hs⟩
    have S2 := Lib.hid hs
    clear c0 c1 c2 c3 c4 c5 c6 c7 c8 c9 d0 d1 d2 d3 d4 d5 d6 d7 d8 d9
    obtain ⟨c0, c1, c2, c3, c4, c5, c6, c7, c8, c9⟩ := S2.out.one.cells
    obtain ⟨d0, d1, d2, d3, d4, d5, d6, d7, d8, d9⟩ := S2.out.two.cells
    clear hs
    go_wp2_with fail
    go_ret
    exact ⟨by rw [H.out]; rfl, S2.out.base⟩
  rw [x2, Bool.true_and] at HP
  rw [x2] at EQ
  by_cases e3 : p.join = q.join
  case neg =>
    have x3 : (p.join == q.join) = false := by rw [beq_eq_false_iff_ne]; exact e3
    have H : Hid (alikeQ p q = false) := Lib.hid (by rw [HP, x3]; rfl)
    have X3 := Lib.hid x3
    clear HP x1 x2 x3 e3
    go_enter Tryd.func39, Tryd.ntmps39
    obtain ⟨c0, c1, c2, c3, c4, c5, c6, c7, c8, c9⟩ := S0.out.one.cells
    obtain ⟨d0, d1, d2, d3, d4, d5, d6, d7, d8, d9⟩ := S0.out.two.cells
    go_wp2_with fail
    refine (L1.out _ S0.out).mono ?_
    rintro e w1 ⟨rfl, hs⟩
    have S1 := Lib.hid hs
    clear c0 c1 c2 c3 c4 c5 c6 c7 c8 c9 d0 d1 d2 d3 d4 d5 d6 d7 d8 d9
    obtain ⟨c0, c1, c2, c3, c4, c5, c6, c7, c8, c9⟩ := S1.out.one.cells
    obtain ⟨d0, d1, d2, d3, d4, d5, d6, d7, d8, d9⟩ := S1.out.two.cells
    clear hs
    go_wp2_with fail
    refine (EQ.out _ S1.out).mono ?_
    rintro e w2 ⟨rfl, hs⟩
    have S2 := Lib.hid hs
    clear c0 c1 c2 c3 c4 c5 c6 c7 c8 c9 d0 d1 d2 d3 d4 d5 d6 d7 d8 d9
    have x3 := X3.out
    obtain ⟨c0, c1, c2, c3, c4, c5, c6, c7, c8, c9⟩ := S2.out.one.cells
    obtain ⟨d0, d1, d2, d3, d4, d5, d6, d7, d8, d9⟩ := S2.out.two.cells
    clear hs
    go_wp2_with fail
    go_ret
    exact ⟨by rw [H.out]; rfl, S2.out.base⟩
  have x3 : (p.join == q.join) = true := by rw [beq_iff_eq]; exact e3
  rw [x3, Bool.true_and] at HP
  have X3 := Lib.hid x3
  clear x1 x2 x3 e3
  cases x4 : alikeB p.cond q.cond
  · have H : Hid (alikeQ p q = false) := Lib.hid (by rw [HP, x4]; rfl)
    rw [x4] at L2
    clear HP x4
    go_enter Tryd.func39, Tryd.ntmps39
    obtain ⟨c0, c1, c2, c3, c4, c5, c6, c7, c8, c9⟩ := S0.out.one.cells
    obtain ⟨d0, d1, d2, d3, d4, d5, d6, d7, d8, d9⟩ := S0.out.two.cells
    go_wp2_with fail
    refine (L1.out _ S0.out).mono ?_
    rintro e w1 ⟨rfl, hs⟩
    have S1 := Lib.hid hs
    clear c0 c1 c2 c3 c4 c5 c6 c7 c8 c9 d0 d1 d2 d3 d4 d5 d6 d7 d8 d9
    obtain ⟨c0, c1, c2, c3, c4, c5, c6, c7, c8, c9⟩ := S1.out.one.cells
    obtain ⟨d0, d1, d2, d3, d4, d5, d6, d7, d8, d9⟩ := S1.out.two.cells
    clear hs
    go_wp2_with fail
    refine (EQ.out _ S1.out).mono ?_
    rintro e w2 ⟨rfl, hs⟩
    have S2 := Lib.hid hs
    clear c0 c1 c2 c3 c4 c5 c6 c7 c8 c9 d0 d1 d2 d3 d4 d5 d6 d7 d8 d9
    have x3 := X3.out
    obtain ⟨c0, c1, c2, c3, c4, c5, c6, c7, c8, c9⟩ := S2.out.one.cells
    obtain ⟨d0, d1, d2, d3, d4, d5, d6, d7, d8, d9⟩ := S2.out.two.cells
    clear hs
    go_wp2_with fail
    refine (L2.out _ S2.out).mono ?_
    rintro e w3 ⟨rfl, hs⟩
    have S3 := Lib.hid hs
    clear c0 c1 c2 c3 c4 c5 c6 c7 c8 c9 d0 d1 d2 d3 d4 d5 d6 d7 d8 d9
    obtain ⟨c0, c1, c2, c3, c4, c5, c6, c7, c8, c9⟩ := S3.out.one.cells
    obtain ⟨d0, d1, d2, d3, d4, d5, d6, d7, d8, d9⟩ := S3.out.two.cells
    clear hs
    go_wp2_with fail
    go_ret
    exact ⟨by rw [H.out]; rfl, S3.out.base⟩
  rw [x4, Bool.true_and] at HP
  rw [x4] at L2
  clear x4
  by_cases e5 : p.win.kind = q.win.kind
  case neg =>
    have x5 : (p.win.kind == q.win.kind) = false := by rw [beq_eq_false_iff_ne]; exact e5
    have H : Hid (alikeQ p q = false) := Lib.hid (by rw [HP, x5]; rfl)
    have X5 := Lib.hid x5
    clear HP x5 e5
    go_enter Tryd.func39, Tryd.ntmps39
    obtain ⟨c0, c1, c2, c3, c4, c5, c6, c7, c8, c9⟩ := S0.out.one.cells
    obtain ⟨d0, d1, d2, d3, d4, d5, d6, d7, d8, d9⟩ := S0.out.two.cells
    go_wp2_with fail
    refine (L1.out _ S0.out).mono ?_
    rintro e w1 ⟨rfl, hs⟩
    have S1 := Lib.hid hs
    clear c0 c1 c2 c3 c4 c5 c6 c7 c8 c9 d0 d1 d2 d3 d4 d5 d6 d7 d8 d9
    obtain ⟨c0, c1, c2, c3, c4, c5, c6, c7, c8, c9⟩ := S1.out.one.cells
    obtain ⟨d0, d1, d2, d3, d4, d5, d6, d7, d8, d9⟩ := S1.out.two.cells
    clear hs
    go_wp2_with fail
    refine (EQ.out _ S1.out).mono ?_
    rintro e w2 ⟨rfl, hs⟩
    have S2 := Lib.hid hs
    clear c0 c1 c2 c3 c4 c5 c6 c7 c8 c9 d0 d1 d2 d3 d4 d5 d6 d7 d8 d9
    have x3 := X3.out
    obtain ⟨c0, c1, c2, c3, c4, c5, c6, c7, c8, c9⟩ := S2.out.one.cells
    obtain ⟨d0, d1, d2, d3, d4, d5, d6, d7, d8, d9⟩ := S2.out.two.cells
    clear hs
    go_wp2_with fail
    refine (L2.out _ S2.out).mono ?_
    rintro e w3 ⟨rfl, hs⟩
    have S3 := Lib.hid hs
    clear c0 c1 c2 c3 c4 c5 c6 c7 c8 c9 d0 d1 d2 d3 d4 d5 d6 d7 d8 d9
    have x5 := X5.out
    obtain ⟨c0, c1, c2, c3, c4, c5, c6, c7, c8, c9⟩ := S3.out.one.cells
    obtain ⟨d0, d1, d2, d3, d4, d5, d6, d7, d8, d9⟩ := S3.out.two.cells
    clear hs
    go_wp2_with fail
    go_ret
    exact ⟨by rw [H.out]; rfl, S3.out.base⟩
  have x5 : (p.win.kind == q.win.kind) = true := by rw [beq_iff_eq]; exact e5
  rw [x5, Bool.true_and] at HP
  have X5 := Lib.hid x5
  clear x5 e5
  by_cases e6 : p.win.size = q.win.size
  case neg =>
    have x6 : (p.win.size == q.win.size) = false := by rw [beq_eq_false_iff_ne]; exact e6
    have H : Hid (alikeQ p q = false) := Lib.hid (by rw [HP, x6]; rfl)
    have X6 := Lib.hid x6
    clear HP x6 e6
    go_enter Tryd.func39, Tryd.ntmps39
    obtain ⟨c0, c1, c2, c3, c4, c5, c6, c7, c8, c9⟩ := S0.out.one.cells
    obtain ⟨d0, d1, d2, d3, d4, d5, d6, d7, d8, d9⟩ := S0.out.two.cells
    go_wp2_with fail
    refine (L1.out _ S0.out).mono ?_
    rintro e w1 ⟨rfl, hs⟩
    have S1 := Lib.hid hs
    clear c0 c1 c2 c3 c4 c5 c6 c7 c8 c9 d0 d1 d2 d3 d4 d5 d6 d7 d8 d9
    obtain ⟨c0, c1, c2, c3, c4, c5, c6, c7, c8, c9⟩ := S1.out.one.cells
    obtain ⟨d0, d1, d2, d3, d4, d5, d6, d7, d8, d9⟩ := S1.out.two.cells
    clear hs
    go_wp2_with fail
    refine (EQ.out _ S1.out).mono ?_
    rintro e w2 ⟨rfl, hs⟩
    have S2 := Lib.hid hs
    clear c0 c1 c2 c3 c4 c5 c6 c7 c8 c9 d0 d1 d2 d3 d4 d5 d6 d7 d8 d9
    have x3 := X3.out
    obtain ⟨c0, c1, c2, c3, c4, c5, c6, c7, c8, c9⟩ := S2.out.one.cells
    obtain ⟨d0, d1, d2, d3, d4, d5, d6, d7, d8, d9⟩ := S2.out.two.cells
    clear hs
    go_wp2_with fail
    refine (L2.out _ S2.out).mono ?_
    rintro e w3 ⟨rfl, hs⟩
    have S3 := Lib.hid hs
    clear c0 c1 c2 c3 c4 c5 c6 c7 c8 c9 d0 d1 d2 d3 d4 d5 d6 d7 d8 d9
    have x5 := X5.out
    have x6 := X6.out
    obtain ⟨c0, c1, c2, c3, c4, c5, c6, c7, c8, c9⟩ := S3.out.one.cells
    obtain ⟨d0, d1, d2, d3, d4, d5, d6, d7, d8, d9⟩ := S3.out.two.cells
    clear hs
    go_wp2_with fail
    go_ret
    exact ⟨by rw [H.out]; rfl, S3.out.base⟩
  have x6 : (p.win.size == q.win.size) = true := by rw [beq_iff_eq]; exact e6
  rw [x6, Bool.true_and] at HP
  have X6 := Lib.hid x6
  clear x6 e6
  by_cases e7 : p.win.every = q.win.every
  case neg =>
    have x7 : (p.win.every == q.win.every) = false := by rw [beq_eq_false_iff_ne]; exact e7
    have H : Hid (alikeQ p q = false) := Lib.hid (by rw [HP, x7]; rfl)
    have X7 := Lib.hid x7
    clear HP x7 e7
    go_enter Tryd.func39, Tryd.ntmps39
    obtain ⟨c0, c1, c2, c3, c4, c5, c6, c7, c8, c9⟩ := S0.out.one.cells
    obtain ⟨d0, d1, d2, d3, d4, d5, d6, d7, d8, d9⟩ := S0.out.two.cells
    go_wp2_with fail
    refine (L1.out _ S0.out).mono ?_
    rintro e w1 ⟨rfl, hs⟩
    have S1 := Lib.hid hs
    clear c0 c1 c2 c3 c4 c5 c6 c7 c8 c9 d0 d1 d2 d3 d4 d5 d6 d7 d8 d9
    obtain ⟨c0, c1, c2, c3, c4, c5, c6, c7, c8, c9⟩ := S1.out.one.cells
    obtain ⟨d0, d1, d2, d3, d4, d5, d6, d7, d8, d9⟩ := S1.out.two.cells
    clear hs
    go_wp2_with fail
    refine (EQ.out _ S1.out).mono ?_
    rintro e w2 ⟨rfl, hs⟩
    have S2 := Lib.hid hs
    clear c0 c1 c2 c3 c4 c5 c6 c7 c8 c9 d0 d1 d2 d3 d4 d5 d6 d7 d8 d9
    have x3 := X3.out
    obtain ⟨c0, c1, c2, c3, c4, c5, c6, c7, c8, c9⟩ := S2.out.one.cells
    obtain ⟨d0, d1, d2, d3, d4, d5, d6, d7, d8, d9⟩ := S2.out.two.cells
    clear hs
    go_wp2_with fail
    refine (L2.out _ S2.out).mono ?_
    rintro e w3 ⟨rfl, hs⟩
    have S3 := Lib.hid hs
    clear c0 c1 c2 c3 c4 c5 c6 c7 c8 c9 d0 d1 d2 d3 d4 d5 d6 d7 d8 d9
    have x5 := X5.out
    have x6 := X6.out
    have x7 := X7.out
    obtain ⟨c0, c1, c2, c3, c4, c5, c6, c7, c8, c9⟩ := S3.out.one.cells
    obtain ⟨d0, d1, d2, d3, d4, d5, d6, d7, d8, d9⟩ := S3.out.two.cells
    clear hs
    go_wp2_with fail
    go_ret
    exact ⟨by rw [H.out]; rfl, S3.out.base⟩
  have x7 : (p.win.every == q.win.every) = true := by rw [beq_iff_eq]; exact e7
  rw [x7, Bool.true_and] at HP
  have X7 := Lib.hid x7
  clear x7 e7
  by_cases e8 : p.key = q.key
  case neg =>
    have x8 : (p.key == q.key) = false := by rw [beq_eq_false_iff_ne]; exact e8
    have H : Hid (alikeQ p q = false) := Lib.hid (by rw [HP, x8]; rfl)
    have X8 := Lib.hid x8
    clear HP x8 e8
    go_enter Tryd.func39, Tryd.ntmps39
    obtain ⟨c0, c1, c2, c3, c4, c5, c6, c7, c8, c9⟩ := S0.out.one.cells
    obtain ⟨d0, d1, d2, d3, d4, d5, d6, d7, d8, d9⟩ := S0.out.two.cells
    go_wp2_with fail
    refine (L1.out _ S0.out).mono ?_
    rintro e w1 ⟨rfl, hs⟩
    have S1 := Lib.hid hs
    clear c0 c1 c2 c3 c4 c5 c6 c7 c8 c9 d0 d1 d2 d3 d4 d5 d6 d7 d8 d9
    obtain ⟨c0, c1, c2, c3, c4, c5, c6, c7, c8, c9⟩ := S1.out.one.cells
    obtain ⟨d0, d1, d2, d3, d4, d5, d6, d7, d8, d9⟩ := S1.out.two.cells
    clear hs
    go_wp2_with fail
    refine (EQ.out _ S1.out).mono ?_
    rintro e w2 ⟨rfl, hs⟩
    have S2 := Lib.hid hs
    clear c0 c1 c2 c3 c4 c5 c6 c7 c8 c9 d0 d1 d2 d3 d4 d5 d6 d7 d8 d9
    have x3 := X3.out
    obtain ⟨c0, c1, c2, c3, c4, c5, c6, c7, c8, c9⟩ := S2.out.one.cells
    obtain ⟨d0, d1, d2, d3, d4, d5, d6, d7, d8, d9⟩ := S2.out.two.cells
    clear hs
    go_wp2_with fail
    refine (L2.out _ S2.out).mono ?_
    rintro e w3 ⟨rfl, hs⟩
    have S3 := Lib.hid hs
    clear c0 c1 c2 c3 c4 c5 c6 c7 c8 c9 d0 d1 d2 d3 d4 d5 d6 d7 d8 d9
    have x5 := X5.out
    have x6 := X6.out
    have x7 := X7.out
    have x8 := X8.out
    obtain ⟨c0, c1, c2, c3, c4, c5, c6, c7, c8, c9⟩ := S3.out.one.cells
    obtain ⟨d0, d1, d2, d3, d4, d5, d6, d7, d8, d9⟩ := S3.out.two.cells
    clear hs
    go_wp2_with fail
    go_ret
    exact ⟨by rw [H.out]; rfl, S3.out.base⟩
  have x8 : (p.key == q.key) = true := by rw [beq_iff_eq]; exact e8
  rw [x8, Bool.true_and] at HP
  have X8 := Lib.hid x8
  clear x8 e8
  obtain ⟨y, hy⟩ : ∃ y, (p.late == q.late) = y := ⟨_, rfl⟩
  rw [hy] at HP
  have H := Lib.hid HP
  have X9 := Lib.hid hy
  clear HP hy
  go_enter Tryd.func39, Tryd.ntmps39
  obtain ⟨c0, c1, c2, c3, c4, c5, c6, c7, c8, c9⟩ := S0.out.one.cells
  obtain ⟨d0, d1, d2, d3, d4, d5, d6, d7, d8, d9⟩ := S0.out.two.cells
  go_wp2_with fail
  refine (L1.out _ S0.out).mono ?_
  rintro e w1 ⟨rfl, hs⟩
  have S1 := Lib.hid hs
  clear c0 c1 c2 c3 c4 c5 c6 c7 c8 c9 d0 d1 d2 d3 d4 d5 d6 d7 d8 d9
  obtain ⟨c0, c1, c2, c3, c4, c5, c6, c7, c8, c9⟩ := S1.out.one.cells
  obtain ⟨d0, d1, d2, d3, d4, d5, d6, d7, d8, d9⟩ := S1.out.two.cells
  clear hs
  go_wp2_with fail
  refine (EQ.out _ S1.out).mono ?_
  rintro e w2 ⟨rfl, hs⟩
  have S2 := Lib.hid hs
  clear c0 c1 c2 c3 c4 c5 c6 c7 c8 c9 d0 d1 d2 d3 d4 d5 d6 d7 d8 d9
  have x3 := X3.out
  obtain ⟨c0, c1, c2, c3, c4, c5, c6, c7, c8, c9⟩ := S2.out.one.cells
  obtain ⟨d0, d1, d2, d3, d4, d5, d6, d7, d8, d9⟩ := S2.out.two.cells
  clear hs
  go_wp2_with fail
  refine (L2.out _ S2.out).mono ?_
  rintro e w3 ⟨rfl, hs⟩
  have S3 := Lib.hid hs
  clear c0 c1 c2 c3 c4 c5 c6 c7 c8 c9 d0 d1 d2 d3 d4 d5 d6 d7 d8 d9
  have x5 := X5.out
  have x6 := X6.out
  have x7 := X7.out
  have x8 := X8.out
  have x9 := X9.out
  obtain ⟨c0, c1, c2, c3, c4, c5, c6, c7, c8, c9⟩ := S3.out.one.cells
  obtain ⟨d0, d1, d2, d3, d4, d5, d6, d7, d8, d9⟩ := S3.out.two.cells
  clear hs
  go_wp2_with fail
  go_ret
  exact ⟨by rw [H.out]; rfl, S3.out.base⟩
set_option maxRecDepth 100000 in
set_option maxHeartbeats 2000000 in
theorem refEqualQ_any (s t : Sl) (p q : Qy) (w : World) (hP : ReadsQ w s p) (hQ : ReadsQ w t q) (hpa : p.arg.length ≤ 1000000) (hpc : p.cond.length ≤ 1000000) (hps : p.src.length ≤ 9223372036854775807) :
    Calls Tryd.prog 27 #[qyVal s p, qyVal t q] w fun e w' => e = .returned (.bool (equalQ p q)) ∧ Below w.heap.size w w' := by
  have AL := Lib.hid (fun (W : World) (h : SP w W s p t q) => to_sp h (refAlikeQ_any s t p q W (hP.below h.base) (hQ.below h.base) hpa hpc hps))
  have E1 := Lib.hid (fun (W : World) (h : SP w W s p t q) => to_sp h (by_draws (refEqual_any s.arg t.arg p.arg q.arg W (hP.arg.below h.base) (hQ.arg.below h.base) hpa)))
  have E2 := Lib.hid (fun (W : World) (h : SP w W s p t q) => to_sp h (by_draws (refEqual_any s.cond t.cond p.cond q.cond W (hP.cond.below h.base) (hQ.cond.below h.base) hpc)))
  have S0 := Lib.hid (sp_start w s t p q)
  unfold qyBox at S0
  unfold qyVal qyRow at AL ⊢
  have HP : equalQ p q = (alikeQ p q && (equalB p.arg q.arg && equalB p.cond q.cond)) := rfl
  clear hP hQ hpa hpc hps
  cases x0 : alikeQ p q
  · have H : Hid (equalQ p q = false) := Lib.hid (by rw [HP, x0]; rfl)
    rw [x0] at AL
    clear HP x0
    go_enter Tryd.func27, Tryd.ntmps27
    obtain ⟨c0, c1, c2, c3, c4, c5, c6, c7, c8, c9⟩ := S0.out.one.cells
    obtain ⟨d0, d1, d2, d3, d4, d5, d6, d7, d8, d9⟩ := S0.out.two.cells
    go_wp2_with fail
    refine (AL.out _ S0.out).mono ?_
    rintro e w1 ⟨rfl, hs⟩
    have S1 := Lib.hid hs
    clear c0 c1 c2 c3 c4 c5 c6 c7 c8 c9 d0 d1 d2 d3 d4 d5 d6 d7 d8 d9
    obtain ⟨c0, c1, c2, c3, c4, c5, c6, c7, c8, c9⟩ := S1.out.one.cells
    obtain ⟨d0, d1, d2, d3, d4, d5, d6, d7, d8, d9⟩ := S1.out.two.cells
    clear hs
    go_wp2_with fail
    go_ret
    exact ⟨by rw [H.out]; rfl, S1.out.base⟩
  rw [x0, Bool.true_and] at HP
  rw [x0] at AL
  cases x1 : equalB p.arg q.arg
  · have H : Hid (equalQ p q = false) := Lib.hid (by rw [HP, x1]; rfl)
    rw [x1] at E1
    clear HP x0 x1
    go_enter Tryd.func27, Tryd.ntmps27
    obtain ⟨c0, c1, c2, c3, c4, c5, c6, c7, c8, c9⟩ := S0.out.one.cells
    obtain ⟨d0, d1, d2, d3, d4, d5, d6, d7, d8, d9⟩ := S0.out.two.cells
    go_wp2_with fail
    refine (AL.out _ S0.out).mono ?_
    rintro e w1 ⟨rfl, hs⟩
    have S1 := Lib.hid hs
    clear c0 c1 c2 c3 c4 c5 c6 c7 c8 c9 d0 d1 d2 d3 d4 d5 d6 d7 d8 d9
    obtain ⟨c0, c1, c2, c3, c4, c5, c6, c7, c8, c9⟩ := S1.out.one.cells
    obtain ⟨d0, d1, d2, d3, d4, d5, d6, d7, d8, d9⟩ := S1.out.two.cells
    clear hs
    go_wp2_with fail
    refine (E1.out _ S1.out).mono ?_
    rintro e w2 ⟨rfl, hs⟩
    have S2 := Lib.hid hs
    clear c0 c1 c2 c3 c4 c5 c6 c7 c8 c9 d0 d1 d2 d3 d4 d5 d6 d7 d8 d9
    obtain ⟨c0, c1, c2, c3, c4, c5, c6, c7, c8, c9⟩ := S2.out.one.cells
    obtain ⟨d0, d1, d2, d3, d4, d5, d6, d7, d8, d9⟩ := S2.out.two.cells
    clear hs
    go_wp2_with fail
    go_ret
    exact ⟨by rw [H.out]; rfl, S2.out.base⟩
  rw [x1, Bool.true_and] at HP
  rw [x1] at E1
  obtain ⟨y, hy⟩ : ∃ y, equalB p.cond q.cond = y := ⟨_, rfl⟩
  rw [hy] at HP E2
  have H := Lib.hid HP
  clear HP x0 x1 hy
  go_enter Tryd.func27, Tryd.ntmps27
  obtain ⟨c0, c1, c2, c3, c4, c5, c6, c7, c8, c9⟩ := S0.out.one.cells
  obtain ⟨d0, d1, d2, d3, d4, d5, d6, d7, d8, d9⟩ := S0.out.two.cells
  go_wp2_with fail
  refine (AL.out _ S0.out).mono ?_
  rintro e w1 ⟨rfl, hs⟩
  have S1 := Lib.hid hs
  clear c0 c1 c2 c3 c4 c5 c6 c7 c8 c9 d0 d1 d2 d3 d4 d5 d6 d7 d8 d9
  obtain ⟨c0, c1, c2, c3, c4, c5, c6, c7, c8, c9⟩ := S1.out.one.cells
  obtain ⟨d0, d1, d2, d3, d4, d5, d6, d7, d8, d9⟩ := S1.out.two.cells
  clear hs
  go_wp2_with fail
  refine (E1.out _ S1.out).mono ?_
  rintro e w2 ⟨rfl, hs⟩
  have S2 := Lib.hid hs
  clear c0 c1 c2 c3 c4 c5 c6 c7 c8 c9 d0 d1 d2 d3 d4 d5 d6 d7 d8 d9
  obtain ⟨c0, c1, c2, c3, c4, c5, c6, c7, c8, c9⟩ := S2.out.one.cells
  obtain ⟨d0, d1, d2, d3, d4, d5, d6, d7, d8, d9⟩ := S2.out.two.cells
  clear hs
  go_wp2_with fail
  refine (E2.out _ S2.out).mono ?_
  rintro e w3 ⟨rfl, hs⟩
  have S3 := Lib.hid hs
  clear c0 c1 c2 c3 c4 c5 c6 c7 c8 c9 d0 d1 d2 d3 d4 d5 d6 d7 d8 d9
  obtain ⟨c0, c1, c2, c3, c4, c5, c6, c7, c8, c9⟩ := S3.out.one.cells
  obtain ⟨d0, d1, d2, d3, d4, d5, d6, d7, d8, d9⟩ := S3.out.two.cells
  clear hs
  go_wp2_with fail
  go_ret
  exact ⟨by rw [H.out]; rfl, S3.out.base⟩
set_option maxRecDepth 100000 in
set_option maxHeartbeats 2000000 in
theorem refSameQ_any (s t : Sl) (p q : Qy) (w : World) (hP : ReadsQ w s p) (hQ : ReadsQ w t q) (hpa : p.arg.length ≤ 1000000) (hpc : p.cond.length ≤ 1000000) (hps : p.src.length ≤ 9223372036854775807) (hqa : q.arg.length ≤ 1000000) (hqc : q.cond.length ≤ 1000000) (hqs : q.src.length ≤ 9223372036854775807) :
    Calls Tryd.prog 25 #[qyVal s p, qyVal t q] w fun e w' => e = .returned (.tuple #[.bool (sameQ p q).1, .int .i64 (sameQ p q).2]) ∧ Below w.heap.size w w' := by
  have K1 := Lib.hid (fun (W : World) (h : SP w W s p t q) => to_sp h (refCheckQ_any s p W (hP.below h.base) hpa hpc hps))
  have K2 := Lib.hid (fun (W : World) (h : SP w W s p t q) => to_sp h (refCheckQ_any t q W (hQ.below h.base) hqa hqc hqs))
  have AL := Lib.hid (fun (W : World) (h : SP w W s p t q) => to_sp h (refAlikeQ_any s t p q W (hP.below h.base) (hQ.below h.base) hpa hpc hps))
  have S0 := Lib.hid (sp_start w s t p q)
  unfold qyBox at S0
  unfold qyVal qyRow at K1 K2 AL ⊢
  clear hP hQ hpa hpc hps hqa hqc hqs
  obtain ⟨ep, hep⟩ : ∃ e, checkQ p = e := ⟨_, rfl⟩
  obtain ⟨eq, heq⟩ : ∃ e, checkQ q = e := ⟨_, rfl⟩
  rw [hep] at K1
  rw [heq] at K2
  by_cases z0 : ep = 0
  case neg =>
    have qz : (ep != 0) = true := by rw [bne_iff_ne]; exact z0
    have H : Hid (sameQ p q = (false, ep)) := Lib.hid (by rw [sameQ_err (by rw [hep]; exact z0), hep])
    clear z0 hep heq
    go_enter Tryd.func25, Tryd.ntmps25
    obtain ⟨c0, c1, c2, c3, c4, c5, c6, c7, c8, c9⟩ := S0.out.one.cells
    obtain ⟨d0, d1, d2, d3, d4, d5, d6, d7, d8, d9⟩ := S0.out.two.cells
    go_wp2_with fail
    refine (K1.out _ S0.out).mono ?_
    rintro e w1 ⟨rfl, hs⟩
    have S1 := Lib.hid hs
    clear c0 c1 c2 c3 c4 c5 c6 c7 c8 c9 d0 d1 d2 d3 d4 d5 d6 d7 d8 d9
    obtain ⟨c0, c1, c2, c3, c4, c5, c6, c7, c8, c9⟩ := S1.out.one.cells
    obtain ⟨d0, d1, d2, d3, d4, d5, d6, d7, d8, d9⟩ := S1.out.two.cells
    clear hs
    go_wp2_with fail
    refine (K1.out _ S1.out).mono ?_
    rintro e w2 ⟨rfl, hs⟩
    have S2 := Lib.hid hs
    clear c0 c1 c2 c3 c4 c5 c6 c7 c8 c9 d0 d1 d2 d3 d4 d5 d6 d7 d8 d9
    obtain ⟨c0, c1, c2, c3, c4, c5, c6, c7, c8, c9⟩ := S2.out.one.cells
    obtain ⟨d0, d1, d2, d3, d4, d5, d6, d7, d8, d9⟩ := S2.out.two.cells
    clear hs
    go_wp2_with fail
    go_ret2
    exact ⟨by rw [H.out]; rfl, S2.out.base⟩
  subst z0
  by_cases z1 : eq = 0
  case neg =>
    have qz : (eq != 0) = true := by rw [bne_iff_ne]; exact z1
    have H : Hid (sameQ p q = (false, eq)) := Lib.hid (by rw [sameQ_err2 hep (by rw [heq]; exact z1), heq])
    clear z1 hep heq
    go_enter Tryd.func25, Tryd.ntmps25
    obtain ⟨c0, c1, c2, c3, c4, c5, c6, c7, c8, c9⟩ := S0.out.one.cells
    obtain ⟨d0, d1, d2, d3, d4, d5, d6, d7, d8, d9⟩ := S0.out.two.cells
    go_wp2_with fail
    refine (K1.out _ S0.out).mono ?_
    rintro e w1 ⟨rfl, hs⟩
    have S1 := Lib.hid hs
    clear c0 c1 c2 c3 c4 c5 c6 c7 c8 c9 d0 d1 d2 d3 d4 d5 d6 d7 d8 d9
    obtain ⟨c0, c1, c2, c3, c4, c5, c6, c7, c8, c9⟩ := S1.out.one.cells
    obtain ⟨d0, d1, d2, d3, d4, d5, d6, d7, d8, d9⟩ := S1.out.two.cells
    clear hs
    go_wp2_with fail
    refine (K2.out _ S1.out).mono ?_
    rintro e w2 ⟨rfl, hs⟩
    have S2 := Lib.hid hs
    clear c0 c1 c2 c3 c4 c5 c6 c7 c8 c9 d0 d1 d2 d3 d4 d5 d6 d7 d8 d9
    obtain ⟨c0, c1, c2, c3, c4, c5, c6, c7, c8, c9⟩ := S2.out.one.cells
    obtain ⟨d0, d1, d2, d3, d4, d5, d6, d7, d8, d9⟩ := S2.out.two.cells
    clear hs
    go_wp2_with fail
    refine (K2.out _ S2.out).mono ?_
    rintro e w3 ⟨rfl, hs⟩
    have S3 := Lib.hid hs
    clear c0 c1 c2 c3 c4 c5 c6 c7 c8 c9 d0 d1 d2 d3 d4 d5 d6 d7 d8 d9
    obtain ⟨c0, c1, c2, c3, c4, c5, c6, c7, c8, c9⟩ := S3.out.one.cells
    obtain ⟨d0, d1, d2, d3, d4, d5, d6, d7, d8, d9⟩ := S3.out.two.cells
    clear hs
    go_wp2_with fail
    go_ret2
    exact ⟨by rw [H.out]; rfl, S3.out.base⟩
  subst z1
  have H := Lib.hid (sameQ_is hep heq)
  clear hep heq
  go_enter Tryd.func25, Tryd.ntmps25
  obtain ⟨c0, c1, c2, c3, c4, c5, c6, c7, c8, c9⟩ := S0.out.one.cells
  obtain ⟨d0, d1, d2, d3, d4, d5, d6, d7, d8, d9⟩ := S0.out.two.cells
  go_wp2_with fail
  refine (K1.out _ S0.out).mono ?_
  rintro e w1 ⟨rfl, hs⟩
  have S1 := Lib.hid hs
  clear c0 c1 c2 c3 c4 c5 c6 c7 c8 c9 d0 d1 d2 d3 d4 d5 d6 d7 d8 d9
  obtain ⟨c0, c1, c2, c3, c4, c5, c6, c7, c8, c9⟩ := S1.out.one.cells
  obtain ⟨d0, d1, d2, d3, d4, d5, d6, d7, d8, d9⟩ := S1.out.two.cells
  clear hs
  go_wp2_with fail
  refine (K2.out _ S1.out).mono ?_
  rintro e w2 ⟨rfl, hs⟩
  have S2 := Lib.hid hs
  clear c0 c1 c2 c3 c4 c5 c6 c7 c8 c9 d0 d1 d2 d3 d4 d5 d6 d7 d8 d9
  obtain ⟨c0, c1, c2, c3, c4, c5, c6, c7, c8, c9⟩ := S2.out.one.cells
  obtain ⟨d0, d1, d2, d3, d4, d5, d6, d7, d8, d9⟩ := S2.out.two.cells
  clear hs
  go_wp2_with fail
  refine (AL.out _ S2.out).mono ?_
  rintro e w3 ⟨rfl, hs⟩
  have S3 := Lib.hid hs
  clear c0 c1 c2 c3 c4 c5 c6 c7 c8 c9 d0 d1 d2 d3 d4 d5 d6 d7 d8 d9
  obtain ⟨c0, c1, c2, c3, c4, c5, c6, c7, c8, c9⟩ := S3.out.one.cells
  obtain ⟨d0, d1, d2, d3, d4, d5, d6, d7, d8, d9⟩ := S3.out.two.cells
  clear hs
  go_wp2_with fail
  go_ret2
  exact ⟨by rw [H.out]; rfl, S3.out.base⟩
end Go.Proofs.YtfmobnlnedljeaaDoor.Nodes

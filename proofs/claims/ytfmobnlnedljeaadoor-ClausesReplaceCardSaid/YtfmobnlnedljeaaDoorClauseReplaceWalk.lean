/-
  Walk of the statement ClausesReplace: what is valid is told part by part.
-/
import Derived.Test.YtfmobnlnedljeaaDoorQyState
import Derived.Test.YtfmobnlnedljeaaDoorClauseCheck
import Derived.Test.YtfmobnlnedljeaaDoorRefQuery
import Derived.Test.YtfmobnlnedljeaaDoorRegionHand
import Derived.Deep.CutRange
import Derived.Outline
namespace Go.Proofs.YtfmobnlnedljeaaDoor.Nodes
open Go.ChangeShapes Go.WideShapes Go.ChangeAt Go.RowKit

/-- A query's and a window's blocks. -/
structure RB (w : World) (s : Sl) (q : Qy) (x : Wn) (W : World) : Prop where
  base : Below w.heap.size w W
  one : QyAt W w.heap.size s q
  two : WinAt W (w.heap.size + 1) x
theorem RB.below {w W W' : World} {s : Sl} {q : Qy} {x : Wn} (h : RB w s q x W) (hb : Below W.heap.size W W') : RB w s q x W' := ⟨below_then h.base hb, h.one.below hb, h.two.below hb⟩
theorem rb_start (w : World) (s : Sl) (q : Qy) (x : Wn) : RB w s q x ((w.alloc (qyBox s q)).alloc (winBox x)) := by
  have e : (w.alloc (qyBox s q)).heap.size = w.heap.size + 1 := by simp
  refine ⟨(box_below w _).alloc (by rw [e]; omega) _, (qy_at w s q).below (box_below _ _), ?_⟩
  have := win_at (w.alloc (qyBox s q)) x
  rwa [e] at this
theorem rb4 {w W : World} {s : Sl} {q : Qy} {x : Wn} (h : RB w s q x W) (o1 o2 o3 o4 : Obj) : RB w s q x ((((W.alloc o1).alloc o2).alloc o3).alloc o4).drew :=
  ((((h.below (box_below _ _)).below (box_below _ _)).below (box_below _ _)).below (box_below _ _)).below (Below.drew (Below.refl _ _))
/-- Four copies beside them. -/
structure Q4 (w : World) (s : Sl) (q : Qy) (x : Wn) (sa : Sl) (qa : Qy) (sb : Sl) (qb : Qy) (sc : Sl) (qc : Qy) (sd : Sl) (qd : Qy) (b1 b2 b3 b4 : Nat) (W : World) : Prop where
  rb : RB w s q x W
  a : QyAt W b1 sa qa
  b : QyAt W b2 sb qb
  c : QyAt W b3 sc qc
  d : QyAt W b4 sd qd
theorem Q4.below {w W W' : World} {s sa sb sc sd : Sl} {q qa qb qc qd : Qy} {x : Wn} {b1 b2 b3 b4 : Nat} (h : Q4 w s q x sa qa sb qb sc qc sd qd b1 b2 b3 b4 W) (hb : Below W.heap.size W W') : Q4 w s q x sa qa sb qb sc qc sd qd b1 b2 b3 b4 W' :=
  ⟨h.rb.below hb, h.a.below hb, h.b.below hb, h.c.below hb, h.d.below hb⟩
/-- .. and where they lie. -/
def Apart4 (n b1 b2 b3 b4 : Nat) : Prop := n + 1 < b1 ∧ n + 1 < b2 ∧ n + 1 < b3 ∧ n + 1 < b4 ∧ b1 ≠ b2 ∧ b1 ≠ b3 ∧ b1 ≠ b4 ∧ b2 ≠ b3 ∧ b2 ≠ b4 ∧ b3 ≠ b4
theorem q4_of {w W : World} {s : Sl} {q : Qy} {x : Wn} (h : RB w s q x W) {b1 b2 b3 b4 : Nat} (h1 : W.heap.size ≤ b1 ∧ b1 < W.heap.size + 4) (h2 : W.heap.size ≤ b2 ∧ b2 < W.heap.size + 4) (h3 : W.heap.size ≤ b3 ∧ b3 < W.heap.size + 4) (h4 : W.heap.size ≤ b4 ∧ b4 < W.heap.size + 4)
    (hd : b1 ≠ b2 ∧ b1 ≠ b3 ∧ b1 ≠ b4 ∧ b2 ≠ b3 ∧ b2 ≠ b4 ∧ b3 ≠ b4) : Q4 w s q x s q s q s q s q b1 b2 b3 b4 ((((W.alloc (qyBox s q)).alloc (qyBox s q)).alloc (qyBox s q)).alloc (qyBox s q)).drew ∧ Apart4 w.heap.size b1 b2 b3 b4 := by
  have e1 : (W.alloc (qyBox s q)).heap.size = W.heap.size + 1 := by simp
  have e2 : ((W.alloc (qyBox s q)).alloc (qyBox s q)).heap.size = W.heap.size + 2 := by simp
  have e3 : (((W.alloc (qyBox s q)).alloc (qyBox s q)).alloc (qyBox s q)).heap.size = W.heap.size + 3 := by simp
  have all : ∀ b, W.heap.size ≤ b → b < W.heap.size + 4 → QyAt ((((W.alloc (qyBox s q)).alloc (qyBox s q)).alloc (qyBox s q)).alloc (qyBox s q)).drew b s q := by
    intro b hb0 hb4
    have hdr : ∀ V : World, QyAt V b s q → QyAt V.drew b s q := fun V hV => hV
    apply hdr
    rcases (show b = W.heap.size ∨ b = W.heap.size + 1 ∨ b = W.heap.size + 2 ∨ b = W.heap.size + 3 by omega) with rfl | rfl | rfl | rfl
    · exact (((qy_at W s q).below (box_below _ _)).below (box_below _ _)).below (box_below _ _)
    · rw [← e1]; exact ((qy_at (W.alloc (qyBox s q)) s q).below (box_below _ _)).below (box_below _ _)
    · rw [← e2]; exact (qy_at ((W.alloc (qyBox s q)).alloc (qyBox s q)) s q).below (box_below _ _)
    · rw [← e3]; exact qy_at (((W.alloc (qyBox s q)).alloc (qyBox s q)).alloc (qyBox s q)) s q
  have hr := h.two.lt
  exact ⟨⟨rb4 h _ _ _ _, all _ h1.1 h1.2, all _ h2.1 h2.2, all _ h3.1 h3.2, all _ h4.1 h4.2⟩, by omega, by omega, by omega, by omega, hd⟩
theorem WinAt.far {w : World} {b b2 : Nat} {x : Wn} (h : WinAt w b x) (hb : b2 ≠ b) (j : Nat) (v : Value) : WinAt (w.setCell ⟨b2, j, none⟩ v) b x := by
  unfold WinAt at h ⊢
  show (w.heap.modify b2 _)[b]? = _
  rw [Array.getElem?_modify, if_neg hb]
  exact h
/-- Each copy with another part. -/
def placed (W : World) (xw : Wn) (vl vx : Value) (b1 b2 b3 b4 : Nat) : World :=
  ((((((W.setCell ⟨b1, 5, none⟩ (.int .u8 xw.kind)).setCell ⟨b1, 6, none⟩ (.int .i64 xw.size)).setCell ⟨b1, 7, none⟩ (.int .i64 xw.every)).setCell ⟨b2, 2, none⟩ vl).setCell ⟨b3, 4, none⟩ vx).setCell ⟨b4, 1, none⟩ vx).setCell ⟨b4, 0, none⟩ (.int .u8 4)
theorem q4_placed {w W : World} {s : Sl} {q : Qy} {xw : Wn} {b1 b2 b3 b4 : Nat} (h : Q4 w s q xw s q s q s q s q b1 b2 b3 b4 W) (ha : Apart4 w.heap.size b1 b2 b3 b4) (vl vx : Value) (l : List Int) (x : List Nd) :
    Q4 w s q xw s ⟨q.agg, q.arg, q.src, q.join, q.cond, xw, q.key, q.late⟩ ⟨s.arg, vl, s.cond⟩ ⟨q.agg, q.arg, l, q.join, q.cond, q.win, q.key, q.late⟩ ⟨s.arg, s.src, vx⟩ ⟨q.agg, q.arg, q.src, q.join, x, q.win, q.key, q.late⟩ ⟨vx, s.src, s.cond⟩ ⟨4, x, q.src, q.join, q.cond, q.win, q.key, q.late⟩ b1 b2 b3 b4 (placed W xw vl vx b1 b2 b3 b4) := by
  obtain ⟨p1, p2, p3, p4, d12, d13, d14, d23, d24, d34⟩ := ha
  have far : ∀ {b : Nat} {s : Sl} {q : Qy} {V : World}, QyAt V b s q → b1 ≠ b → QyAt (((V.setCell ⟨b1, 5, none⟩ (.int .u8 xw.kind)).setCell ⟨b1, 6, none⟩ (.int .i64 xw.size)).setCell ⟨b1, 7, none⟩ (.int .i64 xw.every)) b s q := fun h hb => ((h.far hb _ _).far hb _ _).far hb _ _
  refine ⟨⟨?_, ?_, ?_⟩, ?_, ?_, ?_, ?_⟩
  · exact ((((((h.rb.base.setCell (by show w.heap.size ≤ b1; omega) _).setCell (by show w.heap.size ≤ b1; omega) _).setCell (by show w.heap.size ≤ b1; omega) _).setCell (by show w.heap.size ≤ b2; omega) _).setCell (by show w.heap.size ≤ b3; omega) _).setCell (by show w.heap.size ≤ b4; omega) _).setCell (by show w.heap.size ≤ b4; omega) _
  · exact ((((far h.rb.one (by omega)).far (by omega) _ _).far (by omega) _ _).far (by omega) _ _).far (by omega) _ _
  · exact ((((((h.rb.two.far (by omega) _ _).far (by omega) _ _).far (by omega) _ _).far (by omega) _ _).far (by omega) _ _).far (by omega) _ _).far (by omega) _ _
  · exact (((((((h.a.set_wk xw.kind).set_ws xw.size).set_we xw.every).far (Ne.symm d12) _ _).far (Ne.symm d13) _ _).far (Ne.symm d14) _ _).far (Ne.symm d14) _ _ :)
  · have := ((((far h.b d12).set_src vl).far (Ne.symm d23) 4 vx).far (Ne.symm d24) 1 vx).far (Ne.symm d24) 0 (.int .u8 4)
    exact this
  · have := ((((far h.c d13).far d23 2 vl).set_cond vx).far (Ne.symm d34) 1 vx).far (Ne.symm d34) 0 (.int .u8 4)
    exact this
  · have := ((((far h.d d14).far d24 2 vl).far d34 4 vx).set_arg vx).set_agg 4
    exact this
set_option maxRecDepth 100000 in
set_option maxHeartbeats 16000000 in
theorem replace_walk (s : Sl) (q : Qy) (xw : Wn) (vl : Value) (l : List Int) (vx : Value) (x : List Nd) (w : World) (hf : NameFix w) (hR : ReadsQ w s q) (hL : ReadsI w vl l) (hX : ReadsN w vx x) (hnl : l.length ≤ 9223372036854775807) (hnx : x.length ≤ 9223372036854775807) :
    Calls Tryd.prog 6 #[qyVal s q, winVal xw, vl, vx] w fun e w' => e = .returned (.bool true) ∧ Below w.heap.size w w' := by
  have S0 := Lib.hid (rb_start w s q xw)
  have AL := Lib.hid (fun (W : World) (h : Below w.heap.size w W) => alive8_any W (hf.below h))
  have GR := Lib.hid (fun (W : World) (h : Below w.heap.size w W) => refGreat_any s q W (hR.below h))
  have RQ := Lib.hid hR
  have RL := Lib.hid hL
  have RX := Lib.hid hX
  have F := Lib.hid hf
  obtain ⟨sa, ss, sc⟩ := s
  have h1 : ReadsN w sa q.arg := hR.arg
  have h2 : ReadsI w ss q.src := hR.src
  have h3 : ReadsN w sc q.cond := hR.cond
  obtain ⟨ada, capa, rfl⟩ := h1.shape
  obtain ⟨ads, caps, rfl⟩ := h2.shape
  obtain ⟨adc, capc, rfl⟩ := h3.shape
  obtain ⟨al, cl, rfl⟩ := hL.shape
  obtain ⟨ax, cx, rfl⟩ := hX.shape
  have G4 := Lib.hid (fun (W : World) (h : Below w.heap.size w W) => by_same (great_any (.slice ax x.length cx) x W (RX.out.below h)))
  unfold qyBox winBox at S0
  unfold qyVal qyRow at GR ⊢
  unfold winVal
  dsimp only at GR S0 ⊢
  clear hR hf hL hX h1 h2 h3
  cases hg : greatQ q
  case true =>
    rw [hg] at GR
    clear hg
    go_enter Tryd.func6, Tryd.ntmps6
    obtain ⟨c0, c1, c2, c3, c4, c5, c6, c7, c8, c9⟩ := S0.out.one.cells
    dsimp only at c1 c2 c4
    go_wp2_with fail
    refine (GR.out _ S0.out.base).mono ?_
    rintro e w1 ⟨rfl, hb⟩
    clear c0 c1 c2 c3 c4 c5 c6 c7 c8 c9
    have S1 := Lib.hid (S0.out.below hb)
    obtain ⟨c0, c1, c2, c3, c4, c5, c6, c7, c8, c9⟩ := S1.out.one.cells
    dsimp only at c1 c2 c4
    clear hb
    go_wp2_with fail
    refine (AL.out _ S1.out.base).mono ?_
    rintro e w2 ⟨rfl, hb⟩
    clear c0 c1 c2 c3 c4 c5 c6 c7 c8 c9
    have S2 := Lib.hid (S1.out.below hb)
    clear hb
    go_wp2_with fail
    go_ret
    exact ⟨rfl, S2.out.base⟩
  rw [hg] at GR
  obtain ⟨n1, n2, n3⟩ := great_small hg
  clear hg
  by_cases hj : q.join = true
  case pos =>
    rw [hj] at GR S0 ⊢
    clear n1 n2 n3
    go_enter Tryd.func6, Tryd.ntmps6
    obtain ⟨c0, c1, c2, c3, c4, c5, c6, c7, c8, c9⟩ := S0.out.one.cells
    dsimp only at c1 c2 c4
    go_wp2_with fail
    refine (GR.out _ S0.out.base).mono ?_
    rintro e w1 ⟨rfl, hb⟩
    clear c0 c1 c2 c3 c4 c5 c6 c7 c8 c9
    have S1 := Lib.hid (S0.out.below hb)
    obtain ⟨c0, c1, c2, c3, c4, c5, c6, c7, c8, c9⟩ := S1.out.one.cells
    dsimp only at c1 c2 c4
    clear hb
    go_wp2_with fail
    refine (AL.out _ S1.out.base).mono ?_
    rintro e w2 ⟨rfl, hb⟩
    clear c0 c1 c2 c3 c4 c5 c6 c7 c8 c9
    have S2 := Lib.hid (S1.out.below hb)
    clear hb
    go_wp2_with fail
    go_ret
    exact ⟨rfl, S2.out.base⟩
  replace hj : q.join = false := by cases hq : q.join; rfl; exact absurd hq hj
  rw [hj] at GR S0 ⊢
  have KQ := Lib.hid (fun (W : World) (h : Below w.heap.size w W) => refCheckQ_any ⟨.slice ada q.arg.length capa, .slice ads q.src.length caps, .slice adc q.cond.length capc⟩ q W (RQ.out.below h) (by omega) (by omega) (by omega))
  unfold qyVal qyRow at KQ
  dsimp only at KQ
  rw [hj] at KQ
  by_cases hq : checkQ q = 0
  case neg =>
    obtain ⟨e0, he⟩ : ∃ e, checkQ q = e := ⟨_, rfl⟩
    rw [he] at KQ hq
    have qz : (e0 != 0) = true := by rw [bne_iff_ne]; exact hq
    clear he hq n1 n2 n3
    go_enter Tryd.func6, Tryd.ntmps6
    obtain ⟨c0, c1, c2, c3, c4, c5, c6, c7, c8, c9⟩ := S0.out.one.cells
    dsimp only at c1 c2 c4
    go_wp2_with fail
    refine (GR.out _ S0.out.base).mono ?_
    rintro e w1 ⟨rfl, hb⟩
    clear c0 c1 c2 c3 c4 c5 c6 c7 c8 c9
    have S1 := Lib.hid (S0.out.below hb)
    obtain ⟨c0, c1, c2, c3, c4, c5, c6, c7, c8, c9⟩ := S1.out.one.cells
    dsimp only at c1 c2 c4
    clear hb
    go_wp2_with fail
    refine (KQ.out _ S1.out.base).mono ?_
    rintro e w2 ⟨rfl, hb⟩
    clear c0 c1 c2 c3 c4 c5 c6 c7 c8 c9
    have S2 := Lib.hid (S1.out.below hb)
    obtain ⟨c0, c1, c2, c3, c4, c5, c6, c7, c8, c9⟩ := S2.out.one.cells
    dsimp only at c1 c2 c4
    clear hb
    go_wp2_with fail
    refine (AL.out _ S2.out.base).mono ?_
    rintro e w3 ⟨rfl, hb⟩
    clear c0 c1 c2 c3 c4 c5 c6 c7 c8 c9
    have S3 := Lib.hid (S2.out.below hb)
    clear hb
    go_wp2_with fail
    go_ret
    exact ⟨rfl, S3.out.base⟩
  rw [hq] at KQ
  by_cases h10 : 10 < l.length
  case pos =>
    have hd : decide ((10 : Int) < l.length) = true := decide_eq_true (by omega)
    have hd2 : (10 : Int) < l.length := by omega
    clear hq n1 n2 n3 h10
    go_enter Tryd.func6, Tryd.ntmps6
    obtain ⟨c0, c1, c2, c3, c4, c5, c6, c7, c8, c9⟩ := S0.out.one.cells
    dsimp only at c1 c2 c4
    go_wp2_with fail
    refine (GR.out _ S0.out.base).mono ?_
    rintro e w1 ⟨rfl, hb⟩
    clear c0 c1 c2 c3 c4 c5 c6 c7 c8 c9
    have S1 := Lib.hid (S0.out.below hb)
    obtain ⟨c0, c1, c2, c3, c4, c5, c6, c7, c8, c9⟩ := S1.out.one.cells
    dsimp only at c1 c2 c4
    clear hb
    go_wp2_with fail
    refine (KQ.out _ S1.out.base).mono ?_
    rintro e w2 ⟨rfl, hb⟩
    clear c0 c1 c2 c3 c4 c5 c6 c7 c8 c9
    have S2 := Lib.hid (S1.out.below hb)
    obtain ⟨c0, c1, c2, c3, c4, c5, c6, c7, c8, c9⟩ := S2.out.one.cells
    dsimp only at c1 c2 c4
    clear hb
    go_wp2_with fail
    refine (AL.out _ S2.out.base).mono ?_
    rintro e w3 ⟨rfl, hb⟩
    clear c0 c1 c2 c3 c4 c5 c6 c7 c8 c9
    have S3 := Lib.hid (S2.out.below hb)
    clear hb
    go_wp2_with fail
    go_ret
    exact ⟨rfl, S3.out.base⟩
  have hd : decide ((10 : Int) < l.length) = false := decide_eq_false (by omega)
  have hd2 : ¬ (10 : Int) < l.length := by omega
  by_cases h70 : 70 < x.length
  case pos =>
    rw [decide_eq_true h70] at G4
    clear hq n1 n2 n3 h10 h70
    go_enter Tryd.func6, Tryd.ntmps6
    obtain ⟨c0, c1, c2, c3, c4, c5, c6, c7, c8, c9⟩ := S0.out.one.cells
    dsimp only at c1 c2 c4
    go_wp2_with fail
    refine (GR.out _ S0.out.base).mono ?_
    rintro e w1 ⟨rfl, hb⟩
    clear c0 c1 c2 c3 c4 c5 c6 c7 c8 c9
    have S1 := Lib.hid (S0.out.below hb)
    obtain ⟨c0, c1, c2, c3, c4, c5, c6, c7, c8, c9⟩ := S1.out.one.cells
    dsimp only at c1 c2 c4
    clear hb
    go_wp2_with fail
    refine (KQ.out _ S1.out.base).mono ?_
    rintro e w2 ⟨rfl, hb⟩
    clear c0 c1 c2 c3 c4 c5 c6 c7 c8 c9
    have S2 := Lib.hid (S1.out.below hb)
    obtain ⟨c0, c1, c2, c3, c4, c5, c6, c7, c8, c9⟩ := S2.out.one.cells
    dsimp only at c1 c2 c4
    clear hb
    go_wp2_with fail
    refine (G4.out _ S2.out.base).mono ?_
    rintro e w3 ⟨rfl, hb⟩
    clear c0 c1 c2 c3 c4 c5 c6 c7 c8 c9
    have S3 := Lib.hid (S2.out.below hb)
    obtain ⟨c0, c1, c2, c3, c4, c5, c6, c7, c8, c9⟩ := S3.out.one.cells
    dsimp only at c1 c2 c4
    clear hb
    go_wp2_with fail
    refine (AL.out _ S3.out.base).mono ?_
    rintro e w4 ⟨rfl, hb⟩
    clear c0 c1 c2 c3 c4 c5 c6 c7 c8 c9
    have S4 := Lib.hid (S3.out.below hb)
    clear hb
    go_wp2_with fail
    go_ret
    exact ⟨rfl, S4.out.base⟩
  rw [decide_eq_false h70] at G4
  have CK := Lib.hid (fun (W : World) (h : Below w.heap.size w W) => clCheck_any ⟨.slice ada q.arg.length capa, .slice ads q.src.length caps, .slice adc q.cond.length capc⟩ q W (F.out.below h) (RQ.out.below h) (by omega) (by omega) (by omega))
  have NK := Lib.hid (fun (W : World) (h : Below w.heap.size w W) => nodesCheck_any (.slice ax x.length cx) x W (RX.out.below h) (by omega))
  have WW := Lib.hid (fun (W : World) => clWindow_any xw W)
  have LL := Lib.hid (fun (W : World) (h : Below w.heap.size w W) => clSources_any (.slice al l.length cl) l false W (F.out.below h) (RL.out.below h) (by omega))
  have CA := Lib.hid (fun (W : World) (h : Below w.heap.size w W) => clCheck_any ⟨.slice ada q.arg.length capa, .slice ads q.src.length caps, .slice adc q.cond.length capc⟩ ⟨q.agg, q.arg, q.src, q.join, q.cond, xw, q.key, q.late⟩ W (F.out.below h) ⟨(RQ.out.below h).arg, (RQ.out.below h).src, (RQ.out.below h).cond⟩ (by dsimp only; omega) (by dsimp only; omega) (by dsimp only; omega))
  have CB := Lib.hid (fun (W : World) (h : Below w.heap.size w W) => clCheck_any ⟨.slice ada q.arg.length capa, .slice al l.length cl, .slice adc q.cond.length capc⟩ ⟨q.agg, q.arg, l, q.join, q.cond, q.win, q.key, q.late⟩ W (F.out.below h) ⟨(RQ.out.below h).arg, RL.out.below h, (RQ.out.below h).cond⟩ (by dsimp only; omega) (by dsimp only; omega) (by dsimp only; omega))
  have CC := Lib.hid (fun (W : World) (h : Below w.heap.size w W) => clCheck_any ⟨.slice ada q.arg.length capa, .slice ads q.src.length caps, .slice ax x.length cx⟩ ⟨q.agg, q.arg, q.src, q.join, x, q.win, q.key, q.late⟩ W (F.out.below h) ⟨(RQ.out.below h).arg, (RQ.out.below h).src, RX.out.below h⟩ (by dsimp only; omega) (by dsimp only; omega) (by dsimp only; omega))
  have CD := Lib.hid (fun (W : World) (h : Below w.heap.size w W) => clCheck_any ⟨.slice ax x.length cx, .slice ads q.src.length caps, .slice adc q.cond.length capc⟩ ⟨4, x, q.src, q.join, q.cond, q.win, q.key, q.late⟩ W (F.out.below h) ⟨RX.out.below h, (RQ.out.below h).src, (RQ.out.below h).cond⟩ (by dsimp only; omega) (by dsimp only; omega) (by dsimp only; omega))
  rw [hq] at CK
  rw [place_win hq hj] at CA
  rw [place_src hq hj] at CB
  rw [place_cond hq] at CC
  rw [place_arg hq] at CD
  have hcx : condV x = if x.length = 0 then 0 else checkV x := rfl
  obtain ⟨ew, hew⟩ : ∃ e, windowV xw = e := ⟨_, rfl⟩
  obtain ⟨es, hes⟩ : ∃ e, sourcesV l false = e := ⟨_, rfl⟩
  obtain ⟨ex, hex⟩ : ∃ e, checkV x = e := ⟨_, rfl⟩
  obtain ⟨ec, hec⟩ : ∃ e, condV x = e := ⟨_, rfl⟩
  rw [hew] at CA WW
  rw [hes] at CB LL
  rw [hex] at CD NK hcx
  rw [hec] at CC hcx
  unfold qyVal qyRow at CK CA CB CC CD
  unfold winVal at WW
  dsimp only at CK CA CB CC CD
  rw [hj] at CK CA CB CC CD
  clear hew hes hex hec hq n1 n2 n3 h10 h70 hnl hnx
  go_enter Tryd.func6, Tryd.ntmps6
  obtain ⟨c0, c1, c2, c3, c4, c5, c6, c7, c8, c9⟩ := S0.out.one.cells
  dsimp only at c1 c2 c4
  go_wp2_with fail
  refine (GR.out _ S0.out.base).mono ?_
  rintro e w1 ⟨rfl, hb⟩
  clear c0 c1 c2 c3 c4 c5 c6 c7 c8 c9
  have S1 := Lib.hid (S0.out.below hb)
  obtain ⟨c0, c1, c2, c3, c4, c5, c6, c7, c8, c9⟩ := S1.out.one.cells
  dsimp only at c1 c2 c4
  clear hb
  go_wp2_with fail
  refine (KQ.out _ S1.out.base).mono ?_
  rintro e w2 ⟨rfl, hb⟩
  clear c0 c1 c2 c3 c4 c5 c6 c7 c8 c9
  have S2 := Lib.hid (S1.out.below hb)
  obtain ⟨c0, c1, c2, c3, c4, c5, c6, c7, c8, c9⟩ := S2.out.one.cells
  dsimp only at c1 c2 c4
  clear hb
  go_wp2_with fail
  refine (G4.out _ S2.out.base).mono ?_
  rintro e w3 ⟨rfl, hb⟩
  clear c0 c1 c2 c3 c4 c5 c6 c7 c8 c9
  have S3 := Lib.hid (S2.out.below hb)
  obtain ⟨c0, c1, c2, c3, c4, c5, c6, c7, c8, c9⟩ := S3.out.one.cells
  dsimp only at c1 c2 c4
  clear hb
  go_wp2_with fail
  refine (CK.out _ S3.out.base).mono ?_
  rintro e w4 ⟨rfl, hb⟩
  clear c0 c1 c2 c3 c4 c5 c6 c7 c8 c9
  have S4 := Lib.hid (S3.out.below hb)
  clear hb
  go_upto_region 5 with fail
  go_cut [9, 10, 11, 12] from 38 (fun s9 s10 s11 s12 wx => ∃ b1 b2 b3 b4 : Nat, s9 = .pointer (some ⟨b1, 0, none⟩) ∧ s10 = .pointer (some ⟨b2, 0, none⟩) ∧ s11 = .pointer (some ⟨b3, 0, none⟩) ∧ s12 = .pointer (some ⟨b4, 0, none⟩) ∧ Hid (Q4 w ⟨.slice ada q.arg.length capa, .slice ads q.src.length caps, .slice adc q.cond.length capc⟩ q xw ⟨.slice ada q.arg.length capa, .slice ads q.src.length caps, .slice adc q.cond.length capc⟩ q ⟨.slice ada q.arg.length capa, .slice ads q.src.length caps, .slice adc q.cond.length capc⟩ q ⟨.slice ada q.arg.length capa, .slice ads q.src.length caps, .slice adc q.cond.length capc⟩ q ⟨.slice ada q.arg.length capa, .slice ads q.src.length caps, .slice adc q.cond.length capc⟩ q b1 b2 b3 b4 wx ∧ Apart4 w.heap.size b1 b2 b3 b4))
  case first =>
    have QL : Hid (∀ b1 b2 b3 b4 : Nat, (w4.heap.size ≤ b1 ∧ b1 < w4.heap.size + 4) → (w4.heap.size ≤ b2 ∧ b2 < w4.heap.size + 4) → (w4.heap.size ≤ b3 ∧ b3 < w4.heap.size + 4) → (w4.heap.size ≤ b4 ∧ b4 < w4.heap.size + 4) → (b1 ≠ b2 ∧ b1 ≠ b3 ∧ b1 ≠ b4 ∧ b2 ≠ b3 ∧ b2 ≠ b4 ∧ b3 ≠ b4) → Q4 w ⟨.slice ada q.arg.length capa, .slice ads q.src.length caps, .slice adc q.cond.length capc⟩ q xw ⟨.slice ada q.arg.length capa, .slice ads q.src.length caps, .slice adc q.cond.length capc⟩ q ⟨.slice ada q.arg.length capa, .slice ads q.src.length caps, .slice adc q.cond.length capc⟩ q ⟨.slice ada q.arg.length capa, .slice ads q.src.length caps, .slice adc q.cond.length capc⟩ q ⟨.slice ada q.arg.length capa, .slice ads q.src.length caps, .slice adc q.cond.length capc⟩ q b1 b2 b3 b4 ((((w4.alloc (.cells #[.int .u8 q.agg, .slice ada q.arg.length capa, .slice ads q.src.length caps, .bool false, .slice adc q.cond.length capc, .int .u8 q.win.kind, .int .i64 q.win.size, .int .i64 q.win.every, .bool q.key, .int .u8 q.late] 32)).alloc (.cells #[.int .u8 q.agg, .slice ada q.arg.length capa, .slice ads q.src.length caps, .bool false, .slice adc q.cond.length capc, .int .u8 q.win.kind, .int .i64 q.win.size, .int .i64 q.win.every, .bool q.key, .int .u8 q.late] 32)).alloc (.cells #[.int .u8 q.agg, .slice ada q.arg.length capa, .slice ads q.src.length caps, .bool false, .slice adc q.cond.length capc, .int .u8 q.win.kind, .int .i64 q.win.size, .int .i64 q.win.every, .bool q.key, .int .u8 q.late] 32)).alloc (.cells #[.int .u8 q.agg, .slice ada q.arg.length capa, .slice ads q.src.length caps, .bool false, .slice adc q.cond.length capc, .int .u8 q.win.kind, .int .i64 q.win.size, .int .i64 q.win.every, .bool q.key, .int .u8 q.late] 32)).drew ∧ Apart4 w.heap.size b1 b2 b3 b4) := Lib.hid (by intro b1 b2 b3 b4 h1 h2 h3 h4 hd; have := q4_of S4.out h1 h2 h3 h4 hd; unfold qyBox at this; dsimp only at this; rw [hj] at this; exact this)
    have R4 := Lib.hid (fun o1 o2 o3 o4 => rb4 S4.out o1 o2 o3 o4)
    refine wp_region_noPanic ?_
    refine wp_region_held_drew (S := RB w ⟨.slice ada q.arg.length capa, .slice ads q.src.length caps, .slice adc q.cond.length capc⟩ q xw) (by kernel_rfl) ?hS (fun hHeld => ?hR)
    case hS => exact S4.out.below (Below.drew (Below.refl _ _))
    case hR =>
    refine wpAnyH_take (i := 0) (v := (.agg #[.int .u8 q.agg, .slice ada q.arg.length capa, .slice ads q.src.length caps, .bool false, .slice adc q.cond.length capc, .int .u8 q.win.kind, .int .i64 q.win.size, .int .i64 q.win.every, .bool q.key, .int .u8 q.late])) (lit_get rfl) (by kernel_rfl) (by kernel_rfl) (by kernel_rfl) (fun _ _ _ h => h) (Or.inl ⟨by rfl, ?h0⟩) hHeld ?r0
    case h0 =>
      intro W hSw
      obtain ⟨c0, c1, c2, c3, c4, c5, c6, c7, c8, c9⟩ := hSw.one.cells
      dsimp only at c1 c2 c4
      go_simp
      try with_reducible rfl
    case r0 =>
    try simp only [Act.put, List.setIfInBounds_toArray, List.set_cons_zero, List.set_cons_succ]
    refine wpAnyH_take (i := 1) (v := (.agg #[.int .u8 q.agg, .slice ada q.arg.length capa, .slice ads q.src.length caps, .bool false, .slice adc q.cond.length capc, .int .u8 q.win.kind, .int .i64 q.win.size, .int .i64 q.win.every, .bool q.key, .int .u8 q.late])) (lit_get rfl) (by kernel_rfl) (by kernel_rfl) (by kernel_rfl) (fun _ _ _ h => h) (Or.inl ⟨by rfl, ?h1⟩) hHeld ?r1
    case h1 =>
      intro W hSw
      obtain ⟨c0, c1, c2, c3, c4, c5, c6, c7, c8, c9⟩ := hSw.one.cells
      dsimp only at c1 c2 c4
      go_simp
      try with_reducible rfl
    case r1 =>
    try simp only [Act.put, List.setIfInBounds_toArray, List.set_cons_zero, List.set_cons_succ]
    refine wpAnyH_take (i := 2) (v := (.agg #[.int .u8 q.agg, .slice ada q.arg.length capa, .slice ads q.src.length caps, .bool false, .slice adc q.cond.length capc, .int .u8 q.win.kind, .int .i64 q.win.size, .int .i64 q.win.every, .bool q.key, .int .u8 q.late])) (lit_get rfl) (by kernel_rfl) (by kernel_rfl) (by kernel_rfl) (fun _ _ _ h => h) (Or.inl ⟨by rfl, ?h2⟩) hHeld ?r2
    case h2 =>
      intro W hSw
      obtain ⟨c0, c1, c2, c3, c4, c5, c6, c7, c8, c9⟩ := hSw.one.cells
      dsimp only at c1 c2 c4
      go_simp
      try with_reducible rfl
    case r2 =>
    try simp only [Act.put, List.setIfInBounds_toArray, List.set_cons_zero, List.set_cons_succ]
    refine wpAnyH_take (i := 3) (v := (.agg #[.int .u8 q.agg, .slice ada q.arg.length capa, .slice ads q.src.length caps, .bool false, .slice adc q.cond.length capc, .int .u8 q.win.kind, .int .i64 q.win.size, .int .i64 q.win.every, .bool q.key, .int .u8 q.late])) (lit_get rfl) (by kernel_rfl) (by kernel_rfl) (by kernel_rfl) (fun _ _ _ h => h) (Or.inl ⟨by rfl, ?h3⟩) hHeld ?r3
    case h3 =>
      intro W hSw
      obtain ⟨c0, c1, c2, c3, c4, c5, c6, c7, c8, c9⟩ := hSw.one.cells
      dsimp only at c1 c2 c4
      go_simp
      try with_reducible rfl
    case r3 =>
    try simp only [Act.put, List.setIfInBounds_toArray, List.set_cons_zero, List.set_cons_succ]
    refine wpAnyH_ready (rs := [4, 5, 6, 7]) (by kernel_rfl) (by simp) ?_
    refine AllReadyH.cons (lit_get rfl) (fun K hK => ?k4) (AllReadyH.cons (lit_get rfl) (fun K hK => ?k3) (AllReadyH.cons (lit_get rfl) (fun K hK => ?k2) (AllReadyH.cons (lit_get rfl) (fun K hK => ?k1) AllReadyH.nil)))
    case k4 =>
     go_simp
     refine hK.out _ _ ?s4 (fun hHeldN => ?n4)
     case s4 => exact hHeld.below (box_below _ _)
     case n4 =>
     clear hK K hHeld
     have hHeld := hHeldN
     clear hHeldN
     try simp only [Act.put, List.setIfInBounds_toArray, List.set_cons_zero, List.set_cons_succ]
     refine wpAnyH_ready (rs := [5, 6, 7]) (by kernel_rfl) (by simp) ?_
     refine AllReadyH.cons (lit_get rfl) (fun K hK => ?k7) (AllReadyH.cons (lit_get rfl) (fun K hK => ?k6) (AllReadyH.cons (lit_get rfl) (fun K hK => ?k5) AllReadyH.nil))
     case k7 =>
      go_simp
      refine hK.out _ _ ?s7 (fun hHeldN => ?n7)
      case s7 => exact hHeld.below (box_below _ _)
      case n7 =>
      clear hK K hHeld
      have hHeld := hHeldN
      clear hHeldN
      try simp only [Act.put, List.setIfInBounds_toArray, List.set_cons_zero, List.set_cons_succ]
      refine wpAnyH_ready (rs := [6, 7]) (by kernel_rfl) (by simp) ?_
      refine AllReadyH.cons (lit_get rfl) (fun K hK => ?k9) (AllReadyH.cons (lit_get rfl) (fun K hK => ?k8) AllReadyH.nil)
      case k9 =>
       go_simp
       refine hK.out _ _ ?s9 (fun hHeldN => ?n9)
       case s9 => exact hHeld.below (box_below _ _)
       case n9 =>
       clear hK K hHeld
       have hHeld := hHeldN
       clear hHeldN
       try simp only [Act.put, List.setIfInBounds_toArray, List.set_cons_zero, List.set_cons_succ]
       refine wpAnyH_ready (rs := [7]) (by kernel_rfl) (by simp) ?_
       refine AllReadyH.cons (lit_get rfl) (fun K hK => ?k10) AllReadyH.nil
       case k10 =>
        go_simp
        refine hK.out _ _ ?s10 (fun hHeldN => ?n10)
        case s10 => exact hHeld.below (box_below _ _)
        case n10 =>
        clear hK K hHeld
        have hHeld := hHeldN
        clear hHeldN
        try simp only [Act.put, List.setIfInBounds_toArray, List.set_cons_zero, List.set_cons_succ]
        refine wpAnyH_ready (rs := [8]) (by kernel_rfl) (by simp) ?_
        refine AllReadyH.cons (lit_get rfl) (fun K hK => ?_) AllReadyH.nil
        go_simp
        refine hK.out _ _ ?s11 (fun hHeldN => ?n11)
        case s11 => exact R4.out _ _ _ _
        case n11 =>
        clear hK K hHeld
        have hHeld := hHeldN
        clear hHeldN
        try simp only [Act.put, List.setIfInBounds_toArray, List.set_cons_zero, List.set_cons_succ]
        refine wpAnyH_ready (rs := [9]) (by kernel_rfl) (by simp) ?_
        refine AllReadyH.cons (lit_get rfl) (fun K hK => ?_) AllReadyH.nil
        go_simp
        refine hK.out _ _ ?s12 (fun hHeldN => ?n12)
        case s12 => exact R4.out _ _ _ _
        case n12 =>
        clear hK K hHeld
        have hHeld := hHeldN
        clear hHeldN
        try simp only [Act.put, List.setIfInBounds_toArray, List.set_cons_zero, List.set_cons_succ]
        refine wpAnyH_ready (rs := [10]) (by kernel_rfl) (by simp) ?_
        refine AllReadyH.cons (lit_get rfl) (fun K hK => ?_) AllReadyH.nil
        go_simp
        refine hK.out _ _ ?s13 (fun hHeldN => ?n13)
        case s13 => exact R4.out _ _ _ _
        case n13 =>
        clear hK K hHeld
        have hHeld := hHeldN
        clear hHeldN
        try simp only [Act.put, List.setIfInBounds_toArray, List.set_cons_zero, List.set_cons_succ]
        refine wpAnyH_ready (rs := [11]) (by kernel_rfl) (by simp) ?_
        refine AllReadyH.cons (lit_get rfl) (fun K hK => ?_) AllReadyH.nil
        go_simp
        refine hK.out _ _ ?s14 (fun hHeldN => ?n14)
        case s14 => exact R4.out _ _ _ _
        case n14 =>
        clear hK K hHeld
        have hHeld := hHeldN
        clear hHeldN
        try simp only [Act.put, List.setIfInBounds_toArray, List.set_cons_zero, List.set_cons_succ]
        refine wpAnyH_done (by kernel_rfl) ?_ _
        refine NoPanic.normal ?_
        go_wp2_with fail
        go_meet
        case rel => exact ⟨_, _, _, _, rfl, rfl, rfl, rfl, Lib.hid (QL.out _ _ _ _ (by omega) (by omega) (by omega) (by omega) (by omega))⟩
      case k8 =>
       go_simp
       refine hK.out _ _ ?s8 (fun hHeldN => ?n8)
       case s8 => exact hHeld.below (box_below _ _)
       case n8 =>
       clear hK K hHeld
       have hHeld := hHeldN
       clear hHeldN
       try simp only [Act.put, List.setIfInBounds_toArray, List.set_cons_zero, List.set_cons_succ]
       refine wpAnyH_ready (rs := [6]) (by kernel_rfl) (by simp) ?_
       refine AllReadyH.cons (lit_get rfl) (fun K hK => ?k15) AllReadyH.nil
       case k15 =>
        go_simp
        refine hK.out _ _ ?s15 (fun hHeldN => ?n15)
        case s15 => exact hHeld.below (box_below _ _)
        case n15 =>
        clear hK K hHeld
        have hHeld := hHeldN
        clear hHeldN
        try simp only [Act.put, List.setIfInBounds_toArray, List.set_cons_zero, List.set_cons_succ]
        refine wpAnyH_ready (rs := [8]) (by kernel_rfl) (by simp) ?_
        refine AllReadyH.cons (lit_get rfl) (fun K hK => ?_) AllReadyH.nil
        go_simp
        refine hK.out _ _ ?s16 (fun hHeldN => ?n16)
        case s16 => exact R4.out _ _ _ _
        case n16 =>
        clear hK K hHeld
        have hHeld := hHeldN
        clear hHeldN
        try simp only [Act.put, List.setIfInBounds_toArray, List.set_cons_zero, List.set_cons_succ]
        refine wpAnyH_ready (rs := [9]) (by kernel_rfl) (by simp) ?_
        refine AllReadyH.cons (lit_get rfl) (fun K hK => ?_) AllReadyH.nil
        go_simp
        refine hK.out _ _ ?s17 (fun hHeldN => ?n17)
        case s17 => exact R4.out _ _ _ _
        case n17 =>
        clear hK K hHeld
        have hHeld := hHeldN
        clear hHeldN
        try simp only [Act.put, List.setIfInBounds_toArray, List.set_cons_zero, List.set_cons_succ]
        refine wpAnyH_ready (rs := [10]) (by kernel_rfl) (by simp) ?_
        refine AllReadyH.cons (lit_get rfl) (fun K hK => ?_) AllReadyH.nil
        go_simp
        refine hK.out _ _ ?s18 (fun hHeldN => ?n18)
        case s18 => exact R4.out _ _ _ _
        case n18 =>
        clear hK K hHeld
        have hHeld := hHeldN
        clear hHeldN
        try simp only [Act.put, List.setIfInBounds_toArray, List.set_cons_zero, List.set_cons_succ]
        refine wpAnyH_ready (rs := [11]) (by kernel_rfl) (by simp) ?_
        refine AllReadyH.cons (lit_get rfl) (fun K hK => ?_) AllReadyH.nil
        go_simp
        refine hK.out _ _ ?s19 (fun hHeldN => ?n19)
        case s19 => exact R4.out _ _ _ _
        case n19 =>
        clear hK K hHeld
        have hHeld := hHeldN
        clear hHeldN
        try simp only [Act.put, List.setIfInBounds_toArray, List.set_cons_zero, List.set_cons_succ]
        refine wpAnyH_done (by kernel_rfl) ?_ _
        refine NoPanic.normal ?_
        go_wp2_with fail
        go_meet
        case rel => exact ⟨_, _, _, _, rfl, rfl, rfl, rfl, Lib.hid (QL.out _ _ _ _ (by omega) (by omega) (by omega) (by omega) (by omega))⟩
     case k6 =>
      go_simp
      refine hK.out _ _ ?s6 (fun hHeldN => ?n6)
      case s6 => exact hHeld.below (box_below _ _)
      case n6 =>
      clear hK K hHeld
      have hHeld := hHeldN
      clear hHeldN
      try simp only [Act.put, List.setIfInBounds_toArray, List.set_cons_zero, List.set_cons_succ]
      refine wpAnyH_ready (rs := [5, 7]) (by kernel_rfl) (by simp) ?_
      refine AllReadyH.cons (lit_get rfl) (fun K hK => ?k21) (AllReadyH.cons (lit_get rfl) (fun K hK => ?k20) AllReadyH.nil)
      case k21 =>
       go_simp
       refine hK.out _ _ ?s21 (fun hHeldN => ?n21)
       case s21 => exact hHeld.below (box_below _ _)
       case n21 =>
       clear hK K hHeld
       have hHeld := hHeldN
       clear hHeldN
       try simp only [Act.put, List.setIfInBounds_toArray, List.set_cons_zero, List.set_cons_succ]
       refine wpAnyH_ready (rs := [7]) (by kernel_rfl) (by simp) ?_
       refine AllReadyH.cons (lit_get rfl) (fun K hK => ?k22) AllReadyH.nil
       case k22 =>
        go_simp
        refine hK.out _ _ ?s22 (fun hHeldN => ?n22)
        case s22 => exact hHeld.below (box_below _ _)
        case n22 =>
        clear hK K hHeld
        have hHeld := hHeldN
        clear hHeldN
        try simp only [Act.put, List.setIfInBounds_toArray, List.set_cons_zero, List.set_cons_succ]
        refine wpAnyH_ready (rs := [8]) (by kernel_rfl) (by simp) ?_
        refine AllReadyH.cons (lit_get rfl) (fun K hK => ?_) AllReadyH.nil
        go_simp
        refine hK.out _ _ ?s23 (fun hHeldN => ?n23)
        case s23 => exact R4.out _ _ _ _
        case n23 =>
        clear hK K hHeld
        have hHeld := hHeldN
        clear hHeldN
        try simp only [Act.put, List.setIfInBounds_toArray, List.set_cons_zero, List.set_cons_succ]
        refine wpAnyH_ready (rs := [9]) (by kernel_rfl) (by simp) ?_
        refine AllReadyH.cons (lit_get rfl) (fun K hK => ?_) AllReadyH.nil
        go_simp
        refine hK.out _ _ ?s24 (fun hHeldN => ?n24)
        case s24 => exact R4.out _ _ _ _
        case n24 =>
        clear hK K hHeld
        have hHeld := hHeldN
        clear hHeldN
        try simp only [Act.put, List.setIfInBounds_toArray, List.set_cons_zero, List.set_cons_succ]
        refine wpAnyH_ready (rs := [10]) (by kernel_rfl) (by simp) ?_
        refine AllReadyH.cons (lit_get rfl) (fun K hK => ?_) AllReadyH.nil
        go_simp
        refine hK.out _ _ ?s25 (fun hHeldN => ?n25)
        case s25 => exact R4.out _ _ _ _
        case n25 =>
        clear hK K hHeld
        have hHeld := hHeldN
        clear hHeldN
        try simp only [Act.put, List.setIfInBounds_toArray, List.set_cons_zero, List.set_cons_succ]
        refine wpAnyH_ready (rs := [11]) (by kernel_rfl) (by simp) ?_
        refine AllReadyH.cons (lit_get rfl) (fun K hK => ?_) AllReadyH.nil
        go_simp
        refine hK.out _ _ ?s26 (fun hHeldN => ?n26)
        case s26 => exact R4.out _ _ _ _
        case n26 =>
        clear hK K hHeld
        have hHeld := hHeldN
        clear hHeldN
        try simp only [Act.put, List.setIfInBounds_toArray, List.set_cons_zero, List.set_cons_succ]
        refine wpAnyH_done (by kernel_rfl) ?_ _
        refine NoPanic.normal ?_
        go_wp2_with fail
        go_meet
        case rel => exact ⟨_, _, _, _, rfl, rfl, rfl, rfl, Lib.hid (QL.out _ _ _ _ (by omega) (by omega) (by omega) (by omega) (by omega))⟩
      case k20 =>
       go_simp
       refine hK.out _ _ ?s20 (fun hHeldN => ?n20)
       case s20 => exact hHeld.below (box_below _ _)
       case n20 =>
       clear hK K hHeld
       have hHeld := hHeldN
       clear hHeldN
       try simp only [Act.put, List.setIfInBounds_toArray, List.set_cons_zero, List.set_cons_succ]
       refine wpAnyH_ready (rs := [5]) (by kernel_rfl) (by simp) ?_
       refine AllReadyH.cons (lit_get rfl) (fun K hK => ?k27) AllReadyH.nil
       case k27 =>
        go_simp
        refine hK.out _ _ ?s27 (fun hHeldN => ?n27)
        case s27 => exact hHeld.below (box_below _ _)
        case n27 =>
        clear hK K hHeld
        have hHeld := hHeldN
        clear hHeldN
        try simp only [Act.put, List.setIfInBounds_toArray, List.set_cons_zero, List.set_cons_succ]
        refine wpAnyH_ready (rs := [8]) (by kernel_rfl) (by simp) ?_
        refine AllReadyH.cons (lit_get rfl) (fun K hK => ?_) AllReadyH.nil
        go_simp
        refine hK.out _ _ ?s28 (fun hHeldN => ?n28)
        case s28 => exact R4.out _ _ _ _
        case n28 =>
        clear hK K hHeld
        have hHeld := hHeldN
        clear hHeldN
        try simp only [Act.put, List.setIfInBounds_toArray, List.set_cons_zero, List.set_cons_succ]
        refine wpAnyH_ready (rs := [9]) (by kernel_rfl) (by simp) ?_
        refine AllReadyH.cons (lit_get rfl) (fun K hK => ?_) AllReadyH.nil
        go_simp
        refine hK.out _ _ ?s29 (fun hHeldN => ?n29)
        case s29 => exact R4.out _ _ _ _
        case n29 =>
        clear hK K hHeld
        have hHeld := hHeldN
        clear hHeldN
        try simp only [Act.put, List.setIfInBounds_toArray, List.set_cons_zero, List.set_cons_succ]
        refine wpAnyH_ready (rs := [10]) (by kernel_rfl) (by simp) ?_
        refine AllReadyH.cons (lit_get rfl) (fun K hK => ?_) AllReadyH.nil
        go_simp
        refine hK.out _ _ ?s30 (fun hHeldN => ?n30)
        case s30 => exact R4.out _ _ _ _
        case n30 =>
        clear hK K hHeld
        have hHeld := hHeldN
        clear hHeldN
        try simp only [Act.put, List.setIfInBounds_toArray, List.set_cons_zero, List.set_cons_succ]
        refine wpAnyH_ready (rs := [11]) (by kernel_rfl) (by simp) ?_
        refine AllReadyH.cons (lit_get rfl) (fun K hK => ?_) AllReadyH.nil
        go_simp
        refine hK.out _ _ ?s31 (fun hHeldN => ?n31)
        case s31 => exact R4.out _ _ _ _
        case n31 =>
        clear hK K hHeld
        have hHeld := hHeldN
        clear hHeldN
        try simp only [Act.put, List.setIfInBounds_toArray, List.set_cons_zero, List.set_cons_succ]
        refine wpAnyH_done (by kernel_rfl) ?_ _
        refine NoPanic.normal ?_
        go_wp2_with fail
        go_meet
        case rel => exact ⟨_, _, _, _, rfl, rfl, rfl, rfl, Lib.hid (QL.out _ _ _ _ (by omega) (by omega) (by omega) (by omega) (by omega))⟩
     case k5 =>
      go_simp
      refine hK.out _ _ ?s5 (fun hHeldN => ?n5)
      case s5 => exact hHeld.below (box_below _ _)
      case n5 =>
      clear hK K hHeld
      have hHeld := hHeldN
      clear hHeldN
      try simp only [Act.put, List.setIfInBounds_toArray, List.set_cons_zero, List.set_cons_succ]
      refine wpAnyH_ready (rs := [5, 6]) (by kernel_rfl) (by simp) ?_
      refine AllReadyH.cons (lit_get rfl) (fun K hK => ?k33) (AllReadyH.cons (lit_get rfl) (fun K hK => ?k32) AllReadyH.nil)
      case k33 =>
       go_simp
       refine hK.out _ _ ?s33 (fun hHeldN => ?n33)
       case s33 => exact hHeld.below (box_below _ _)
       case n33 =>
       clear hK K hHeld
       have hHeld := hHeldN
       clear hHeldN
       try simp only [Act.put, List.setIfInBounds_toArray, List.set_cons_zero, List.set_cons_succ]
       refine wpAnyH_ready (rs := [6]) (by kernel_rfl) (by simp) ?_
       refine AllReadyH.cons (lit_get rfl) (fun K hK => ?k34) AllReadyH.nil
       case k34 =>
        go_simp
        refine hK.out _ _ ?s34 (fun hHeldN => ?n34)
        case s34 => exact hHeld.below (box_below _ _)
        case n34 =>
        clear hK K hHeld
        have hHeld := hHeldN
        clear hHeldN
        try simp only [Act.put, List.setIfInBounds_toArray, List.set_cons_zero, List.set_cons_succ]
        refine wpAnyH_ready (rs := [8]) (by kernel_rfl) (by simp) ?_
        refine AllReadyH.cons (lit_get rfl) (fun K hK => ?_) AllReadyH.nil
        go_simp
        refine hK.out _ _ ?s35 (fun hHeldN => ?n35)
        case s35 => exact R4.out _ _ _ _
        case n35 =>
        clear hK K hHeld
        have hHeld := hHeldN
        clear hHeldN
        try simp only [Act.put, List.setIfInBounds_toArray, List.set_cons_zero, List.set_cons_succ]
        refine wpAnyH_ready (rs := [9]) (by kernel_rfl) (by simp) ?_
        refine AllReadyH.cons (lit_get rfl) (fun K hK => ?_) AllReadyH.nil
        go_simp
        refine hK.out _ _ ?s36 (fun hHeldN => ?n36)
        case s36 => exact R4.out _ _ _ _
        case n36 =>
        clear hK K hHeld
        have hHeld := hHeldN
        clear hHeldN
        try simp only [Act.put, List.setIfInBounds_toArray, List.set_cons_zero, List.set_cons_succ]
        refine wpAnyH_ready (rs := [10]) (by kernel_rfl) (by simp) ?_
        refine AllReadyH.cons (lit_get rfl) (fun K hK => ?_) AllReadyH.nil
        go_simp
        refine hK.out _ _ ?s37 (fun hHeldN => ?n37)
        case s37 => exact R4.out _ _ _ _
        case n37 =>
        clear hK K hHeld
        have hHeld := hHeldN
        clear hHeldN
        try simp only [Act.put, List.setIfInBounds_toArray, List.set_cons_zero, List.set_cons_succ]
        refine wpAnyH_ready (rs := [11]) (by kernel_rfl) (by simp) ?_
        refine AllReadyH.cons (lit_get rfl) (fun K hK => ?_) AllReadyH.nil
        go_simp
        refine hK.out _ _ ?s38 (fun hHeldN => ?n38)
        case s38 => exact R4.out _ _ _ _
        case n38 =>
        clear hK K hHeld
        have hHeld := hHeldN
        clear hHeldN
        try simp only [Act.put, List.setIfInBounds_toArray, List.set_cons_zero, List.set_cons_succ]
        refine wpAnyH_done (by kernel_rfl) ?_ _
        refine NoPanic.normal ?_
        go_wp2_with fail
        go_meet
        case rel => exact ⟨_, _, _, _, rfl, rfl, rfl, rfl, Lib.hid (QL.out _ _ _ _ (by omega) (by omega) (by omega) (by omega) (by omega))⟩
      case k32 =>
       go_simp
       refine hK.out _ _ ?s32 (fun hHeldN => ?n32)
       case s32 => exact hHeld.below (box_below _ _)
       case n32 =>
       clear hK K hHeld
       have hHeld := hHeldN
       clear hHeldN
       try simp only [Act.put, List.setIfInBounds_toArray, List.set_cons_zero, List.set_cons_succ]
       refine wpAnyH_ready (rs := [5]) (by kernel_rfl) (by simp) ?_
       refine AllReadyH.cons (lit_get rfl) (fun K hK => ?k39) AllReadyH.nil
       case k39 =>
        go_simp
        refine hK.out _ _ ?s39 (fun hHeldN => ?n39)
        case s39 => exact hHeld.below (box_below _ _)
        case n39 =>
        clear hK K hHeld
        have hHeld := hHeldN
        clear hHeldN
        try simp only [Act.put, List.setIfInBounds_toArray, List.set_cons_zero, List.set_cons_succ]
        refine wpAnyH_ready (rs := [8]) (by kernel_rfl) (by simp) ?_
        refine AllReadyH.cons (lit_get rfl) (fun K hK => ?_) AllReadyH.nil
        go_simp
        refine hK.out _ _ ?s40 (fun hHeldN => ?n40)
        case s40 => exact R4.out _ _ _ _
        case n40 =>
        clear hK K hHeld
        have hHeld := hHeldN
        clear hHeldN
        try simp only [Act.put, List.setIfInBounds_toArray, List.set_cons_zero, List.set_cons_succ]
        refine wpAnyH_ready (rs := [9]) (by kernel_rfl) (by simp) ?_
        refine AllReadyH.cons (lit_get rfl) (fun K hK => ?_) AllReadyH.nil
        go_simp
        refine hK.out _ _ ?s41 (fun hHeldN => ?n41)
        case s41 => exact R4.out _ _ _ _
        case n41 =>
        clear hK K hHeld
        have hHeld := hHeldN
        clear hHeldN
        try simp only [Act.put, List.setIfInBounds_toArray, List.set_cons_zero, List.set_cons_succ]
        refine wpAnyH_ready (rs := [10]) (by kernel_rfl) (by simp) ?_
        refine AllReadyH.cons (lit_get rfl) (fun K hK => ?_) AllReadyH.nil
        go_simp
        refine hK.out _ _ ?s42 (fun hHeldN => ?n42)
        case s42 => exact R4.out _ _ _ _
        case n42 =>
        clear hK K hHeld
        have hHeld := hHeldN
        clear hHeldN
        try simp only [Act.put, List.setIfInBounds_toArray, List.set_cons_zero, List.set_cons_succ]
        refine wpAnyH_ready (rs := [11]) (by kernel_rfl) (by simp) ?_
        refine AllReadyH.cons (lit_get rfl) (fun K hK => ?_) AllReadyH.nil
        go_simp
        refine hK.out _ _ ?s43 (fun hHeldN => ?n43)
        case s43 => exact R4.out _ _ _ _
        case n43 =>
        clear hK K hHeld
        have hHeld := hHeldN
        clear hHeldN
        try simp only [Act.put, List.setIfInBounds_toArray, List.set_cons_zero, List.set_cons_succ]
        refine wpAnyH_done (by kernel_rfl) ?_ _
        refine NoPanic.normal ?_
        go_wp2_with fail
        go_meet
        case rel => exact ⟨_, _, _, _, rfl, rfl, rfl, rfl, Lib.hid (QL.out _ _ _ _ (by omega) (by omega) (by omega) (by omega) (by omega))⟩
    case k3 =>
     go_simp
     refine hK.out _ _ ?s3 (fun hHeldN => ?n3)
     case s3 => exact hHeld.below (box_below _ _)
     case n3 =>
     clear hK K hHeld
     have hHeld := hHeldN
     clear hHeldN
     try simp only [Act.put, List.setIfInBounds_toArray, List.set_cons_zero, List.set_cons_succ]
     refine wpAnyH_ready (rs := [4, 6, 7]) (by kernel_rfl) (by simp) ?_
     refine AllReadyH.cons (lit_get rfl) (fun K hK => ?k46) (AllReadyH.cons (lit_get rfl) (fun K hK => ?k45) (AllReadyH.cons (lit_get rfl) (fun K hK => ?k44) AllReadyH.nil))
     case k46 =>
      go_simp
      refine hK.out _ _ ?s46 (fun hHeldN => ?n46)
      case s46 => exact hHeld.below (box_below _ _)
      case n46 =>
      clear hK K hHeld
      have hHeld := hHeldN
      clear hHeldN
      try simp only [Act.put, List.setIfInBounds_toArray, List.set_cons_zero, List.set_cons_succ]
      refine wpAnyH_ready (rs := [6, 7]) (by kernel_rfl) (by simp) ?_
      refine AllReadyH.cons (lit_get rfl) (fun K hK => ?k48) (AllReadyH.cons (lit_get rfl) (fun K hK => ?k47) AllReadyH.nil)
      case k48 =>
       go_simp
       refine hK.out _ _ ?s48 (fun hHeldN => ?n48)
       case s48 => exact hHeld.below (box_below _ _)
       case n48 =>
       clear hK K hHeld
       have hHeld := hHeldN
       clear hHeldN
       try simp only [Act.put, List.setIfInBounds_toArray, List.set_cons_zero, List.set_cons_succ]
       refine wpAnyH_ready (rs := [7]) (by kernel_rfl) (by simp) ?_
       refine AllReadyH.cons (lit_get rfl) (fun K hK => ?k49) AllReadyH.nil
       case k49 =>
        go_simp
        refine hK.out _ _ ?s49 (fun hHeldN => ?n49)
        case s49 => exact hHeld.below (box_below _ _)
        case n49 =>
        clear hK K hHeld
        have hHeld := hHeldN
        clear hHeldN
        try simp only [Act.put, List.setIfInBounds_toArray, List.set_cons_zero, List.set_cons_succ]
        refine wpAnyH_ready (rs := [8]) (by kernel_rfl) (by simp) ?_
        refine AllReadyH.cons (lit_get rfl) (fun K hK => ?_) AllReadyH.nil
        go_simp
        refine hK.out _ _ ?s50 (fun hHeldN => ?n50)
        case s50 => exact R4.out _ _ _ _
        case n50 =>
        clear hK K hHeld
        have hHeld := hHeldN
        clear hHeldN
        try simp only [Act.put, List.setIfInBounds_toArray, List.set_cons_zero, List.set_cons_succ]
        refine wpAnyH_ready (rs := [9]) (by kernel_rfl) (by simp) ?_
        refine AllReadyH.cons (lit_get rfl) (fun K hK => ?_) AllReadyH.nil
        go_simp
        refine hK.out _ _ ?s51 (fun hHeldN => ?n51)
        case s51 => exact R4.out _ _ _ _
        case n51 =>
        clear hK K hHeld
        have hHeld := hHeldN
        clear hHeldN
        try simp only [Act.put, List.setIfInBounds_toArray, List.set_cons_zero, List.set_cons_succ]
        refine wpAnyH_ready (rs := [10]) (by kernel_rfl) (by simp) ?_
        refine AllReadyH.cons (lit_get rfl) (fun K hK => ?_) AllReadyH.nil
        go_simp
        refine hK.out _ _ ?s52 (fun hHeldN => ?n52)
        case s52 => exact R4.out _ _ _ _
        case n52 =>
        clear hK K hHeld
        have hHeld := hHeldN
        clear hHeldN
        try simp only [Act.put, List.setIfInBounds_toArray, List.set_cons_zero, List.set_cons_succ]
        refine wpAnyH_ready (rs := [11]) (by kernel_rfl) (by simp) ?_
        refine AllReadyH.cons (lit_get rfl) (fun K hK => ?_) AllReadyH.nil
        go_simp
        refine hK.out _ _ ?s53 (fun hHeldN => ?n53)
        case s53 => exact R4.out _ _ _ _
        case n53 =>
        clear hK K hHeld
        have hHeld := hHeldN
        clear hHeldN
        try simp only [Act.put, List.setIfInBounds_toArray, List.set_cons_zero, List.set_cons_succ]
        refine wpAnyH_done (by kernel_rfl) ?_ _
        refine NoPanic.normal ?_
        go_wp2_with fail
        go_meet
        case rel => exact ⟨_, _, _, _, rfl, rfl, rfl, rfl, Lib.hid (QL.out _ _ _ _ (by omega) (by omega) (by omega) (by omega) (by omega))⟩
      case k47 =>
       go_simp
       refine hK.out _ _ ?s47 (fun hHeldN => ?n47)
       case s47 => exact hHeld.below (box_below _ _)
       case n47 =>
       clear hK K hHeld
       have hHeld := hHeldN
       clear hHeldN
       try simp only [Act.put, List.setIfInBounds_toArray, List.set_cons_zero, List.set_cons_succ]
       refine wpAnyH_ready (rs := [6]) (by kernel_rfl) (by simp) ?_
       refine AllReadyH.cons (lit_get rfl) (fun K hK => ?k54) AllReadyH.nil
       case k54 =>
        go_simp
        refine hK.out _ _ ?s54 (fun hHeldN => ?n54)
        case s54 => exact hHeld.below (box_below _ _)
        case n54 =>
        clear hK K hHeld
        have hHeld := hHeldN
        clear hHeldN
        try simp only [Act.put, List.setIfInBounds_toArray, List.set_cons_zero, List.set_cons_succ]
        refine wpAnyH_ready (rs := [8]) (by kernel_rfl) (by simp) ?_
        refine AllReadyH.cons (lit_get rfl) (fun K hK => ?_) AllReadyH.nil
        go_simp
        refine hK.out _ _ ?s55 (fun hHeldN => ?n55)
        case s55 => exact R4.out _ _ _ _
        case n55 =>
        clear hK K hHeld
        have hHeld := hHeldN
        clear hHeldN
        try simp only [Act.put, List.setIfInBounds_toArray, List.set_cons_zero, List.set_cons_succ]
        refine wpAnyH_ready (rs := [9]) (by kernel_rfl) (by simp) ?_
        refine AllReadyH.cons (lit_get rfl) (fun K hK => ?_) AllReadyH.nil
        go_simp
        refine hK.out _ _ ?s56 (fun hHeldN => ?n56)
        case s56 => exact R4.out _ _ _ _
        case n56 =>
        clear hK K hHeld
        have hHeld := hHeldN
        clear hHeldN
        try simp only [Act.put, List.setIfInBounds_toArray, List.set_cons_zero, List.set_cons_succ]
        refine wpAnyH_ready (rs := [10]) (by kernel_rfl) (by simp) ?_
        refine AllReadyH.cons (lit_get rfl) (fun K hK => ?_) AllReadyH.nil
        go_simp
        refine hK.out _ _ ?s57 (fun hHeldN => ?n57)
        case s57 => exact R4.out _ _ _ _
        case n57 =>
        clear hK K hHeld
        have hHeld := hHeldN
        clear hHeldN
        try simp only [Act.put, List.setIfInBounds_toArray, List.set_cons_zero, List.set_cons_succ]
        refine wpAnyH_ready (rs := [11]) (by kernel_rfl) (by simp) ?_
        refine AllReadyH.cons (lit_get rfl) (fun K hK => ?_) AllReadyH.nil
        go_simp
        refine hK.out _ _ ?s58 (fun hHeldN => ?n58)
        case s58 => exact R4.out _ _ _ _
        case n58 =>
        clear hK K hHeld
        have hHeld := hHeldN
        clear hHeldN
        try simp only [Act.put, List.setIfInBounds_toArray, List.set_cons_zero, List.set_cons_succ]
        refine wpAnyH_done (by kernel_rfl) ?_ _
        refine NoPanic.normal ?_
        go_wp2_with fail
        go_meet
        case rel => exact ⟨_, _, _, _, rfl, rfl, rfl, rfl, Lib.hid (QL.out _ _ _ _ (by omega) (by omega) (by omega) (by omega) (by omega))⟩
     case k45 =>
      go_simp
      refine hK.out _ _ ?s45 (fun hHeldN => ?n45)
      case s45 => exact hHeld.below (box_below _ _)
      case n45 =>
      clear hK K hHeld
      have hHeld := hHeldN
      clear hHeldN
      try simp only [Act.put, List.setIfInBounds_toArray, List.set_cons_zero, List.set_cons_succ]
      refine wpAnyH_ready (rs := [4, 7]) (by kernel_rfl) (by simp) ?_
      refine AllReadyH.cons (lit_get rfl) (fun K hK => ?k60) (AllReadyH.cons (lit_get rfl) (fun K hK => ?k59) AllReadyH.nil)
      case k60 =>
       go_simp
       refine hK.out _ _ ?s60 (fun hHeldN => ?n60)
       case s60 => exact hHeld.below (box_below _ _)
       case n60 =>
       clear hK K hHeld
       have hHeld := hHeldN
       clear hHeldN
       try simp only [Act.put, List.setIfInBounds_toArray, List.set_cons_zero, List.set_cons_succ]
       refine wpAnyH_ready (rs := [7]) (by kernel_rfl) (by simp) ?_
       refine AllReadyH.cons (lit_get rfl) (fun K hK => ?k61) AllReadyH.nil
       case k61 =>
        go_simp
        refine hK.out _ _ ?s61 (fun hHeldN => ?n61)
        case s61 => exact hHeld.below (box_below _ _)
        case n61 =>
        clear hK K hHeld
        have hHeld := hHeldN
        clear hHeldN
        try simp only [Act.put, List.setIfInBounds_toArray, List.set_cons_zero, List.set_cons_succ]
        refine wpAnyH_ready (rs := [8]) (by kernel_rfl) (by simp) ?_
        refine AllReadyH.cons (lit_get rfl) (fun K hK => ?_) AllReadyH.nil
        go_simp
        refine hK.out _ _ ?s62 (fun hHeldN => ?n62)
        case s62 => exact R4.out _ _ _ _
        case n62 =>
        clear hK K hHeld
        have hHeld := hHeldN
        clear hHeldN
        try simp only [Act.put, List.setIfInBounds_toArray, List.set_cons_zero, List.set_cons_succ]
        refine wpAnyH_ready (rs := [9]) (by kernel_rfl) (by simp) ?_
        refine AllReadyH.cons (lit_get rfl) (fun K hK => ?_) AllReadyH.nil
        go_simp
        refine hK.out _ _ ?s63 (fun hHeldN => ?n63)
        case s63 => exact R4.out _ _ _ _
        case n63 =>
        clear hK K hHeld
        have hHeld := hHeldN
        clear hHeldN
        try simp only [Act.put, List.setIfInBounds_toArray, List.set_cons_zero, List.set_cons_succ]
        refine wpAnyH_ready (rs := [10]) (by kernel_rfl) (by simp) ?_
        refine AllReadyH.cons (lit_get rfl) (fun K hK => ?_) AllReadyH.nil
        go_simp
        refine hK.out _ _ ?s64 (fun hHeldN => ?n64)
        case s64 => exact R4.out _ _ _ _
        case n64 =>
        clear hK K hHeld
        have hHeld := hHeldN
        clear hHeldN
        try simp only [Act.put, List.setIfInBounds_toArray, List.set_cons_zero, List.set_cons_succ]
        refine wpAnyH_ready (rs := [11]) (by kernel_rfl) (by simp) ?_
        refine AllReadyH.cons (lit_get rfl) (fun K hK => ?_) AllReadyH.nil
        go_simp
        refine hK.out _ _ ?s65 (fun hHeldN => ?n65)
        case s65 => exact R4.out _ _ _ _
        case n65 =>
        clear hK K hHeld
        have hHeld := hHeldN
        clear hHeldN
        try simp only [Act.put, List.setIfInBounds_toArray, List.set_cons_zero, List.set_cons_succ]
        refine wpAnyH_done (by kernel_rfl) ?_ _
        refine NoPanic.normal ?_
        go_wp2_with fail
        go_meet
        case rel => exact ⟨_, _, _, _, rfl, rfl, rfl, rfl, Lib.hid (QL.out _ _ _ _ (by omega) (by omega) (by omega) (by omega) (by omega))⟩
      case k59 =>
       go_simp
       refine hK.out _ _ ?s59 (fun hHeldN => ?n59)
       case s59 => exact hHeld.below (box_below _ _)
       case n59 =>
       clear hK K hHeld
       have hHeld := hHeldN
       clear hHeldN
       try simp only [Act.put, List.setIfInBounds_toArray, List.set_cons_zero, List.set_cons_succ]
       refine wpAnyH_ready (rs := [4]) (by kernel_rfl) (by simp) ?_
       refine AllReadyH.cons (lit_get rfl) (fun K hK => ?k66) AllReadyH.nil
       case k66 =>
        go_simp
        refine hK.out _ _ ?s66 (fun hHeldN => ?n66)
        case s66 => exact hHeld.below (box_below _ _)
        case n66 =>
        clear hK K hHeld
        have hHeld := hHeldN
        clear hHeldN
        try simp only [Act.put, List.setIfInBounds_toArray, List.set_cons_zero, List.set_cons_succ]
        refine wpAnyH_ready (rs := [8]) (by kernel_rfl) (by simp) ?_
        refine AllReadyH.cons (lit_get rfl) (fun K hK => ?_) AllReadyH.nil
        go_simp
        refine hK.out _ _ ?s67 (fun hHeldN => ?n67)
        case s67 => exact R4.out _ _ _ _
        case n67 =>
        clear hK K hHeld
        have hHeld := hHeldN
        clear hHeldN
        try simp only [Act.put, List.setIfInBounds_toArray, List.set_cons_zero, List.set_cons_succ]
        refine wpAnyH_ready (rs := [9]) (by kernel_rfl) (by simp) ?_
        refine AllReadyH.cons (lit_get rfl) (fun K hK => ?_) AllReadyH.nil
        go_simp
        refine hK.out _ _ ?s68 (fun hHeldN => ?n68)
        case s68 => exact R4.out _ _ _ _
        case n68 =>
        clear hK K hHeld
        have hHeld := hHeldN
        clear hHeldN
        try simp only [Act.put, List.setIfInBounds_toArray, List.set_cons_zero, List.set_cons_succ]
        refine wpAnyH_ready (rs := [10]) (by kernel_rfl) (by simp) ?_
        refine AllReadyH.cons (lit_get rfl) (fun K hK => ?_) AllReadyH.nil
        go_simp
        refine hK.out _ _ ?s69 (fun hHeldN => ?n69)
        case s69 => exact R4.out _ _ _ _
        case n69 =>
        clear hK K hHeld
        have hHeld := hHeldN
        clear hHeldN
        try simp only [Act.put, List.setIfInBounds_toArray, List.set_cons_zero, List.set_cons_succ]
        refine wpAnyH_ready (rs := [11]) (by kernel_rfl) (by simp) ?_
        refine AllReadyH.cons (lit_get rfl) (fun K hK => ?_) AllReadyH.nil
        go_simp
        refine hK.out _ _ ?s70 (fun hHeldN => ?n70)
        case s70 => exact R4.out _ _ _ _
        case n70 =>
        clear hK K hHeld
        have hHeld := hHeldN
        clear hHeldN
        try simp only [Act.put, List.setIfInBounds_toArray, List.set_cons_zero, List.set_cons_succ]
        refine wpAnyH_done (by kernel_rfl) ?_ _
        refine NoPanic.normal ?_
        go_wp2_with fail
        go_meet
        case rel => exact ⟨_, _, _, _, rfl, rfl, rfl, rfl, Lib.hid (QL.out _ _ _ _ (by omega) (by omega) (by omega) (by omega) (by omega))⟩
     case k44 =>
      go_simp
      refine hK.out _ _ ?s44 (fun hHeldN => ?n44)
      case s44 => exact hHeld.below (box_below _ _)
      case n44 =>
      clear hK K hHeld
      have hHeld := hHeldN
      clear hHeldN
      try simp only [Act.put, List.setIfInBounds_toArray, List.set_cons_zero, List.set_cons_succ]
      refine wpAnyH_ready (rs := [4, 6]) (by kernel_rfl) (by simp) ?_
      refine AllReadyH.cons (lit_get rfl) (fun K hK => ?k72) (AllReadyH.cons (lit_get rfl) (fun K hK => ?k71) AllReadyH.nil)
      case k72 =>
       go_simp
       refine hK.out _ _ ?s72 (fun hHeldN => ?n72)
       case s72 => exact hHeld.below (box_below _ _)
       case n72 =>
       clear hK K hHeld
       have hHeld := hHeldN
       clear hHeldN
       try simp only [Act.put, List.setIfInBounds_toArray, List.set_cons_zero, List.set_cons_succ]
       refine wpAnyH_ready (rs := [6]) (by kernel_rfl) (by simp) ?_
       refine AllReadyH.cons (lit_get rfl) (fun K hK => ?k73) AllReadyH.nil
       case k73 =>
        go_simp
        refine hK.out _ _ ?s73 (fun hHeldN => ?n73)
        case s73 => exact hHeld.below (box_below _ _)
        case n73 =>
        clear hK K hHeld
        have hHeld := hHeldN
        clear hHeldN
        try simp only [Act.put, List.setIfInBounds_toArray, List.set_cons_zero, List.set_cons_succ]
        refine wpAnyH_ready (rs := [8]) (by kernel_rfl) (by simp) ?_
        refine AllReadyH.cons (lit_get rfl) (fun K hK => ?_) AllReadyH.nil
        go_simp
        refine hK.out _ _ ?s74 (fun hHeldN => ?n74)
        case s74 => exact R4.out _ _ _ _
        case n74 =>
        clear hK K hHeld
        have hHeld := hHeldN
        clear hHeldN
        try simp only [Act.put, List.setIfInBounds_toArray, List.set_cons_zero, List.set_cons_succ]
        refine wpAnyH_ready (rs := [9]) (by kernel_rfl) (by simp) ?_
        refine AllReadyH.cons (lit_get rfl) (fun K hK => ?_) AllReadyH.nil
        go_simp
        refine hK.out _ _ ?s75 (fun hHeldN => ?n75)
        case s75 => exact R4.out _ _ _ _
        case n75 =>
        clear hK K hHeld
        have hHeld := hHeldN
        clear hHeldN
        try simp only [Act.put, List.setIfInBounds_toArray, List.set_cons_zero, List.set_cons_succ]
        refine wpAnyH_ready (rs := [10]) (by kernel_rfl) (by simp) ?_
        refine AllReadyH.cons (lit_get rfl) (fun K hK => ?_) AllReadyH.nil
        go_simp
        refine hK.out _ _ ?s76 (fun hHeldN => ?n76)
        case s76 => exact R4.out _ _ _ _
        case n76 =>
        clear hK K hHeld
        have hHeld := hHeldN
        clear hHeldN
        try simp only [Act.put, List.setIfInBounds_toArray, List.set_cons_zero, List.set_cons_succ]
        refine wpAnyH_ready (rs := [11]) (by kernel_rfl) (by simp) ?_
        refine AllReadyH.cons (lit_get rfl) (fun K hK => ?_) AllReadyH.nil
        go_simp
        refine hK.out _ _ ?s77 (fun hHeldN => ?n77)
        case s77 => exact R4.out _ _ _ _
        case n77 =>
        clear hK K hHeld
        have hHeld := hHeldN
        clear hHeldN
        try simp only [Act.put, List.setIfInBounds_toArray, List.set_cons_zero, List.set_cons_succ]
        refine wpAnyH_done (by kernel_rfl) ?_ _
        refine NoPanic.normal ?_
        go_wp2_with fail
        go_meet
        case rel => exact ⟨_, _, _, _, rfl, rfl, rfl, rfl, Lib.hid (QL.out _ _ _ _ (by omega) (by omega) (by omega) (by omega) (by omega))⟩
      case k71 =>
       go_simp
       refine hK.out _ _ ?s71 (fun hHeldN => ?n71)
       case s71 => exact hHeld.below (box_below _ _)
       case n71 =>
       clear hK K hHeld
       have hHeld := hHeldN
       clear hHeldN
       try simp only [Act.put, List.setIfInBounds_toArray, List.set_cons_zero, List.set_cons_succ]
       refine wpAnyH_ready (rs := [4]) (by kernel_rfl) (by simp) ?_
       refine AllReadyH.cons (lit_get rfl) (fun K hK => ?k78) AllReadyH.nil
       case k78 =>
        go_simp
        refine hK.out _ _ ?s78 (fun hHeldN => ?n78)
        case s78 => exact hHeld.below (box_below _ _)
        case n78 =>
        clear hK K hHeld
        have hHeld := hHeldN
        clear hHeldN
        try simp only [Act.put, List.setIfInBounds_toArray, List.set_cons_zero, List.set_cons_succ]
        refine wpAnyH_ready (rs := [8]) (by kernel_rfl) (by simp) ?_
        refine AllReadyH.cons (lit_get rfl) (fun K hK => ?_) AllReadyH.nil
        go_simp
        refine hK.out _ _ ?s79 (fun hHeldN => ?n79)
        case s79 => exact R4.out _ _ _ _
        case n79 =>
        clear hK K hHeld
        have hHeld := hHeldN
        clear hHeldN
        try simp only [Act.put, List.setIfInBounds_toArray, List.set_cons_zero, List.set_cons_succ]
        refine wpAnyH_ready (rs := [9]) (by kernel_rfl) (by simp) ?_
        refine AllReadyH.cons (lit_get rfl) (fun K hK => ?_) AllReadyH.nil
        go_simp
        refine hK.out _ _ ?s80 (fun hHeldN => ?n80)
        case s80 => exact R4.out _ _ _ _
        case n80 =>
        clear hK K hHeld
        have hHeld := hHeldN
        clear hHeldN
        try simp only [Act.put, List.setIfInBounds_toArray, List.set_cons_zero, List.set_cons_succ]
        refine wpAnyH_ready (rs := [10]) (by kernel_rfl) (by simp) ?_
        refine AllReadyH.cons (lit_get rfl) (fun K hK => ?_) AllReadyH.nil
        go_simp
        refine hK.out _ _ ?s81 (fun hHeldN => ?n81)
        case s81 => exact R4.out _ _ _ _
        case n81 =>
        clear hK K hHeld
        have hHeld := hHeldN
        clear hHeldN
        try simp only [Act.put, List.setIfInBounds_toArray, List.set_cons_zero, List.set_cons_succ]
        refine wpAnyH_ready (rs := [11]) (by kernel_rfl) (by simp) ?_
        refine AllReadyH.cons (lit_get rfl) (fun K hK => ?_) AllReadyH.nil
        go_simp
        refine hK.out _ _ ?s82 (fun hHeldN => ?n82)
        case s82 => exact R4.out _ _ _ _
        case n82 =>
        clear hK K hHeld
        have hHeld := hHeldN
        clear hHeldN
        try simp only [Act.put, List.setIfInBounds_toArray, List.set_cons_zero, List.set_cons_succ]
        refine wpAnyH_done (by kernel_rfl) ?_ _
        refine NoPanic.normal ?_
        go_wp2_with fail
        go_meet
        case rel => exact ⟨_, _, _, _, rfl, rfl, rfl, rfl, Lib.hid (QL.out _ _ _ _ (by omega) (by omega) (by omega) (by omega) (by omega))⟩
    case k2 =>
     go_simp
     refine hK.out _ _ ?s2 (fun hHeldN => ?n2)
     case s2 => exact hHeld.below (box_below _ _)
     case n2 =>
     clear hK K hHeld
     have hHeld := hHeldN
     clear hHeldN
     try simp only [Act.put, List.setIfInBounds_toArray, List.set_cons_zero, List.set_cons_succ]
     refine wpAnyH_ready (rs := [4, 5, 7]) (by kernel_rfl) (by simp) ?_
     refine AllReadyH.cons (lit_get rfl) (fun K hK => ?k85) (AllReadyH.cons (lit_get rfl) (fun K hK => ?k84) (AllReadyH.cons (lit_get rfl) (fun K hK => ?k83) AllReadyH.nil))
     case k85 =>
      go_simp
      refine hK.out _ _ ?s85 (fun hHeldN => ?n85)
      case s85 => exact hHeld.below (box_below _ _)
      case n85 =>
      clear hK K hHeld
      have hHeld := hHeldN
      clear hHeldN
      try simp only [Act.put, List.setIfInBounds_toArray, List.set_cons_zero, List.set_cons_succ]
      refine wpAnyH_ready (rs := [5, 7]) (by kernel_rfl) (by simp) ?_
      refine AllReadyH.cons (lit_get rfl) (fun K hK => ?k87) (AllReadyH.cons (lit_get rfl) (fun K hK => ?k86) AllReadyH.nil)
      case k87 =>
       go_simp
       refine hK.out _ _ ?s87 (fun hHeldN => ?n87)
       case s87 => exact hHeld.below (box_below _ _)
       case n87 =>
       clear hK K hHeld
       have hHeld := hHeldN
       clear hHeldN
       try simp only [Act.put, List.setIfInBounds_toArray, List.set_cons_zero, List.set_cons_succ]
       refine wpAnyH_ready (rs := [7]) (by kernel_rfl) (by simp) ?_
       refine AllReadyH.cons (lit_get rfl) (fun K hK => ?k88) AllReadyH.nil
       case k88 =>
        go_simp
        refine hK.out _ _ ?s88 (fun hHeldN => ?n88)
        case s88 => exact hHeld.below (box_below _ _)
        case n88 =>
        clear hK K hHeld
        have hHeld := hHeldN
        clear hHeldN
        try simp only [Act.put, List.setIfInBounds_toArray, List.set_cons_zero, List.set_cons_succ]
        refine wpAnyH_ready (rs := [8]) (by kernel_rfl) (by simp) ?_
        refine AllReadyH.cons (lit_get rfl) (fun K hK => ?_) AllReadyH.nil
        go_simp
        refine hK.out _ _ ?s89 (fun hHeldN => ?n89)
        case s89 => exact R4.out _ _ _ _
        case n89 =>
        clear hK K hHeld
        have hHeld := hHeldN
        clear hHeldN
        try simp only [Act.put, List.setIfInBounds_toArray, List.set_cons_zero, List.set_cons_succ]
        refine wpAnyH_ready (rs := [9]) (by kernel_rfl) (by simp) ?_
        refine AllReadyH.cons (lit_get rfl) (fun K hK => ?_) AllReadyH.nil
        go_simp
        refine hK.out _ _ ?s90 (fun hHeldN => ?n90)
        case s90 => exact R4.out _ _ _ _
        case n90 =>
        clear hK K hHeld
        have hHeld := hHeldN
        clear hHeldN
        try simp only [Act.put, List.setIfInBounds_toArray, List.set_cons_zero, List.set_cons_succ]
        refine wpAnyH_ready (rs := [10]) (by kernel_rfl) (by simp) ?_
        refine AllReadyH.cons (lit_get rfl) (fun K hK => ?_) AllReadyH.nil
        go_simp
        refine hK.out _ _ ?s91 (fun hHeldN => ?n91)
        case s91 => exact R4.out _ _ _ _
        case n91 =>
        clear hK K hHeld
        have hHeld := hHeldN
        clear hHeldN
        try simp only [Act.put, List.setIfInBounds_toArray, List.set_cons_zero, List.set_cons_succ]
        refine wpAnyH_ready (rs := [11]) (by kernel_rfl) (by simp) ?_
        refine AllReadyH.cons (lit_get rfl) (fun K hK => ?_) AllReadyH.nil
        go_simp
        refine hK.out _ _ ?s92 (fun hHeldN => ?n92)
        case s92 => exact R4.out _ _ _ _
        case n92 =>
        clear hK K hHeld
        have hHeld := hHeldN
        clear hHeldN
        try simp only [Act.put, List.setIfInBounds_toArray, List.set_cons_zero, List.set_cons_succ]
        refine wpAnyH_done (by kernel_rfl) ?_ _
        refine NoPanic.normal ?_
        go_wp2_with fail
        go_meet
        case rel => exact ⟨_, _, _, _, rfl, rfl, rfl, rfl, Lib.hid (QL.out _ _ _ _ (by omega) (by omega) (by omega) (by omega) (by omega))⟩
      case k86 =>
       go_simp
       refine hK.out _ _ ?s86 (fun hHeldN => ?n86)
       case s86 => exact hHeld.below (box_below _ _)
       case n86 =>
       clear hK K hHeld
       have hHeld := hHeldN
       clear hHeldN
       try simp only [Act.put, List.setIfInBounds_toArray, List.set_cons_zero, List.set_cons_succ]
       refine wpAnyH_ready (rs := [5]) (by kernel_rfl) (by simp) ?_
       refine AllReadyH.cons (lit_get rfl) (fun K hK => ?k93) AllReadyH.nil
       case k93 =>
        go_simp
        refine hK.out _ _ ?s93 (fun hHeldN => ?n93)
        case s93 => exact hHeld.below (box_below _ _)
        case n93 =>
        clear hK K hHeld
        have hHeld := hHeldN
        clear hHeldN
        try simp only [Act.put, List.setIfInBounds_toArray, List.set_cons_zero, List.set_cons_succ]
        refine wpAnyH_ready (rs := [8]) (by kernel_rfl) (by simp) ?_
        refine AllReadyH.cons (lit_get rfl) (fun K hK => ?_) AllReadyH.nil
        go_simp
        refine hK.out _ _ ?s94 (fun hHeldN => ?n94)
        case s94 => exact R4.out _ _ _ _
        case n94 =>
        clear hK K hHeld
        have hHeld := hHeldN
        clear hHeldN
        try simp only [Act.put, List.setIfInBounds_toArray, List.set_cons_zero, List.set_cons_succ]
        refine wpAnyH_ready (rs := [9]) (by kernel_rfl) (by simp) ?_
        refine AllReadyH.cons (lit_get rfl) (fun K hK => ?_) AllReadyH.nil
        go_simp
        refine hK.out _ _ ?s95 (fun hHeldN => ?n95)
        case s95 => exact R4.out _ _ _ _
        case n95 =>
        clear hK K hHeld
        have hHeld := hHeldN
        clear hHeldN
        try simp only [Act.put, List.setIfInBounds_toArray, List.set_cons_zero, List.set_cons_succ]
        refine wpAnyH_ready (rs := [10]) (by kernel_rfl) (by simp) ?_
        refine AllReadyH.cons (lit_get rfl) (fun K hK => ?_) AllReadyH.nil
        go_simp
        refine hK.out _ _ ?s96 (fun hHeldN => ?n96)
        case s96 => exact R4.out _ _ _ _
        case n96 =>
        clear hK K hHeld
        have hHeld := hHeldN
        clear hHeldN
        try simp only [Act.put, List.setIfInBounds_toArray, List.set_cons_zero, List.set_cons_succ]
        refine wpAnyH_ready (rs := [11]) (by kernel_rfl) (by simp) ?_
        refine AllReadyH.cons (lit_get rfl) (fun K hK => ?_) AllReadyH.nil
        go_simp
        refine hK.out _ _ ?s97 (fun hHeldN => ?n97)
        case s97 => exact R4.out _ _ _ _
        case n97 =>
        clear hK K hHeld
        have hHeld := hHeldN
        clear hHeldN
        try simp only [Act.put, List.setIfInBounds_toArray, List.set_cons_zero, List.set_cons_succ]
        refine wpAnyH_done (by kernel_rfl) ?_ _
        refine NoPanic.normal ?_
        go_wp2_with fail
        go_meet
        case rel => exact ⟨_, _, _, _, rfl, rfl, rfl, rfl, Lib.hid (QL.out _ _ _ _ (by omega) (by omega) (by omega) (by omega) (by omega))⟩
     case k84 =>
      go_simp
      refine hK.out _ _ ?s84 (fun hHeldN => ?n84)
      case s84 => exact hHeld.below (box_below _ _)
      case n84 =>
      clear hK K hHeld
      have hHeld := hHeldN
      clear hHeldN
      try simp only [Act.put, List.setIfInBounds_toArray, List.set_cons_zero, List.set_cons_succ]
      refine wpAnyH_ready (rs := [4, 7]) (by kernel_rfl) (by simp) ?_
      refine AllReadyH.cons (lit_get rfl) (fun K hK => ?k99) (AllReadyH.cons (lit_get rfl) (fun K hK => ?k98) AllReadyH.nil)
      case k99 =>
       go_simp
       refine hK.out _ _ ?s99 (fun hHeldN => ?n99)
       case s99 => exact hHeld.below (box_below _ _)
       case n99 =>
       clear hK K hHeld
       have hHeld := hHeldN
       clear hHeldN
       try simp only [Act.put, List.setIfInBounds_toArray, List.set_cons_zero, List.set_cons_succ]
       refine wpAnyH_ready (rs := [7]) (by kernel_rfl) (by simp) ?_
       refine AllReadyH.cons (lit_get rfl) (fun K hK => ?k100) AllReadyH.nil
       case k100 =>
        go_simp
        refine hK.out _ _ ?s100 (fun hHeldN => ?n100)
        case s100 => exact hHeld.below (box_below _ _)
        case n100 =>
        clear hK K hHeld
        have hHeld := hHeldN
        clear hHeldN
        try simp only [Act.put, List.setIfInBounds_toArray, List.set_cons_zero, List.set_cons_succ]
        refine wpAnyH_ready (rs := [8]) (by kernel_rfl) (by simp) ?_
        refine AllReadyH.cons (lit_get rfl) (fun K hK => ?_) AllReadyH.nil
        go_simp
        refine hK.out _ _ ?s101 (fun hHeldN => ?n101)
        case s101 => exact R4.out _ _ _ _
        case n101 =>
        clear hK K hHeld
        have hHeld := hHeldN
        clear hHeldN
        try simp only [Act.put, List.setIfInBounds_toArray, List.set_cons_zero, List.set_cons_succ]
        refine wpAnyH_ready (rs := [9]) (by kernel_rfl) (by simp) ?_
        refine AllReadyH.cons (lit_get rfl) (fun K hK => ?_) AllReadyH.nil
        go_simp
        refine hK.out _ _ ?s102 (fun hHeldN => ?n102)
        case s102 => exact R4.out _ _ _ _
        case n102 =>
        clear hK K hHeld
        have hHeld := hHeldN
        clear hHeldN
        try simp only [Act.put, List.setIfInBounds_toArray, List.set_cons_zero, List.set_cons_succ]
        refine wpAnyH_ready (rs := [10]) (by kernel_rfl) (by simp) ?_
        refine AllReadyH.cons (lit_get rfl) (fun K hK => ?_) AllReadyH.nil
        go_simp
        refine hK.out _ _ ?s103 (fun hHeldN => ?n103)
        case s103 => exact R4.out _ _ _ _
        case n103 =>
        clear hK K hHeld
        have hHeld := hHeldN
        clear hHeldN
        try simp only [Act.put, List.setIfInBounds_toArray, List.set_cons_zero, List.set_cons_succ]
        refine wpAnyH_ready (rs := [11]) (by kernel_rfl) (by simp) ?_
        refine AllReadyH.cons (lit_get rfl) (fun K hK => ?_) AllReadyH.nil
        go_simp
        refine hK.out _ _ ?s104 (fun hHeldN => ?n104)
        case s104 => exact R4.out _ _ _ _
        case n104 =>
        clear hK K hHeld
        have hHeld := hHeldN
        clear hHeldN
        try simp only [Act.put, List.setIfInBounds_toArray, List.set_cons_zero, List.set_cons_succ]
        refine wpAnyH_done (by kernel_rfl) ?_ _
        refine NoPanic.normal ?_
        go_wp2_with fail
        go_meet
        case rel => exact ⟨_, _, _, _, rfl, rfl, rfl, rfl, Lib.hid (QL.out _ _ _ _ (by omega) (by omega) (by omega) (by omega) (by omega))⟩
      case k98 =>
       go_simp
       refine hK.out _ _ ?s98 (fun hHeldN => ?n98)
       case s98 => exact hHeld.below (box_below _ _)
       case n98 =>
       clear hK K hHeld
       have hHeld := hHeldN
       clear hHeldN
       try simp only [Act.put, List.setIfInBounds_toArray, List.set_cons_zero, List.set_cons_succ]
       refine wpAnyH_ready (rs := [4]) (by kernel_rfl) (by simp) ?_
       refine AllReadyH.cons (lit_get rfl) (fun K hK => ?k105) AllReadyH.nil
       case k105 =>
        go_simp
        refine hK.out _ _ ?s105 (fun hHeldN => ?n105)
        case s105 => exact hHeld.below (box_below _ _)
        case n105 =>
        clear hK K hHeld
        have hHeld := hHeldN
        clear hHeldN
        try simp only [Act.put, List.setIfInBounds_toArray, List.set_cons_zero, List.set_cons_succ]
        refine wpAnyH_ready (rs := [8]) (by kernel_rfl) (by simp) ?_
        refine AllReadyH.cons (lit_get rfl) (fun K hK => ?_) AllReadyH.nil
        go_simp
        refine hK.out _ _ ?s106 (fun hHeldN => ?n106)
        case s106 => exact R4.out _ _ _ _
        case n106 =>
        clear hK K hHeld
        have hHeld := hHeldN
        clear hHeldN
        try simp only [Act.put, List.setIfInBounds_toArray, List.set_cons_zero, List.set_cons_succ]
        refine wpAnyH_ready (rs := [9]) (by kernel_rfl) (by simp) ?_
        refine AllReadyH.cons (lit_get rfl) (fun K hK => ?_) AllReadyH.nil
        go_simp
        refine hK.out _ _ ?s107 (fun hHeldN => ?n107)
        case s107 => exact R4.out _ _ _ _
        case n107 =>
        clear hK K hHeld
        have hHeld := hHeldN
        clear hHeldN
        try simp only [Act.put, List.setIfInBounds_toArray, List.set_cons_zero, List.set_cons_succ]
        refine wpAnyH_ready (rs := [10]) (by kernel_rfl) (by simp) ?_
        refine AllReadyH.cons (lit_get rfl) (fun K hK => ?_) AllReadyH.nil
        go_simp
        refine hK.out _ _ ?s108 (fun hHeldN => ?n108)
        case s108 => exact R4.out _ _ _ _
        case n108 =>
        clear hK K hHeld
        have hHeld := hHeldN
        clear hHeldN
        try simp only [Act.put, List.setIfInBounds_toArray, List.set_cons_zero, List.set_cons_succ]
        refine wpAnyH_ready (rs := [11]) (by kernel_rfl) (by simp) ?_
        refine AllReadyH.cons (lit_get rfl) (fun K hK => ?_) AllReadyH.nil
        go_simp
        refine hK.out _ _ ?s109 (fun hHeldN => ?n109)
        case s109 => exact R4.out _ _ _ _
        case n109 =>
        clear hK K hHeld
        have hHeld := hHeldN
        clear hHeldN
        try simp only [Act.put, List.setIfInBounds_toArray, List.set_cons_zero, List.set_cons_succ]
        refine wpAnyH_done (by kernel_rfl) ?_ _
        refine NoPanic.normal ?_
        go_wp2_with fail
        go_meet
        case rel => exact ⟨_, _, _, _, rfl, rfl, rfl, rfl, Lib.hid (QL.out _ _ _ _ (by omega) (by omega) (by omega) (by omega) (by omega))⟩
     case k83 =>
      go_simp
      refine hK.out _ _ ?s83 (fun hHeldN => ?n83)
      case s83 => exact hHeld.below (box_below _ _)
      case n83 =>
      clear hK K hHeld
      have hHeld := hHeldN
      clear hHeldN
      try simp only [Act.put, List.setIfInBounds_toArray, List.set_cons_zero, List.set_cons_succ]
      refine wpAnyH_ready (rs := [4, 5]) (by kernel_rfl) (by simp) ?_
      refine AllReadyH.cons (lit_get rfl) (fun K hK => ?k111) (AllReadyH.cons (lit_get rfl) (fun K hK => ?k110) AllReadyH.nil)
      case k111 =>
       go_simp
       refine hK.out _ _ ?s111 (fun hHeldN => ?n111)
       case s111 => exact hHeld.below (box_below _ _)
       case n111 =>
       clear hK K hHeld
       have hHeld := hHeldN
       clear hHeldN
       try simp only [Act.put, List.setIfInBounds_toArray, List.set_cons_zero, List.set_cons_succ]
       refine wpAnyH_ready (rs := [5]) (by kernel_rfl) (by simp) ?_
       refine AllReadyH.cons (lit_get rfl) (fun K hK => ?k112) AllReadyH.nil
       case k112 =>
        go_simp
        refine hK.out _ _ ?s112 (fun hHeldN => ?n112)
        case s112 => exact hHeld.below (box_below _ _)
        case n112 =>
        clear hK K hHeld
        have hHeld := hHeldN
        clear hHeldN
        try simp only [Act.put, List.setIfInBounds_toArray, List.set_cons_zero, List.set_cons_succ]
        refine wpAnyH_ready (rs := [8]) (by kernel_rfl) (by simp) ?_
        refine AllReadyH.cons (lit_get rfl) (fun K hK => ?_) AllReadyH.nil
        go_simp
        refine hK.out _ _ ?s113 (fun hHeldN => ?n113)
        case s113 => exact R4.out _ _ _ _
        case n113 =>
        clear hK K hHeld
        have hHeld := hHeldN
        clear hHeldN
        try simp only [Act.put, List.setIfInBounds_toArray, List.set_cons_zero, List.set_cons_succ]
        refine wpAnyH_ready (rs := [9]) (by kernel_rfl) (by simp) ?_
        refine AllReadyH.cons (lit_get rfl) (fun K hK => ?_) AllReadyH.nil
        go_simp
        refine hK.out _ _ ?s114 (fun hHeldN => ?n114)
        case s114 => exact R4.out _ _ _ _
        case n114 =>
        clear hK K hHeld
        have hHeld := hHeldN
        clear hHeldN
        try simp only [Act.put, List.setIfInBounds_toArray, List.set_cons_zero, List.set_cons_succ]
        refine wpAnyH_ready (rs := [10]) (by kernel_rfl) (by simp) ?_
        refine AllReadyH.cons (lit_get rfl) (fun K hK => ?_) AllReadyH.nil
        go_simp
        refine hK.out _ _ ?s115 (fun hHeldN => ?n115)
        case s115 => exact R4.out _ _ _ _
        case n115 =>
        clear hK K hHeld
        have hHeld := hHeldN
        clear hHeldN
        try simp only [Act.put, List.setIfInBounds_toArray, List.set_cons_zero, List.set_cons_succ]
        refine wpAnyH_ready (rs := [11]) (by kernel_rfl) (by simp) ?_
        refine AllReadyH.cons (lit_get rfl) (fun K hK => ?_) AllReadyH.nil
        go_simp
        refine hK.out _ _ ?s116 (fun hHeldN => ?n116)
        case s116 => exact R4.out _ _ _ _
        case n116 =>
        clear hK K hHeld
        have hHeld := hHeldN
        clear hHeldN
        try simp only [Act.put, List.setIfInBounds_toArray, List.set_cons_zero, List.set_cons_succ]
        refine wpAnyH_done (by kernel_rfl) ?_ _
        refine NoPanic.normal ?_
        go_wp2_with fail
        go_meet
        case rel => exact ⟨_, _, _, _, rfl, rfl, rfl, rfl, Lib.hid (QL.out _ _ _ _ (by omega) (by omega) (by omega) (by omega) (by omega))⟩
      case k110 =>
       go_simp
       refine hK.out _ _ ?s110 (fun hHeldN => ?n110)
       case s110 => exact hHeld.below (box_below _ _)
       case n110 =>
       clear hK K hHeld
       have hHeld := hHeldN
       clear hHeldN
       try simp only [Act.put, List.setIfInBounds_toArray, List.set_cons_zero, List.set_cons_succ]
       refine wpAnyH_ready (rs := [4]) (by kernel_rfl) (by simp) ?_
       refine AllReadyH.cons (lit_get rfl) (fun K hK => ?k117) AllReadyH.nil
       case k117 =>
        go_simp
        refine hK.out _ _ ?s117 (fun hHeldN => ?n117)
        case s117 => exact hHeld.below (box_below _ _)
        case n117 =>
        clear hK K hHeld
        have hHeld := hHeldN
        clear hHeldN
        try simp only [Act.put, List.setIfInBounds_toArray, List.set_cons_zero, List.set_cons_succ]
        refine wpAnyH_ready (rs := [8]) (by kernel_rfl) (by simp) ?_
        refine AllReadyH.cons (lit_get rfl) (fun K hK => ?_) AllReadyH.nil
        go_simp
        refine hK.out _ _ ?s118 (fun hHeldN => ?n118)
        case s118 => exact R4.out _ _ _ _
        case n118 =>
        clear hK K hHeld
        have hHeld := hHeldN
        clear hHeldN
        try simp only [Act.put, List.setIfInBounds_toArray, List.set_cons_zero, List.set_cons_succ]
        refine wpAnyH_ready (rs := [9]) (by kernel_rfl) (by simp) ?_
        refine AllReadyH.cons (lit_get rfl) (fun K hK => ?_) AllReadyH.nil
        go_simp
        refine hK.out _ _ ?s119 (fun hHeldN => ?n119)
        case s119 => exact R4.out _ _ _ _
        case n119 =>
        clear hK K hHeld
        have hHeld := hHeldN
        clear hHeldN
        try simp only [Act.put, List.setIfInBounds_toArray, List.set_cons_zero, List.set_cons_succ]
        refine wpAnyH_ready (rs := [10]) (by kernel_rfl) (by simp) ?_
        refine AllReadyH.cons (lit_get rfl) (fun K hK => ?_) AllReadyH.nil
        go_simp
        refine hK.out _ _ ?s120 (fun hHeldN => ?n120)
        case s120 => exact R4.out _ _ _ _
        case n120 =>
        clear hK K hHeld
        have hHeld := hHeldN
        clear hHeldN
        try simp only [Act.put, List.setIfInBounds_toArray, List.set_cons_zero, List.set_cons_succ]
        refine wpAnyH_ready (rs := [11]) (by kernel_rfl) (by simp) ?_
        refine AllReadyH.cons (lit_get rfl) (fun K hK => ?_) AllReadyH.nil
        go_simp
        refine hK.out _ _ ?s121 (fun hHeldN => ?n121)
        case s121 => exact R4.out _ _ _ _
        case n121 =>
        clear hK K hHeld
        have hHeld := hHeldN
        clear hHeldN
        try simp only [Act.put, List.setIfInBounds_toArray, List.set_cons_zero, List.set_cons_succ]
        refine wpAnyH_done (by kernel_rfl) ?_ _
        refine NoPanic.normal ?_
        go_wp2_with fail
        go_meet
        case rel => exact ⟨_, _, _, _, rfl, rfl, rfl, rfl, Lib.hid (QL.out _ _ _ _ (by omega) (by omega) (by omega) (by omega) (by omega))⟩
    case k1 =>
     go_simp
     refine hK.out _ _ ?s1 (fun hHeldN => ?n1)
     case s1 => exact hHeld.below (box_below _ _)
     case n1 =>
     clear hK K hHeld
     have hHeld := hHeldN
     clear hHeldN
     try simp only [Act.put, List.setIfInBounds_toArray, List.set_cons_zero, List.set_cons_succ]
     refine wpAnyH_ready (rs := [4, 5, 6]) (by kernel_rfl) (by simp) ?_
     refine AllReadyH.cons (lit_get rfl) (fun K hK => ?k124) (AllReadyH.cons (lit_get rfl) (fun K hK => ?k123) (AllReadyH.cons (lit_get rfl) (fun K hK => ?k122) AllReadyH.nil))
     case k124 =>
      go_simp
      refine hK.out _ _ ?s124 (fun hHeldN => ?n124)
      case s124 => exact hHeld.below (box_below _ _)
      case n124 =>
      clear hK K hHeld
      have hHeld := hHeldN
      clear hHeldN
      try simp only [Act.put, List.setIfInBounds_toArray, List.set_cons_zero, List.set_cons_succ]
      refine wpAnyH_ready (rs := [5, 6]) (by kernel_rfl) (by simp) ?_
      refine AllReadyH.cons (lit_get rfl) (fun K hK => ?k126) (AllReadyH.cons (lit_get rfl) (fun K hK => ?k125) AllReadyH.nil)
      case k126 =>
       go_simp
       refine hK.out _ _ ?s126 (fun hHeldN => ?n126)
       case s126 => exact hHeld.below (box_below _ _)
       case n126 =>
       clear hK K hHeld
       have hHeld := hHeldN
       clear hHeldN
       try simp only [Act.put, List.setIfInBounds_toArray, List.set_cons_zero, List.set_cons_succ]
       refine wpAnyH_ready (rs := [6]) (by kernel_rfl) (by simp) ?_
       refine AllReadyH.cons (lit_get rfl) (fun K hK => ?k127) AllReadyH.nil
       case k127 =>
        go_simp
        refine hK.out _ _ ?s127 (fun hHeldN => ?n127)
        case s127 => exact hHeld.below (box_below _ _)
        case n127 =>
        clear hK K hHeld
        have hHeld := hHeldN
        clear hHeldN
        try simp only [Act.put, List.setIfInBounds_toArray, List.set_cons_zero, List.set_cons_succ]
        refine wpAnyH_ready (rs := [8]) (by kernel_rfl) (by simp) ?_
        refine AllReadyH.cons (lit_get rfl) (fun K hK => ?_) AllReadyH.nil
        go_simp
        refine hK.out _ _ ?s128 (fun hHeldN => ?n128)
        case s128 => exact R4.out _ _ _ _
        case n128 =>
        clear hK K hHeld
        have hHeld := hHeldN
        clear hHeldN
        try simp only [Act.put, List.setIfInBounds_toArray, List.set_cons_zero, List.set_cons_succ]
        refine wpAnyH_ready (rs := [9]) (by kernel_rfl) (by simp) ?_
        refine AllReadyH.cons (lit_get rfl) (fun K hK => ?_) AllReadyH.nil
        go_simp
        refine hK.out _ _ ?s129 (fun hHeldN => ?n129)
        case s129 => exact R4.out _ _ _ _
        case n129 =>
        clear hK K hHeld
        have hHeld := hHeldN
        clear hHeldN
        try simp only [Act.put, List.setIfInBounds_toArray, List.set_cons_zero, List.set_cons_succ]
        refine wpAnyH_ready (rs := [10]) (by kernel_rfl) (by simp) ?_
        refine AllReadyH.cons (lit_get rfl) (fun K hK => ?_) AllReadyH.nil
        go_simp
        refine hK.out _ _ ?s130 (fun hHeldN => ?n130)
        case s130 => exact R4.out _ _ _ _
        case n130 =>
        clear hK K hHeld
        have hHeld := hHeldN
        clear hHeldN
        try simp only [Act.put, List.setIfInBounds_toArray, List.set_cons_zero, List.set_cons_succ]
        refine wpAnyH_ready (rs := [11]) (by kernel_rfl) (by simp) ?_
        refine AllReadyH.cons (lit_get rfl) (fun K hK => ?_) AllReadyH.nil
        go_simp
        refine hK.out _ _ ?s131 (fun hHeldN => ?n131)
        case s131 => exact R4.out _ _ _ _
        case n131 =>
        clear hK K hHeld
        have hHeld := hHeldN
        clear hHeldN
        try simp only [Act.put, List.setIfInBounds_toArray, List.set_cons_zero, List.set_cons_succ]
        refine wpAnyH_done (by kernel_rfl) ?_ _
        refine NoPanic.normal ?_
        go_wp2_with fail
        go_meet
        case rel => exact ⟨_, _, _, _, rfl, rfl, rfl, rfl, Lib.hid (QL.out _ _ _ _ (by omega) (by omega) (by omega) (by omega) (by omega))⟩
      case k125 =>
       go_simp
       refine hK.out _ _ ?s125 (fun hHeldN => ?n125)
       case s125 => exact hHeld.below (box_below _ _)
       case n125 =>
       clear hK K hHeld
       have hHeld := hHeldN
       clear hHeldN
       try simp only [Act.put, List.setIfInBounds_toArray, List.set_cons_zero, List.set_cons_succ]
       refine wpAnyH_ready (rs := [5]) (by kernel_rfl) (by simp) ?_
       refine AllReadyH.cons (lit_get rfl) (fun K hK => ?k132) AllReadyH.nil
       case k132 =>
        go_simp
        refine hK.out _ _ ?s132 (fun hHeldN => ?n132)
        case s132 => exact hHeld.below (box_below _ _)
        case n132 =>
        clear hK K hHeld
        have hHeld := hHeldN
        clear hHeldN
        try simp only [Act.put, List.setIfInBounds_toArray, List.set_cons_zero, List.set_cons_succ]
        refine wpAnyH_ready (rs := [8]) (by kernel_rfl) (by simp) ?_
        refine AllReadyH.cons (lit_get rfl) (fun K hK => ?_) AllReadyH.nil
        go_simp
        refine hK.out _ _ ?s133 (fun hHeldN => ?n133)
        case s133 => exact R4.out _ _ _ _
        case n133 =>
        clear hK K hHeld
        have hHeld := hHeldN
        clear hHeldN
        try simp only [Act.put, List.setIfInBounds_toArray, List.set_cons_zero, List.set_cons_succ]
        refine wpAnyH_ready (rs := [9]) (by kernel_rfl) (by simp) ?_
        refine AllReadyH.cons (lit_get rfl) (fun K hK => ?_) AllReadyH.nil
        go_simp
        refine hK.out _ _ ?s134 (fun hHeldN => ?n134)
        case s134 => exact R4.out _ _ _ _
        case n134 =>
        clear hK K hHeld
        have hHeld := hHeldN
        clear hHeldN
        try simp only [Act.put, List.setIfInBounds_toArray, List.set_cons_zero, List.set_cons_succ]
        refine wpAnyH_ready (rs := [10]) (by kernel_rfl) (by simp) ?_
        refine AllReadyH.cons (lit_get rfl) (fun K hK => ?_) AllReadyH.nil
        go_simp
        refine hK.out _ _ ?s135 (fun hHeldN => ?n135)
        case s135 => exact R4.out _ _ _ _
        case n135 =>
        clear hK K hHeld
        have hHeld := hHeldN
        clear hHeldN
        try simp only [Act.put, List.setIfInBounds_toArray, List.set_cons_zero, List.set_cons_succ]
        refine wpAnyH_ready (rs := [11]) (by kernel_rfl) (by simp) ?_
        refine AllReadyH.cons (lit_get rfl) (fun K hK => ?_) AllReadyH.nil
        go_simp
        refine hK.out _ _ ?s136 (fun hHeldN => ?n136)
        case s136 => exact R4.out _ _ _ _
        case n136 =>
        clear hK K hHeld
        have hHeld := hHeldN
        clear hHeldN
        try simp only [Act.put, List.setIfInBounds_toArray, List.set_cons_zero, List.set_cons_succ]
        refine wpAnyH_done (by kernel_rfl) ?_ _
        refine NoPanic.normal ?_
        go_wp2_with fail
        go_meet
        case rel => exact ⟨_, _, _, _, rfl, rfl, rfl, rfl, Lib.hid (QL.out _ _ _ _ (by omega) (by omega) (by omega) (by omega) (by omega))⟩
     case k123 =>
      go_simp
      refine hK.out _ _ ?s123 (fun hHeldN => ?n123)
      case s123 => exact hHeld.below (box_below _ _)
      case n123 =>
      clear hK K hHeld
      have hHeld := hHeldN
      clear hHeldN
      try simp only [Act.put, List.setIfInBounds_toArray, List.set_cons_zero, List.set_cons_succ]
      refine wpAnyH_ready (rs := [4, 6]) (by kernel_rfl) (by simp) ?_
      refine AllReadyH.cons (lit_get rfl) (fun K hK => ?k138) (AllReadyH.cons (lit_get rfl) (fun K hK => ?k137) AllReadyH.nil)
      case k138 =>
       go_simp
       refine hK.out _ _ ?s138 (fun hHeldN => ?n138)
       case s138 => exact hHeld.below (box_below _ _)
       case n138 =>
       clear hK K hHeld
       have hHeld := hHeldN
       clear hHeldN
       try simp only [Act.put, List.setIfInBounds_toArray, List.set_cons_zero, List.set_cons_succ]
       refine wpAnyH_ready (rs := [6]) (by kernel_rfl) (by simp) ?_
       refine AllReadyH.cons (lit_get rfl) (fun K hK => ?k139) AllReadyH.nil
       case k139 =>
        go_simp
        refine hK.out _ _ ?s139 (fun hHeldN => ?n139)
        case s139 => exact hHeld.below (box_below _ _)
        case n139 =>
        clear hK K hHeld
        have hHeld := hHeldN
        clear hHeldN
        try simp only [Act.put, List.setIfInBounds_toArray, List.set_cons_zero, List.set_cons_succ]
        refine wpAnyH_ready (rs := [8]) (by kernel_rfl) (by simp) ?_
        refine AllReadyH.cons (lit_get rfl) (fun K hK => ?_) AllReadyH.nil
        go_simp
        refine hK.out _ _ ?s140 (fun hHeldN => ?n140)
        case s140 => exact R4.out _ _ _ _
        case n140 =>
        clear hK K hHeld
        have hHeld := hHeldN
        clear hHeldN
        try simp only [Act.put, List.setIfInBounds_toArray, List.set_cons_zero, List.set_cons_succ]
        refine wpAnyH_ready (rs := [9]) (by kernel_rfl) (by simp) ?_
        refine AllReadyH.cons (lit_get rfl) (fun K hK => ?_) AllReadyH.nil
        go_simp
        refine hK.out _ _ ?s141 (fun hHeldN => ?n141)
        case s141 => exact R4.out _ _ _ _
        case n141 =>
        clear hK K hHeld
        have hHeld := hHeldN
        clear hHeldN
        try simp only [Act.put, List.setIfInBounds_toArray, List.set_cons_zero, List.set_cons_succ]
        refine wpAnyH_ready (rs := [10]) (by kernel_rfl) (by simp) ?_
        refine AllReadyH.cons (lit_get rfl) (fun K hK => ?_) AllReadyH.nil
        go_simp
        refine hK.out _ _ ?s142 (fun hHeldN => ?n142)
        case s142 => exact R4.out _ _ _ _
        case n142 =>
        clear hK K hHeld
        have hHeld := hHeldN
        clear hHeldN
        try simp only [Act.put, List.setIfInBounds_toArray, List.set_cons_zero, List.set_cons_succ]
        refine wpAnyH_ready (rs := [11]) (by kernel_rfl) (by simp) ?_
        refine AllReadyH.cons (lit_get rfl) (fun K hK => ?_) AllReadyH.nil
        go_simp
        refine hK.out _ _ ?s143 (fun hHeldN => ?n143)
        case s143 => exact R4.out _ _ _ _
        case n143 =>
        clear hK K hHeld
        have hHeld := hHeldN
        clear hHeldN
        try simp only [Act.put, List.setIfInBounds_toArray, List.set_cons_zero, List.set_cons_succ]
        refine wpAnyH_done (by kernel_rfl) ?_ _
        refine NoPanic.normal ?_
        go_wp2_with fail
        go_meet
        case rel => exact ⟨_, _, _, _, rfl, rfl, rfl, rfl, Lib.hid (QL.out _ _ _ _ (by omega) (by omega) (by omega) (by omega) (by omega))⟩
      case k137 =>
       go_simp
       refine hK.out _ _ ?s137 (fun hHeldN => ?n137)
       case s137 => exact hHeld.below (box_below _ _)
       case n137 =>
       clear hK K hHeld
       have hHeld := hHeldN
       clear hHeldN
       try simp only [Act.put, List.setIfInBounds_toArray, List.set_cons_zero, List.set_cons_succ]
       refine wpAnyH_ready (rs := [4]) (by kernel_rfl) (by simp) ?_
       refine AllReadyH.cons (lit_get rfl) (fun K hK => ?k144) AllReadyH.nil
       case k144 =>
        go_simp
        refine hK.out _ _ ?s144 (fun hHeldN => ?n144)
        case s144 => exact hHeld.below (box_below _ _)
        case n144 =>
        clear hK K hHeld
        have hHeld := hHeldN
        clear hHeldN
        try simp only [Act.put, List.setIfInBounds_toArray, List.set_cons_zero, List.set_cons_succ]
        refine wpAnyH_ready (rs := [8]) (by kernel_rfl) (by simp) ?_
        refine AllReadyH.cons (lit_get rfl) (fun K hK => ?_) AllReadyH.nil
        go_simp
        refine hK.out _ _ ?s145 (fun hHeldN => ?n145)
        case s145 => exact R4.out _ _ _ _
        case n145 =>
        clear hK K hHeld
        have hHeld := hHeldN
        clear hHeldN
        try simp only [Act.put, List.setIfInBounds_toArray, List.set_cons_zero, List.set_cons_succ]
        refine wpAnyH_ready (rs := [9]) (by kernel_rfl) (by simp) ?_
        refine AllReadyH.cons (lit_get rfl) (fun K hK => ?_) AllReadyH.nil
        go_simp
        refine hK.out _ _ ?s146 (fun hHeldN => ?n146)
        case s146 => exact R4.out _ _ _ _
        case n146 =>
        clear hK K hHeld
        have hHeld := hHeldN
        clear hHeldN
        try simp only [Act.put, List.setIfInBounds_toArray, List.set_cons_zero, List.set_cons_succ]
        refine wpAnyH_ready (rs := [10]) (by kernel_rfl) (by simp) ?_
        refine AllReadyH.cons (lit_get rfl) (fun K hK => ?_) AllReadyH.nil
        go_simp
        refine hK.out _ _ ?s147 (fun hHeldN => ?n147)
        case s147 => exact R4.out _ _ _ _
        case n147 =>
        clear hK K hHeld
        have hHeld := hHeldN
        clear hHeldN
        try simp only [Act.put, List.setIfInBounds_toArray, List.set_cons_zero, List.set_cons_succ]
        refine wpAnyH_ready (rs := [11]) (by kernel_rfl) (by simp) ?_
        refine AllReadyH.cons (lit_get rfl) (fun K hK => ?_) AllReadyH.nil
        go_simp
        refine hK.out _ _ ?s148 (fun hHeldN => ?n148)
        case s148 => exact R4.out _ _ _ _
        case n148 =>
        clear hK K hHeld
        have hHeld := hHeldN
        clear hHeldN
        try simp only [Act.put, List.setIfInBounds_toArray, List.set_cons_zero, List.set_cons_succ]
        refine wpAnyH_done (by kernel_rfl) ?_ _
        refine NoPanic.normal ?_
        go_wp2_with fail
        go_meet
        case rel => exact ⟨_, _, _, _, rfl, rfl, rfl, rfl, Lib.hid (QL.out _ _ _ _ (by omega) (by omega) (by omega) (by omega) (by omega))⟩
     case k122 =>
      go_simp
      refine hK.out _ _ ?s122 (fun hHeldN => ?n122)
      case s122 => exact hHeld.below (box_below _ _)
      case n122 =>
      clear hK K hHeld
      have hHeld := hHeldN
      clear hHeldN
      try simp only [Act.put, List.setIfInBounds_toArray, List.set_cons_zero, List.set_cons_succ]
      refine wpAnyH_ready (rs := [4, 5]) (by kernel_rfl) (by simp) ?_
      refine AllReadyH.cons (lit_get rfl) (fun K hK => ?k150) (AllReadyH.cons (lit_get rfl) (fun K hK => ?k149) AllReadyH.nil)
      case k150 =>
       go_simp
       refine hK.out _ _ ?s150 (fun hHeldN => ?n150)
       case s150 => exact hHeld.below (box_below _ _)
       case n150 =>
       clear hK K hHeld
       have hHeld := hHeldN
       clear hHeldN
       try simp only [Act.put, List.setIfInBounds_toArray, List.set_cons_zero, List.set_cons_succ]
       refine wpAnyH_ready (rs := [5]) (by kernel_rfl) (by simp) ?_
       refine AllReadyH.cons (lit_get rfl) (fun K hK => ?k151) AllReadyH.nil
       case k151 =>
        go_simp
        refine hK.out _ _ ?s151 (fun hHeldN => ?n151)
        case s151 => exact hHeld.below (box_below _ _)
        case n151 =>
        clear hK K hHeld
        have hHeld := hHeldN
        clear hHeldN
        try simp only [Act.put, List.setIfInBounds_toArray, List.set_cons_zero, List.set_cons_succ]
        refine wpAnyH_ready (rs := [8]) (by kernel_rfl) (by simp) ?_
        refine AllReadyH.cons (lit_get rfl) (fun K hK => ?_) AllReadyH.nil
        go_simp
        refine hK.out _ _ ?s152 (fun hHeldN => ?n152)
        case s152 => exact R4.out _ _ _ _
        case n152 =>
        clear hK K hHeld
        have hHeld := hHeldN
        clear hHeldN
        try simp only [Act.put, List.setIfInBounds_toArray, List.set_cons_zero, List.set_cons_succ]
        refine wpAnyH_ready (rs := [9]) (by kernel_rfl) (by simp) ?_
        refine AllReadyH.cons (lit_get rfl) (fun K hK => ?_) AllReadyH.nil
        go_simp
        refine hK.out _ _ ?s153 (fun hHeldN => ?n153)
        case s153 => exact R4.out _ _ _ _
        case n153 =>
        clear hK K hHeld
        have hHeld := hHeldN
        clear hHeldN
        try simp only [Act.put, List.setIfInBounds_toArray, List.set_cons_zero, List.set_cons_succ]
        refine wpAnyH_ready (rs := [10]) (by kernel_rfl) (by simp) ?_
        refine AllReadyH.cons (lit_get rfl) (fun K hK => ?_) AllReadyH.nil
        go_simp
        refine hK.out _ _ ?s154 (fun hHeldN => ?n154)
        case s154 => exact R4.out _ _ _ _
        case n154 =>
        clear hK K hHeld
        have hHeld := hHeldN
        clear hHeldN
        try simp only [Act.put, List.setIfInBounds_toArray, List.set_cons_zero, List.set_cons_succ]
        refine wpAnyH_ready (rs := [11]) (by kernel_rfl) (by simp) ?_
        refine AllReadyH.cons (lit_get rfl) (fun K hK => ?_) AllReadyH.nil
        go_simp
        refine hK.out _ _ ?s155 (fun hHeldN => ?n155)
        case s155 => exact R4.out _ _ _ _
        case n155 =>
        clear hK K hHeld
        have hHeld := hHeldN
        clear hHeldN
        try simp only [Act.put, List.setIfInBounds_toArray, List.set_cons_zero, List.set_cons_succ]
        refine wpAnyH_done (by kernel_rfl) ?_ _
        refine NoPanic.normal ?_
        go_wp2_with fail
        go_meet
        case rel => exact ⟨_, _, _, _, rfl, rfl, rfl, rfl, Lib.hid (QL.out _ _ _ _ (by omega) (by omega) (by omega) (by omega) (by omega))⟩
      case k149 =>
       go_simp
       refine hK.out _ _ ?s149 (fun hHeldN => ?n149)
       case s149 => exact hHeld.below (box_below _ _)
       case n149 =>
       clear hK K hHeld
       have hHeld := hHeldN
       clear hHeldN
       try simp only [Act.put, List.setIfInBounds_toArray, List.set_cons_zero, List.set_cons_succ]
       refine wpAnyH_ready (rs := [4]) (by kernel_rfl) (by simp) ?_
       refine AllReadyH.cons (lit_get rfl) (fun K hK => ?k156) AllReadyH.nil
       case k156 =>
        go_simp
        refine hK.out _ _ ?s156 (fun hHeldN => ?n156)
        case s156 => exact hHeld.below (box_below _ _)
        case n156 =>
        clear hK K hHeld
        have hHeld := hHeldN
        clear hHeldN
        try simp only [Act.put, List.setIfInBounds_toArray, List.set_cons_zero, List.set_cons_succ]
        refine wpAnyH_ready (rs := [8]) (by kernel_rfl) (by simp) ?_
        refine AllReadyH.cons (lit_get rfl) (fun K hK => ?_) AllReadyH.nil
        go_simp
        refine hK.out _ _ ?s157 (fun hHeldN => ?n157)
        case s157 => exact R4.out _ _ _ _
        case n157 =>
        clear hK K hHeld
        have hHeld := hHeldN
        clear hHeldN
        try simp only [Act.put, List.setIfInBounds_toArray, List.set_cons_zero, List.set_cons_succ]
        refine wpAnyH_ready (rs := [9]) (by kernel_rfl) (by simp) ?_
        refine AllReadyH.cons (lit_get rfl) (fun K hK => ?_) AllReadyH.nil
        go_simp
        refine hK.out _ _ ?s158 (fun hHeldN => ?n158)
        case s158 => exact R4.out _ _ _ _
        case n158 =>
        clear hK K hHeld
        have hHeld := hHeldN
        clear hHeldN
        try simp only [Act.put, List.setIfInBounds_toArray, List.set_cons_zero, List.set_cons_succ]
        refine wpAnyH_ready (rs := [10]) (by kernel_rfl) (by simp) ?_
        refine AllReadyH.cons (lit_get rfl) (fun K hK => ?_) AllReadyH.nil
        go_simp
        refine hK.out _ _ ?s159 (fun hHeldN => ?n159)
        case s159 => exact R4.out _ _ _ _
        case n159 =>
        clear hK K hHeld
        have hHeld := hHeldN
        clear hHeldN
        try simp only [Act.put, List.setIfInBounds_toArray, List.set_cons_zero, List.set_cons_succ]
        refine wpAnyH_ready (rs := [11]) (by kernel_rfl) (by simp) ?_
        refine AllReadyH.cons (lit_get rfl) (fun K hK => ?_) AllReadyH.nil
        go_simp
        refine hK.out _ _ ?s160 (fun hHeldN => ?n160)
        case s160 => exact R4.out _ _ _ _
        case n160 =>
        clear hK K hHeld
        have hHeld := hHeldN
        clear hHeldN
        try simp only [Act.put, List.setIfInBounds_toArray, List.set_cons_zero, List.set_cons_succ]
        refine wpAnyH_done (by kernel_rfl) ?_ _
        refine NoPanic.normal ?_
        go_wp2_with fail
        go_meet
        case rel => exact ⟨_, _, _, _, rfl, rfl, rfl, rfl, Lib.hid (QL.out _ _ _ _ (by omega) (by omega) (by omega) (by omega) (by omega))⟩
  case rest =>
    obtain ⟨b1, b2, b3, b4, rfl, rfl, rfl, rfl, HQ⟩ := hcut
    obtain ⟨hq4, hap⟩ := HQ.out
    have P0 := Lib.hid (q4_placed hq4 hap (.slice al l.length cl) (.slice ax x.length cx) l x)
    unfold placed at P0
    dsimp only at P0
    obtain ⟨v0, v1, v2⟩ := hq4.rb.two.cells
    obtain ⟨_, _, _, _, _, a5, a6, a7, _, _⟩ := hq4.a.cells
    obtain ⟨_, _, k2, _, _, _, _, _, _, _⟩ := hq4.b.cells
    obtain ⟨_, _, _, _, g4, _, _, _, _, _⟩ := hq4.c.cells
    obtain ⟨d0, d1, _, _, _, _, _, _, _, _⟩ := hq4.d.cells
    have z5 := hq4.a.frz 5
    have z6 := hq4.a.frz 6
    have z7 := hq4.a.frz 7
    have z2 := hq4.b.frz 2
    have z4 := hq4.c.frz 4
    have z1 := hq4.d.frz 1
    have z0 := hq4.d.frz 0
    dsimp only at k2 g4 d1
    clear hq4 hap
    go_wp2_with fail
    refine (NK.out _ P0.out.rb.base).mono ?_
    rintro e w5 ⟨rfl, hb⟩
    clear v0 v1 v2 a5 a6 a7 k2 g4 d0 d1 z5 z6 z7 z2 z4 z1 z0
    have P1 := Lib.hid (P0.out.below hb)
    clear hb
    go_upto_region 9 with fail
    go_cut [70] from 53 (fun s70 wx => s70 = .bool false ∧ Hid (Q4 w ⟨.slice ada q.arg.length capa, .slice ads q.src.length caps, .slice adc q.cond.length capc⟩ q xw ⟨.slice ada q.arg.length capa, .slice ads q.src.length caps, .slice adc q.cond.length capc⟩ ⟨q.agg, q.arg, q.src, q.join, q.cond, xw, q.key, q.late⟩ ⟨.slice ada q.arg.length capa, .slice al l.length cl, .slice adc q.cond.length capc⟩ ⟨q.agg, q.arg, l, q.join, q.cond, q.win, q.key, q.late⟩ ⟨.slice ada q.arg.length capa, .slice ads q.src.length caps, .slice ax x.length cx⟩ ⟨q.agg, q.arg, q.src, q.join, x, q.win, q.key, q.late⟩ ⟨.slice ax x.length cx, .slice ads q.src.length caps, .slice adc q.cond.length capc⟩ ⟨4, x, q.src, q.join, q.cond, q.win, q.key, q.late⟩ b1 b2 b3 b4 wx))
    case first =>
      refine wp_region_noPanic ?_
      refine wp_region_held_drew (S := Q4 w ⟨.slice ada q.arg.length capa, .slice ads q.src.length caps, .slice adc q.cond.length capc⟩ q xw ⟨.slice ada q.arg.length capa, .slice ads q.src.length caps, .slice adc q.cond.length capc⟩ ⟨q.agg, q.arg, q.src, q.join, q.cond, xw, q.key, q.late⟩ ⟨.slice ada q.arg.length capa, .slice al l.length cl, .slice adc q.cond.length capc⟩ ⟨q.agg, q.arg, l, q.join, q.cond, q.win, q.key, q.late⟩ ⟨.slice ada q.arg.length capa, .slice ads q.src.length caps, .slice ax x.length cx⟩ ⟨q.agg, q.arg, q.src, q.join, x, q.win, q.key, q.late⟩ ⟨.slice ax x.length cx, .slice ads q.src.length caps, .slice adc q.cond.length capc⟩ ⟨4, x, q.src, q.join, q.cond, q.win, q.key, q.late⟩ b1 b2 b3 b4) (by kernel_rfl) ?hS (fun hHeld => ?hR)
      case hS => exact P1.out.below (Below.drew (Below.refl _ _))
      case hR =>
      refine wpAnyH_take (i := 0) (v := (.agg #[.int .u8 q.agg, .slice ada q.arg.length capa, .slice ads q.src.length caps, .bool false, .slice adc q.cond.length capc, .int .u8 xw.kind, .int .i64 xw.size, .int .i64 xw.every, .bool q.key, .int .u8 q.late])) (lit_get rfl) (by kernel_rfl) (by kernel_rfl) (by kernel_rfl) (fun _ _ _ h => h) (Or.inl ⟨by rfl, ?h101⟩) hHeld ?r101
      case h101 =>
        intro W hSw
        obtain ⟨c0, c1, c2, c3, c4, c5, c6, c7, c8, c9⟩ := hSw.a.cells
        dsimp only at c0 c1 c2 c3 c4 c5 c6 c7 c8 c9
        go_simp
        try with_reducible rfl
      case r101 =>
      try simp only [Act.put, List.setIfInBounds_toArray, List.set_cons_zero, List.set_cons_succ]
      refine wpAnyH_take (i := 2) (v := (.agg #[.int .u8 xw.kind, .int .i64 xw.size, .int .i64 xw.every])) (lit_get rfl) (by kernel_rfl) (by kernel_rfl) (by kernel_rfl) (fun _ _ _ h => h) (Or.inl ⟨by rfl, ?h102⟩) hHeld ?r102
      case h102 =>
        intro W hSw
        obtain ⟨c0, c1, c2⟩ := hSw.rb.two.cells
        go_simp
        try with_reducible rfl
      case r102 =>
      try simp only [Act.put, List.setIfInBounds_toArray, List.set_cons_zero, List.set_cons_succ]
      refine wpAnyH_ready (rs := [1]) (by kernel_rfl) (by simp) ?_
      refine AllReadyH.cons (lit_get rfl) (fun K hK => ?_) AllReadyH.nil
      go_simp
      refine (CA.out _ hHeld.rb.base).mono ?_
      rintro e wq103 ⟨rfl, hb⟩
      refine hK.out _ _ ?s103 (fun hHeldN => ?n103)
      case s103 => exact hHeld.below hb
      case n103 =>
      clear hK K hHeld hb
      have hHeld := hHeldN
      clear hHeldN
      try simp only [Act.put, List.setIfInBounds_toArray, List.set_cons_zero, List.set_cons_succ]
      refine wpAnyH_ready (rs := [3]) (by kernel_rfl) (by simp) ?_
      refine AllReadyH.cons (lit_get rfl) (fun K hK => ?_) AllReadyH.nil
      go_simp
      refine (WW.out _ ).mono ?_
      rintro e wq104 ⟨rfl, hb⟩
      refine hK.out _ _ ?s104 (fun hHeldN => ?n104)
      case s104 => exact hHeld.below hb
      case n104 =>
      clear hK K hHeld hb
      have hHeld := hHeldN
      clear hHeldN
      try simp only [Act.put, List.setIfInBounds_toArray, List.set_cons_zero, List.set_cons_succ]
      refine wpAnyH_take (i := 4) (v := ?v105) (lit_get rfl) (by kernel_rfl) (by kernel_rfl) (by kernel_rfl) (fun _ _ _ h => h) (Or.inl ⟨by rfl, ?h105⟩) hHeld ?r105
      case h105 =>
        intro W hSw
        go_simp
        try with_reducible rfl
      case r105 =>
      try simp only [Act.put, List.setIfInBounds_toArray, List.set_cons_zero, List.set_cons_succ]
      refine wpAnyH_take (i := 5) (v := ?v106) (lit_get rfl) (by kernel_rfl) (by kernel_rfl) (by kernel_rfl) (fun _ _ _ h => h) (Or.inl ⟨by rfl, ?h106⟩) hHeld ?r106
      case h106 =>
        intro W hSw
        go_simp
        try with_reducible rfl
      case r106 =>
      try simp only [Act.put, List.setIfInBounds_toArray, List.set_cons_zero, List.set_cons_succ]
      refine wpAnyH_take (i := 6) (v := (.agg #[.int .u8 q.agg, .slice ada q.arg.length capa, .slice al l.length cl, .bool false, .slice adc q.cond.length capc, .int .u8 q.win.kind, .int .i64 q.win.size, .int .i64 q.win.every, .bool q.key, .int .u8 q.late])) (lit_get rfl) (by kernel_rfl) (by kernel_rfl) (by kernel_rfl) (fun _ _ _ h => h) (Or.inl ⟨by rfl, ?h107⟩) hHeld ?r107
      case h107 =>
        intro W hSw
        obtain ⟨c0, c1, c2, c3, c4, c5, c6, c7, c8, c9⟩ := hSw.b.cells
        dsimp only at c0 c1 c2 c3 c4 c5 c6 c7 c8 c9
        go_simp
        try with_reducible rfl
      case r107 =>
      try simp only [Act.put, List.setIfInBounds_toArray, List.set_cons_zero, List.set_cons_succ]
      refine wpAnyH_take (i := 8) (v := ?v108) (lit_get rfl) (by kernel_rfl) (by kernel_rfl) (by kernel_rfl) (fun _ _ _ h => h) (Or.inl ⟨by rfl, ?h108⟩) hHeld ?r108
      case h108 =>
        intro W hSw
        go_simp
        try with_reducible rfl
      case r108 =>
      try simp only [Act.put, List.setIfInBounds_toArray, List.set_cons_zero, List.set_cons_succ]
      refine wpAnyH_ready (rs := [7]) (by kernel_rfl) (by simp) ?_
      refine AllReadyH.cons (lit_get rfl) (fun K hK => ?_) AllReadyH.nil
      go_simp
      refine (CB.out _ hHeld.rb.base).mono ?_
      rintro e wq109 ⟨rfl, hb⟩
      refine hK.out _ _ ?s109 (fun hHeldN => ?n109)
      case s109 => exact hHeld.below hb
      case n109 =>
      clear hK K hHeld hb
      have hHeld := hHeldN
      clear hHeldN
      try simp only [Act.put, List.setIfInBounds_toArray, List.set_cons_zero, List.set_cons_succ]
      refine wpAnyH_ready (rs := [9]) (by kernel_rfl) (by simp) ?_
      refine AllReadyH.cons (lit_get rfl) (fun K hK => ?_) AllReadyH.nil
      go_simp
      refine (LL.out _ hHeld.rb.base).mono ?_
      rintro e wq110 ⟨rfl, hb⟩
      refine hK.out _ _ ?s110 (fun hHeldN => ?n110)
      case s110 => exact hHeld.below hb
      case n110 =>
      clear hK K hHeld hb
      have hHeld := hHeldN
      clear hHeldN
      try simp only [Act.put, List.setIfInBounds_toArray, List.set_cons_zero, List.set_cons_succ]
      refine wpAnyH_take (i := 10) (v := ?v111) (lit_get rfl) (by kernel_rfl) (by kernel_rfl) (by kernel_rfl) (fun _ _ _ h => h) (Or.inl ⟨by rfl, ?h111⟩) hHeld ?r111
      case h111 =>
        intro W hSw
        go_simp
        try with_reducible rfl
      case r111 =>
      try simp only [Act.put, List.setIfInBounds_toArray, List.set_cons_zero, List.set_cons_succ]
      refine wpAnyH_take (i := 11) (v := ?v112) (lit_get rfl) (by kernel_rfl) (by kernel_rfl) (by kernel_rfl) (fun _ _ _ h => h) (Or.inl ⟨by rfl, ?h112⟩) hHeld ?r112
      case h112 =>
        intro W hSw
        go_simp
        try with_reducible rfl
      case r112 =>
      try simp only [Act.put, List.setIfInBounds_toArray, List.set_cons_zero, List.set_cons_succ]
      refine wpAnyH_take (i := 12) (v := ?v113) (lit_get rfl) (by kernel_rfl) (by kernel_rfl) (by kernel_rfl) (fun _ _ _ h => h) (Or.inl ⟨by rfl, ?h113⟩) hHeld ?r113
      case h113 =>
        intro W hSw
        go_simp
        try with_reducible rfl
      case r113 =>
      try simp only [Act.put, List.setIfInBounds_toArray, List.set_cons_zero, List.set_cons_succ]
      refine wpAnyH_take (i := 13) (v := (.agg #[.int .u8 4, .slice ax x.length cx, .slice ads q.src.length caps, .bool false, .slice adc q.cond.length capc, .int .u8 q.win.kind, .int .i64 q.win.size, .int .i64 q.win.every, .bool q.key, .int .u8 q.late])) (lit_get rfl) (by kernel_rfl) (by kernel_rfl) (by kernel_rfl) (fun _ _ _ h => h) (Or.inl ⟨by rfl, ?h114⟩) hHeld ?r114
      case h114 =>
        intro W hSw
        obtain ⟨c0, c1, c2, c3, c4, c5, c6, c7, c8, c9⟩ := hSw.d.cells
        dsimp only at c0 c1 c2 c3 c4 c5 c6 c7 c8 c9
        go_simp
        try with_reducible rfl
      case r114 =>
      try simp only [Act.put, List.setIfInBounds_toArray, List.set_cons_zero, List.set_cons_succ]
      refine wpAnyH_take (i := 15) (v := ?v115) (lit_get rfl) (by kernel_rfl) (by kernel_rfl) (by kernel_rfl) (fun _ _ _ h => h) (Or.inl ⟨by rfl, ?h115⟩) hHeld ?r115
      case h115 =>
        intro W hSw
        go_simp
        try with_reducible rfl
      case r115 =>
      try simp only [Act.put, List.setIfInBounds_toArray, List.set_cons_zero, List.set_cons_succ]
      refine wpAnyH_ready (rs := [14]) (by kernel_rfl) (by simp) ?_
      refine AllReadyH.cons (lit_get rfl) (fun K hK => ?_) AllReadyH.nil
      go_simp
      refine (CD.out _ hHeld.rb.base).mono ?_
      rintro e wq116 ⟨rfl, hb⟩
      refine hK.out _ _ ?s116 (fun hHeldN => ?n116)
      case s116 => exact hHeld.below hb
      case n116 =>
      clear hK K hHeld hb
      have hHeld := hHeldN
      clear hHeldN
      try simp only [Act.put, List.setIfInBounds_toArray, List.set_cons_zero, List.set_cons_succ]
      refine wpAnyH_take (i := 16) (v := ?v117) (lit_get rfl) (by kernel_rfl) (by kernel_rfl) (by kernel_rfl) (fun _ _ _ h => h) (Or.inl ⟨by rfl, ?h117⟩) hHeld ?r117
      case h117 =>
        intro W hSw
        go_simp
        try with_reducible rfl
      case r117 =>
      try simp only [Act.put, List.setIfInBounds_toArray, List.set_cons_zero, List.set_cons_succ]
      refine wpAnyH_take (i := 17) (v := ?v118) (lit_get rfl) (by kernel_rfl) (by kernel_rfl) (by kernel_rfl) (fun _ _ _ h => h) (Or.inl ⟨by rfl, ?h118⟩) hHeld ?r118
      case h118 =>
        intro W hSw
        go_simp
        try with_reducible rfl
      case r118 =>
      try simp only [Act.put, List.setIfInBounds_toArray, List.set_cons_zero, List.set_cons_succ]
      refine wpAnyH_done (by kernel_rfl) ?_ _
      refine NoPanic.normal ?_
      go_wp2_with fail
      go_meet
      case rel => exact ⟨rfl, Lib.hid hHeld⟩
    case rest =>
      obtain ⟨rfl, P2⟩ := hcut
      obtain ⟨c0, c1, c2, c3, c4, c5, c6, c7, c8, c9⟩ := P2.out.c.cells
      dsimp only at c0 c1 c2 c3 c4 c5 c6 c7 c8 c9
      by_cases hx0 : x.length = 0
      · rw [if_pos hx0] at hcx
        subst hcx
        have qx : ((x.length : Int) == 0) = true := by rw [beq_iff_eq]; omega
        clear hx0
        go_wp2_with fail
        refine (CC.out _ P2.out.rb.base).mono ?_
        rintro e w8 ⟨rfl, hb⟩
        clear c0 c1 c2 c3 c4 c5 c6 c7 c8 c9
        have P3 := Lib.hid (P2.out.rb.base)
        have B3 := Lib.hid (below_then P3.out hb)
        clear hb
        go_wp2_with fail
        refine (AL.out _ B3.out).mono ?_
        rintro e w9 ⟨rfl, hb⟩
        have B4 := Lib.hid (below_then B3.out hb)
        clear hb
        go_wp2_with fail
        go_ret
        exact ⟨rfl, B4.out⟩
      · rw [if_neg hx0] at hcx
        subst hcx
        have qx : ((x.length : Int) == 0) = false := by rw [beq_eq_false_iff_ne]; omega
        clear hx0
        go_wp2_with fail
        refine (CC.out _ P2.out.rb.base).mono ?_
        rintro e w8 ⟨rfl, hb⟩
        clear c0 c1 c2 c3 c4 c5 c6 c7 c8 c9
        have P3 := Lib.hid (P2.out.rb.base)
        have B3 := Lib.hid (below_then P3.out hb)
        clear hb
        go_wp2_with fail
        refine (AL.out _ B3.out).mono ?_
        rintro e w9 ⟨rfl, hb⟩
        have B4 := Lib.hid (below_then B3.out hb)
        clear hb
        go_wp2_with fail
        go_ret
        exact ⟨rfl, B4.out⟩
end Go.Proofs.YtfmobnlnedljeaaDoor.Nodes

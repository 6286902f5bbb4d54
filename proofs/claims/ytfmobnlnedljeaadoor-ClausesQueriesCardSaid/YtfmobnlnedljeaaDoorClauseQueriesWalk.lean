/-
  Walk of the statement ClausesQueries: Check and Same return what the reference does, and do not change a query.
-/
import Derived.Test.YtfmobnlnedljeaaDoorQyState
import Derived.Test.YtfmobnlnedljeaaDoorClauseCheck
import Derived.Test.YtfmobnlnedljeaaDoorRefSame
import Derived.Test.YtfmobnlnedljeaaDoorRefTwin
import Derived.Deep.RegionHeld3
import Derived.Outline
namespace Go.Proofs.YtfmobnlnedljeaaDoor.Nodes
open Go.ChangeShapes Go.WideShapes Go.ChangeAt Go.RowKit

/-- Two queries in blocks of their own. -/
def HQ2 (w : World) (m : Nat) (s : Sl) (p : Qy) (n : Nat) (t : Sl) (q : Qy) (W : World) : Prop := Below w.heap.size w W ∧ QyAt W m s p ∧ QyAt W n t q ∧ ReadsQ W s p ∧ ReadsQ W t q
theorem HQ2.below {w W W' : World} {m n : Nat} {s t : Sl} {p q : Qy} (h : HQ2 w m s p n t q W) (hb : Below W.heap.size W W') : HQ2 w m s p n t q W' := ⟨below_then h.1 hb, h.2.1.below hb, h.2.2.1.below hb, h.2.2.2.1.below hb, h.2.2.2.2.below hb⟩
def SQ2 (w : World) (m : Nat) (s : Sl) (p : Qy) (n : Nat) (t : Sl) (q : Qy) (W : World) : Prop :=
  W.cell? ⟨m, 0, none⟩ = some (.int .u8 p.agg) ∧ W.cell? ⟨m, 1, none⟩ = some (s.arg) ∧ W.cell? ⟨m, 2, none⟩ = some (s.src) ∧ W.cell? ⟨m, 3, none⟩ = some (.bool p.join) ∧ W.cell? ⟨m, 4, none⟩ = some (s.cond) ∧ W.cell? ⟨m, 5, none⟩ = some (.int .u8 p.win.kind) ∧ W.cell? ⟨m, 6, none⟩ = some (.int .i64 p.win.size) ∧ W.cell? ⟨m, 7, none⟩ = some (.int .i64 p.win.every) ∧ W.cell? ⟨m, 8, none⟩ = some (.bool p.key) ∧ W.cell? ⟨m, 9, none⟩ = some (.int .u8 p.late) ∧ W.cell? ⟨n, 0, none⟩ = some (.int .u8 q.agg) ∧ W.cell? ⟨n, 1, none⟩ = some (t.arg) ∧ W.cell? ⟨n, 2, none⟩ = some (t.src) ∧ W.cell? ⟨n, 3, none⟩ = some (.bool q.join) ∧ W.cell? ⟨n, 4, none⟩ = some (t.cond) ∧ W.cell? ⟨n, 5, none⟩ = some (.int .u8 q.win.kind) ∧ W.cell? ⟨n, 6, none⟩ = some (.int .i64 q.win.size) ∧ W.cell? ⟨n, 7, none⟩ = some (.int .i64 q.win.every) ∧ W.cell? ⟨n, 8, none⟩ = some (.bool q.key) ∧ W.cell? ⟨n, 9, none⟩ = some (.int .u8 q.late) ∧ HQ2 w m s p n t q W
theorem HQ2.cells {w W : World} {m n : Nat} {s t : Sl} {p q : Qy} (h : HQ2 w m s p n t q W) : SQ2 w m s p n t q W := by
  obtain ⟨c0, c1, c2, c3, c4, c5, c6, c7, c8, c9⟩ := h.2.1.cells
  obtain ⟨d0, d1, d2, d3, d4, d5, d6, d7, d8, d9⟩ := h.2.2.1.cells
  exact ⟨c0, c1, c2, c3, c4, c5, c6, c7, c8, c9, d0, d1, d2, d3, d4, d5, d6, d7, d8, d9, h⟩
theorem SQ2.limb {w W : World} {m n : Nat} {s t : Sl} {p q : Qy} (h : SQ2 w m s p n t q W) : HQ2 w m s p n t q W := h.2.2.2.2.2.2.2.2.2.2.2.2.2.2.2.2.2.2.2.2
theorem to_sq2 {f : FuncId} {args : Array Value} {w W : World} {m n : Nat} {s t : Sl} {p q : Qy} {v : Value} (hs : SQ2 w m s p n t q W) (h : Calls Tryd.prog f args W fun e w' => e = .returned v ∧ Below W.heap.size W w') :
    Calls Tryd.prog f args W fun e w' => e = .returned v ∧ SQ2 w m s p n t q w' := h.mono (fun _ _ h' => ⟨h'.1, (hs.limb.below h'.2).cells⟩)
set_option maxRecDepth 100000 in
set_option maxHeartbeats 8000000 in
theorem queries_walk (s t : Sl) (p q : Qy) (w : World) (hf : NameFix w) (hP : ReadsQ w s p) (hQ : ReadsQ w t q) :
    Calls Tryd.prog 5 #[qyVal s p, qyVal t q] w fun e w' => e = .returned (.bool true) ∧ Below w.heap.size w w' := by
  have S0 := Lib.hid (((SL.nil w).box w.heap.size rfl s p).box (w.heap.size + 1) (by simp) t q)
  have GP := Lib.hid (fun (W : World) (h : Below w.heap.size w W) => refGreat_any s p W (hP.below h))
  have GQ := Lib.hid (fun (W : World) (h : Below w.heap.size w W) => refGreat_any t q W (hQ.below h))
  have RP := Lib.hid hP
  have RQ := Lib.hid hQ
  have F := Lib.hid hf
  obtain ⟨sa, ss, sc⟩ := s
  obtain ⟨ta, ts, tc⟩ := t
  have h1 : ReadsN w sa p.arg := hP.arg
  have h2 : ReadsI w ss p.src := hP.src
  have h3 : ReadsN w sc p.cond := hP.cond
  have h4 : ReadsN w ta q.arg := hQ.arg
  have h5 : ReadsI w ts q.src := hQ.src
  have h6 : ReadsN w tc q.cond := hQ.cond
  obtain ⟨ada, capa, rfl⟩ := h1.shape
  obtain ⟨ads, caps, rfl⟩ := h2.shape
  obtain ⟨adc, capc, rfl⟩ := h3.shape
  obtain ⟨bda, cbpa, rfl⟩ := h4.shape
  obtain ⟨bds, cbps, rfl⟩ := h5.shape
  obtain ⟨bdc, cbpc, rfl⟩ := h6.shape
  unfold qyBox at S0
  unfold qyVal qyRow at GP GQ ⊢
  dsimp only at GP GQ S0 ⊢
  clear hP hQ hf h1 h2 h3 h4 h5 h6
  cases hg : greatQ p
  case true =>
    rw [hg] at GP
    clear hg GQ
    go_enter Tryd.func5, Tryd.ntmps5
    obtain ⟨d0, d1, d2, d3, d4, d5, d6, d7, d8, d9⟩ := S0.out.at0.cells
    obtain ⟨c0, c1, c2, c3, c4, c5, c6, c7, c8, c9⟩ := S0.out.at1.cells
    dsimp only at c1 c2 c4 d1 d2 d4
    go_wp2_with fail
    refine (GP.out _ S0.out.base).mono ?_
    rintro e w1 ⟨rfl, hb⟩
    clear c0 c1 c2 c3 c4 c5 c6 c7 c8 c9 d0 d1 d2 d3 d4 d5 d6 d7 d8 d9
    have S1 := Lib.hid (S0.out.below hb)
    obtain ⟨d0, d1, d2, d3, d4, d5, d6, d7, d8, d9⟩ := S1.out.at0.cells
    obtain ⟨c0, c1, c2, c3, c4, c5, c6, c7, c8, c9⟩ := S1.out.at1.cells
    dsimp only at c1 c2 c4 d1 d2 d4
    clear hb
    go_wp2_with fail
    go_ret
    exact ⟨rfl, S1.out.base⟩
  rw [hg] at GP
  cases hh : greatQ q
  case true =>
    rw [hh] at GQ
    clear hg hh
    go_enter Tryd.func5, Tryd.ntmps5
    obtain ⟨d0, d1, d2, d3, d4, d5, d6, d7, d8, d9⟩ := S0.out.at0.cells
    obtain ⟨c0, c1, c2, c3, c4, c5, c6, c7, c8, c9⟩ := S0.out.at1.cells
    dsimp only at c1 c2 c4 d1 d2 d4
    go_wp2_with fail
    refine (GP.out _ S0.out.base).mono ?_
    rintro e w1 ⟨rfl, hb⟩
    clear c0 c1 c2 c3 c4 c5 c6 c7 c8 c9 d0 d1 d2 d3 d4 d5 d6 d7 d8 d9
    have S1 := Lib.hid (S0.out.below hb)
    obtain ⟨d0, d1, d2, d3, d4, d5, d6, d7, d8, d9⟩ := S1.out.at0.cells
    obtain ⟨c0, c1, c2, c3, c4, c5, c6, c7, c8, c9⟩ := S1.out.at1.cells
    dsimp only at c1 c2 c4 d1 d2 d4
    clear hb
    go_wp2_with fail
    refine (GQ.out _ S1.out.base).mono ?_
    rintro e w2 ⟨rfl, hb⟩
    clear c0 c1 c2 c3 c4 c5 c6 c7 c8 c9 d0 d1 d2 d3 d4 d5 d6 d7 d8 d9
    have S2 := Lib.hid (S1.out.below hb)
    obtain ⟨d0, d1, d2, d3, d4, d5, d6, d7, d8, d9⟩ := S2.out.at0.cells
    obtain ⟨c0, c1, c2, c3, c4, c5, c6, c7, c8, c9⟩ := S2.out.at1.cells
    dsimp only at c1 c2 c4 d1 d2 d4
    clear hb
    go_wp2_with fail
    go_ret
    exact ⟨rfl, S2.out.base⟩
  rw [hh] at GQ
  obtain ⟨n1, n2, n3⟩ := great_small hg
  obtain ⟨n4, n5, n6⟩ := great_small hh
  clear hg hh
  have TW := Lib.hid (fun (W : World) (h : Below w.heap.size w W) => refTwin_any ⟨.slice ada p.arg.length capa, .slice ads p.src.length caps, .slice adc p.cond.length capc⟩ p W (RP.out.below h) (by omega) (by omega) (by omega))
  have RS := Lib.hid (fun (W : World) (h : Below w.heap.size w W) => refSameQ_any ⟨.slice ada p.arg.length capa, .slice ads p.src.length caps, .slice adc p.cond.length capc⟩ ⟨.slice bda q.arg.length cbpa, .slice bds q.src.length cbps, .slice bdc q.cond.length cbpc⟩ p q W (RP.out.below h) (RQ.out.below h) (by omega) (by omega) (by omega) (by omega) (by omega) (by omega))
  have CS := Lib.hid (fun xa ma xs ms xc mc (W : World) (h : Below w.heap.size w W) (r : ReadsQ W ⟨.slice xa p.arg.length ma, .slice xs p.src.length ms, .slice xc p.cond.length mc⟩ p) => clSame_any ⟨.slice xa p.arg.length ma, .slice xs p.src.length ms, .slice xc p.cond.length mc⟩ ⟨.slice bda q.arg.length cbpa, .slice bds q.src.length cbps, .slice bdc q.cond.length cbpc⟩ p q W (F.out.below h) r (RQ.out.below h) (by omega) (by omega) (by omega) (by omega) (by omega) (by omega))
  have CK := Lib.hid (fun xa ma xs ms xc mc m (W : World) (h : SQ2 w m ⟨.slice xa p.arg.length ma, .slice xs p.src.length ms, .slice xc p.cond.length mc⟩ p w.heap.size ⟨.slice ada p.arg.length capa, .slice ads p.src.length caps, .slice adc p.cond.length capc⟩ p W) => to_sq2 h (clCheck_any ⟨.slice xa p.arg.length ma, .slice xs p.src.length ms, .slice xc p.cond.length mc⟩ p W (F.out.below h.limb.1) h.limb.2.2.2.1 (by omega) (by omega) (by omega)))
  have RK := Lib.hid (fun xa ma xs ms xc mc m (W : World) (h : SQ2 w m ⟨.slice xa p.arg.length ma, .slice xs p.src.length ms, .slice xc p.cond.length mc⟩ p w.heap.size ⟨.slice ada p.arg.length capa, .slice ads p.src.length caps, .slice adc p.cond.length capc⟩ p W) => to_sq2 h (refCheckQ_any ⟨.slice ada p.arg.length capa, .slice ads p.src.length caps, .slice adc p.cond.length capc⟩ p W h.limb.2.2.2.2 (by omega) (by omega) (by omega)))
  have EQ := Lib.hid (fun xa ma xs ms xc mc m (W : World) (h : SQ2 w m ⟨.slice xa p.arg.length ma, .slice xs p.src.length ms, .slice xc p.cond.length mc⟩ p w.heap.size ⟨.slice ada p.arg.length capa, .slice ads p.src.length caps, .slice adc p.cond.length capc⟩ p W) => to_sq2 h (refEqualQ_any ⟨.slice xa p.arg.length ma, .slice xs p.src.length ms, .slice xc p.cond.length mc⟩ ⟨.slice ada p.arg.length capa, .slice ads p.src.length caps, .slice adc p.cond.length capc⟩ p p W h.limb.2.2.2.1 h.limb.2.2.2.2 (by omega) (by omega) (by omega)))
  rw [equalQ_refl] at EQ
  obtain ⟨x1, hx1⟩ : ∃ x, (sameQ p q).1 = x := ⟨_, rfl⟩
  obtain ⟨x2, hx2⟩ : ∃ x, (sameQ p q).2 = x := ⟨_, rfl⟩
  obtain ⟨x3, hx3⟩ : ∃ x, checkQ p = x := ⟨_, rfl⟩
  rw [hx1, hx2] at RS CS
  rw [hx3] at CK RK
  unfold TwinEnds at TW
  unfold qyVal qyRow at TW RS CS CK RK EQ
  unfold SQ2 at CK RK EQ
  dsimp only at TW RS CS CK RK EQ
  clear hx1 hx2 hx3 n1 n2 n3 n4 n5 n6
  go_enter Tryd.func5, Tryd.ntmps5
  obtain ⟨d0, d1, d2, d3, d4, d5, d6, d7, d8, d9⟩ := S0.out.at0.cells
  obtain ⟨c0, c1, c2, c3, c4, c5, c6, c7, c8, c9⟩ := S0.out.at1.cells
  dsimp only at c1 c2 c4 d1 d2 d4
  go_wp2_with fail
  refine (GP.out _ S0.out.base).mono ?_
  rintro e w1 ⟨rfl, hb⟩
  clear c0 c1 c2 c3 c4 c5 c6 c7 c8 c9 d0 d1 d2 d3 d4 d5 d6 d7 d8 d9
  have S1 := Lib.hid (S0.out.below hb)
  obtain ⟨d0, d1, d2, d3, d4, d5, d6, d7, d8, d9⟩ := S1.out.at0.cells
  obtain ⟨c0, c1, c2, c3, c4, c5, c6, c7, c8, c9⟩ := S1.out.at1.cells
  dsimp only at c1 c2 c4 d1 d2 d4
  clear hb
  go_wp2_with fail
  refine (GQ.out _ S1.out.base).mono ?_
  rintro e w2 ⟨rfl, hb⟩
  clear c0 c1 c2 c3 c4 c5 c6 c7 c8 c9 d0 d1 d2 d3 d4 d5 d6 d7 d8 d9
  have S2 := Lib.hid (S1.out.below hb)
  obtain ⟨d0, d1, d2, d3, d4, d5, d6, d7, d8, d9⟩ := S2.out.at0.cells
  obtain ⟨c0, c1, c2, c3, c4, c5, c6, c7, c8, c9⟩ := S2.out.at1.cells
  dsimp only at c1 c2 c4 d1 d2 d4
  clear hb
  go_wp2_with fail
  refine (TW.out _ S2.out.base).mono ?_
  rintro e w3 ⟨⟨ua, us, uc⟩, b2, rfl, hr, hb, ho1, ho2, ho3, _, _, _⟩
  clear c0 c1 c2 c3 c4 c5 c6 c7 c8 c9 d0 d1 d2 d3 d4 d5 d6 d7 d8 d9
  obtain ⟨xa, ma, hxa⟩ := own_shape ho1
  obtain ⟨xc, mc, hxc⟩ := own_shape ho2
  obtain ⟨xs, ms, hxs⟩ := own_shape ho3
  dsimp only at hxa hxc hxs
  subst hxa hxc hxs
  have S3 := Lib.hid (S2.out.below hb)
  have RO := Lib.hid hr
  have S4 := Lib.hid (S3.out.box w3.heap.size rfl ⟨.slice xa p.arg.length ma, .slice xs p.src.length ms, .slice xc p.cond.length mc⟩ p)
  have RO4 := Lib.hid (RO.out.below (box_below w3 (qyBox ⟨.slice xa p.arg.length ma, .slice xs p.src.length ms, .slice xc p.cond.length mc⟩ p)))
  obtain ⟨d0, d1, d2, d3, d4, d5, d6, d7, d8, d9⟩ := S3.out.at0.past
  obtain ⟨c0, c1, c2, c3, c4, c5, c6, c7, c8, c9⟩ := S3.out.at1.past
  dsimp only at c1 c2 c4 d1 d2 d4
  unfold qyBox at S4 RO4
  dsimp only at S4 RO4
  clear hb hr ho1 ho2 ho3
  go_wp2_with fail
  refine (CS.out _ _ _ _ _ _ _ S4.out.base RO4.out).mono ?_
  rintro e w5 ⟨rfl, hb⟩
  clear c0 c1 c2 c3 c4 c5 c6 c7 c8 c9 d0 d1 d2 d3 d4 d5 d6 d7 d8 d9
  have S5 := Lib.hid (S4.out.below hb)
  have RO5 := Lib.hid (RO4.out.below hb)
  obtain ⟨d0, d1, d2, d3, d4, d5, d6, d7, d8, d9⟩ := S5.out.at1.cells
  obtain ⟨c0, c1, c2, c3, c4, c5, c6, c7, c8, c9⟩ := S5.out.at2.cells
  dsimp only at c1 c2 c4 d1 d2 d4
  clear hb
  go_wp2_with fail
  refine (RS.out _ S5.out.base).mono ?_
  rintro e w6 ⟨rfl, hb⟩
  clear c0 c1 c2 c3 c4 c5 c6 c7 c8 c9 d0 d1 d2 d3 d4 d5 d6 d7 d8 d9
  have S6 := Lib.hid (S5.out.below hb)
  have RO6 := Lib.hid (RO5.out.below hb)
  clear hb
  obtain ⟨mm, hmm⟩ : ∃ m, w3.heap.size = m := ⟨_, rfl⟩
  rw [hmm] at S6 ⊢
  have HX : HQ2 w mm ⟨.slice xa p.arg.length ma, .slice xs p.src.length ms, .slice xc p.cond.length mc⟩ p w.heap.size ⟨.slice ada p.arg.length capa, .slice ads p.src.length caps, .slice adc p.cond.length capc⟩ p w6 := ⟨S6.out.base, S6.out.at0, S6.out.at2, RO6.out, RP.out.below S6.out.base⟩
  have CX := HX.cells
  unfold SQ2 at CX
  dsimp only at CX
  obtain ⟨g0, g1, g2, g3, g4, g5, g6, g7, g8, g9, g10, g11, g12, g13, g14, g15, g16, g17, g18, g19, g20⟩ := CX
  have HXD : ∀ W, HQ2 w mm ⟨.slice xa p.arg.length ma, .slice xs p.src.length ms, .slice xc p.cond.length mc⟩ p w.heap.size ⟨.slice ada p.arg.length capa, .slice ads p.src.length caps, .slice adc p.cond.length capc⟩ p W → HQ2 w mm ⟨.slice xa p.arg.length ma, .slice xs p.src.length ms, .slice xc p.cond.length mc⟩ p w.heap.size ⟨.slice ada p.arg.length capa, .slice ads p.src.length caps, .slice adc p.cond.length capc⟩ p W.drew := fun W h => h.below (Below.drew (Below.refl _ _))
  have q1 : (x1 == x1) = true := by simp
  have q2 : (x2 == x2) = true := by simp
  have q3 : (x3 == x3) = true := by simp
  clear HX hmm
  go_wp2_with fail
  go_region_held3 (fun W => W.cell? ⟨mm, 0, none⟩ = some (.int .u8 p.agg) ∧ W.cell? ⟨mm, 1, none⟩ = some (.slice xa p.arg.length ma) ∧ W.cell? ⟨mm, 2, none⟩ = some (.slice xs p.src.length ms) ∧ W.cell? ⟨mm, 3, none⟩ = some (.bool p.join) ∧ W.cell? ⟨mm, 4, none⟩ = some (.slice xc p.cond.length mc) ∧ W.cell? ⟨mm, 5, none⟩ = some (.int .u8 p.win.kind) ∧ W.cell? ⟨mm, 6, none⟩ = some (.int .i64 p.win.size) ∧ W.cell? ⟨mm, 7, none⟩ = some (.int .i64 p.win.every) ∧ W.cell? ⟨mm, 8, none⟩ = some (.bool p.key) ∧ W.cell? ⟨mm, 9, none⟩ = some (.int .u8 p.late) ∧ W.cell? ⟨w.heap.size, 0, none⟩ = some (.int .u8 p.agg) ∧ W.cell? ⟨w.heap.size, 1, none⟩ = some (.slice ada p.arg.length capa) ∧ W.cell? ⟨w.heap.size, 2, none⟩ = some (.slice ads p.src.length caps) ∧ W.cell? ⟨w.heap.size, 3, none⟩ = some (.bool p.join) ∧ W.cell? ⟨w.heap.size, 4, none⟩ = some (.slice adc p.cond.length capc) ∧ W.cell? ⟨w.heap.size, 5, none⟩ = some (.int .u8 p.win.kind) ∧ W.cell? ⟨w.heap.size, 6, none⟩ = some (.int .i64 p.win.size) ∧ W.cell? ⟨w.heap.size, 7, none⟩ = some (.int .i64 p.win.every) ∧ W.cell? ⟨w.heap.size, 8, none⟩ = some (.bool p.key) ∧ W.cell? ⟨w.heap.size, 9, none⟩ = some (.int .u8 p.late) ∧ HQ2 w mm ⟨.slice xa p.arg.length ma, .slice xs p.src.length ms, .slice xc p.cond.length mc⟩ p w.heap.size ⟨.slice ada p.arg.length capa, .slice ads p.src.length caps, .slice adc p.cond.length capc⟩ p W) (go_keep) (first
    | (go_at_call 15; refine (CK.out xa ma xs ms xc mc mm _ ⟨?_, ?_, ?_, ?_, ?_, ?_, ?_, ?_, ?_, ?_, ?_, ?_, ?_, ?_, ?_, ?_, ?_, ?_, ?_, ?_, ?_⟩).mono ?_; (simp [*]); (simp [*]); (simp [*]); (simp [*]); (simp [*]); (simp [*]); (simp [*]); (simp [*]); (simp [*]); (simp [*]); (simp [*]); (simp [*]); (simp [*]); (simp [*]); (simp [*]); (simp [*]); (simp [*]); (simp [*]); (simp [*]); (simp [*]); (simp [*]); rintro e w7 ⟨rfl, g0, g1, g2, g3, g4, g5, g6, g7, g8, g9, g10, g11, g12, g13, g14, g15, g16, g17, g18, g19, g20⟩)
    | (go_at_call 26; refine (RK.out xa ma xs ms xc mc mm _ ⟨?_, ?_, ?_, ?_, ?_, ?_, ?_, ?_, ?_, ?_, ?_, ?_, ?_, ?_, ?_, ?_, ?_, ?_, ?_, ?_, ?_⟩).mono ?_; (simp [*]); (simp [*]); (simp [*]); (simp [*]); (simp [*]); (simp [*]); (simp [*]); (simp [*]); (simp [*]); (simp [*]); (simp [*]); (simp [*]); (simp [*]); (simp [*]); (simp [*]); (simp [*]); (simp [*]); (simp [*]); (simp [*]); (simp [*]); (simp [*]); rintro e w7 ⟨rfl, g0, g1, g2, g3, g4, g5, g6, g7, g8, g9, g10, g11, g12, g13, g14, g15, g16, g17, g18, g19, g20⟩)
    | (go_at_call 27; refine (EQ.out xa ma xs ms xc mc mm _ ⟨?_, ?_, ?_, ?_, ?_, ?_, ?_, ?_, ?_, ?_, ?_, ?_, ?_, ?_, ?_, ?_, ?_, ?_, ?_, ?_, ?_⟩).mono ?_; (simp [*]); (simp [*]); (simp [*]); (simp [*]); (simp [*]); (simp [*]); (simp [*]); (simp [*]); (simp [*]); (simp [*]); (simp [*]); (simp [*]); (simp [*]); (simp [*]); (simp [*]); (simp [*]); (simp [*]); (simp [*]); (simp [*]); (simp [*]); (simp [*]); rintro e w7 ⟨rfl, g0, g1, g2, g3, g4, g5, g6, g7, g8, g9, g10, g11, g12, g13, g14, g15, g16, g17, g18, g19, g20⟩))
  go_wp2_with fail
  go_ret
  exact ⟨rfl, (‹HQ2 w mm _ _ _ _ _ _›).1⟩
end Go.Proofs.YtfmobnlnedljeaaDoor.Nodes

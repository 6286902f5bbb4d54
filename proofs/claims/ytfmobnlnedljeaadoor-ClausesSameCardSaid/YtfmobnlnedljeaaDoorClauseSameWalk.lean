/-
  Walk of the statement ClausesSame: being the same is so in both directions, does not look at where nodes stand; a query with something else in a part is another one.
-/
import Derived.Test.YtfmobnlnedljeaaDoorQyState
import Derived.Test.YtfmobnlnedljeaaDoorClauseCheck
import Derived.Test.YtfmobnlnedljeaaDoorRefSame
import Derived.Test.YtfmobnlnedljeaaDoorRefTwin
import Derived.Test.YtfmobnlnedljeaaDoorNodeCells
import Derived.RegionTactic
import Derived.BigRegion
import Derived.Outline
namespace Go.Proofs.YtfmobnlnedljeaaDoor.Nodes
open Go.ChangeShapes Go.WideShapes Go.ChangeAt Go.RowKit

theorem own_some {w : World} {base n size c : Nat} {e : TypeId} {x : Option Addr} {xs : List Value} (h : w.ownsRow base e size (.slice x n c) n xs) (hn : 0 < n) : ∃ g, x = some ⟨g, 0, none⟩ := by
  rcases h.2 with ⟨h1, h0⟩ | ⟨g, cap, cur, h1, _⟩
  · omega
  · injection h1 with h2 _ _
    exact ⟨g, h2⟩
theorem own_below8 {w w' : World} {base n size : Nat} {e : TypeId} {v : Value} {xs : List Value} (h : w.ownsRow base e size v n xs) (hb : Below w.heap.size w w') : w'.ownsRow base e size v n xs := by
  refine ⟨h.1, h.2.imp id ?_⟩
  rintro ⟨g, cap, cur, h1, h2, h3, h4⟩
  exact ⟨g, cap, cur, h1, h2, (hb.block _ (Array.getElem?_eq_some_iff.1 h3).1).trans h3, h4⟩
/-- A copy of a query in a block of its own, whose nodes are being moved, beside two queries. -/
structure MV (w : World) (s : Sl) (p : Qy) (t : Sl) (q : Qy) (m ba bc : Nat) (u : Sl) (A C : List Nd) (W : World) : Prop where
  base : Below w.heap.size w W
  one : QyAt W w.heap.size s p
  two : QyAt W (w.heap.size + 1) t q
  mv : QyAt W m u p
  oa : W.ownsRow ba 35 5 u.arg p.arg.length (rowN A)
  oc : W.ownsRow bc 35 5 u.cond p.cond.length (rowN C)
  os : W.ownsRow bc 3 1 u.src p.src.length (rowI p.src)
  r1 : w.heap.size + 1 < ba
  r2 : ba ≤ bc
  r3 : ∀ k, u.arg.ownBlock = some k → k < bc
  r4 : ∀ k, u.src.ownBlock = some k → ∀ j, u.cond.ownBlock = some j → j < k
  r5 : ∀ k, u.arg.ownBlock = some k ∨ u.cond.ownBlock = some k ∨ u.src.ownBlock = some k → k < m
theorem MV.setC {w W : World} {s t u : Sl} {p q : Qy} {m ba bc : Nat} {A C : List Nd} (h : MV w s p t q m ba bc u A C W) {g c : Nat} (hu : u.cond = .slice (some ⟨g, 0, none⟩) p.cond.length c) {i : Nat} (hi : i < C.length) (at_ : Int) :
    MV w s p t q m ba bc u A (C.set i ⟨C[i].kind, C[i].n, C[i].a, C[i].b, at_⟩) (W.setCell ⟨g, i * 5 + 4, none⟩ (.int .i64 at_)) := by
  have hg : u.cond.ownBlock = some g := by rw [hu]; rfl
  have h1 := (h.oc.lt _ hg).1
  have h2 := h.r5 g (.inr (.inl hg))
  have hr1 := h.r1
  have hr2 := h.r2
  have hoc := h.oc
  rw [hu] at hoc
  have hst := (hoc.stored (i * 5 + 4) (.int .i64 at_)).1
  rw [rowN_set C i hi 4 (by decide) (.int .i64 at_) ⟨C[i].kind, C[i].n, C[i].a, C[i].b, at_⟩ rfl] at hst
  refine ⟨h.base.setCell (by show w.heap.size ≤ g; omega) _, h.one.far (by omega) _ _, h.two.far (by omega) _ _, h.mv.far (by omega) _ _, own_set h.oa ?_ _ _, by rw [hu]; exact hst, own_set h.os ?_ _ _, h.r1, h.r2, h.r3, h.r4, h.r5⟩
  · intro e
    have := h.r3 _ e
    omega
  · intro e
    have := h.r4 _ e _ hg
    omega
theorem MV.setA {w W : World} {s t u : Sl} {p q : Qy} {m ba bc : Nat} {A C : List Nd} (h : MV w s p t q m ba bc u A C W) {g c : Nat} (hu : u.arg = .slice (some ⟨g, 0, none⟩) p.arg.length c) {i : Nat} (hi : i < A.length) (at_ : Int) :
    MV w s p t q m ba bc u (A.set i ⟨A[i].kind, A[i].n, A[i].a, A[i].b, at_⟩) C (W.setCell ⟨g, i * 5 + 4, none⟩ (.int .i64 at_)) := by
  have hg : u.arg.ownBlock = some g := by rw [hu]; rfl
  have h1 := (h.oa.lt _ hg).1
  have h2 := h.r5 g (.inl hg)
  have h3 := h.r3 g hg
  have hr1 := h.r1
  have hr2 := h.r2
  have hoa := h.oa
  rw [hu] at hoa
  have hst := (hoa.stored (i * 5 + 4) (.int .i64 at_)).1
  rw [rowN_set A i hi 4 (by decide) (.int .i64 at_) ⟨A[i].kind, A[i].n, A[i].a, A[i].b, at_⟩ rfl] at hst
  refine ⟨h.base.setCell (by show w.heap.size ≤ g; omega) _, h.one.far (by omega) _ _, h.two.far (by omega) _ _, h.mv.far (by omega) _ _, by rw [hu]; exact hst, own_set h.oc ?_ _ _, own_set h.os ?_ _ _, h.r1, h.r2, h.r3, h.r4, h.r5⟩
  · intro e
    have := (h.oc.lt _ e).1
    omega
  · intro e
    have := (h.os.lt _ e).1
    omega
theorem mv_start {w W : World} {s t u : Sl} {p q : Qy} {bb b2 : Nat} (h1 : SL w W [(w.heap.size + 1, t, q), (w.heap.size, s, p)]) (oa : W.ownsRow bb 35 5 u.arg p.arg.length (rowN p.arg)) (oc : W.ownsRow b2 35 5 u.cond p.cond.length (rowN p.cond)) (os : W.ownsRow b2 3 1 u.src p.src.length (rowI p.src))
    (r1 : w.heap.size + 1 < bb) (r2 : bb ≤ b2) (r3 : ∀ k, u.arg.ownBlock = some k → k < b2) (r4 : ∀ k, u.src.ownBlock = some k → ∀ j, u.cond.ownBlock = some j → j < k) : MV w s p t q W.heap.size bb b2 u p.arg p.cond (W.alloc (qyBox u p)) := by
  have hb := box_below W (qyBox u p)
  refine ⟨h1.base.alloc h1.base.size _, h1.at1.below hb, h1.at0.below hb, qy_at W u p, own_below8 oa hb, own_below8 oc hb, own_below8 os hb, r1, r2, r3, r4, ?_⟩
  rintro k (h | h | h)
  · exact (oa.lt _ h).2
  · exact (oc.lt _ h).2
  · exact (os.lt _ h).2
theorem MV.reads {w W : World} {s t u : Sl} {p q : Qy} {m ba bc : Nat} {at_ : Int} (h : MV w s p t q m ba bc u (moveL at_ p.arg) (moveL at_ p.cond) W) : ReadsQ W u (movedQ at_ p) := by
  refine ⟨own_readsN (base := ba) (l := moveL at_ p.arg) ?_, own_readsI h.os, own_readsN (base := bc) (l := moveL at_ p.cond) ?_⟩
  · rw [move_len]; exact h.oa
  · rw [move_len]; exact h.oc
theorem late_wrap {p : Qy} (h : checkQ p = 0) : IntKind.u8.wrap (3 - p.late) = 3 - p.late := by
  have := of_decide_eq_true (checkQ_ok.1 h).1
  rcases (show p.late = 1 ∨ p.late = 2 by omega) with h1 | h1 <;> rw [h1] <;> rfl
theorem SL.drew {w W : World} {L : List (Nat × Sl × Qy)} (h : SL w W L) : SL w W.drew L := h.below (Below.drew (Below.refl _ _))
/-- A query's cells behind two allocations. -/
theorem QyAt.past2 {w : World} {b : Nat} {s : Sl} {q : Qy} (h : QyAt w b s q) (o o2 : Obj) : QyAt ((w.alloc o).alloc o2) b s q := (h.below (box_below _ _)).below (box_below _ _)
theorem QyAt.past2c {w : World} {b : Nat} {s : Sl} {q : Qy} (h : QyAt w b s q) : (∀ o o2, ((w.alloc o).alloc o2).cell? ⟨b, 0, none⟩ = some (.int .u8 q.agg)) ∧ (∀ o o2, ((w.alloc o).alloc o2).cell? ⟨b, 1, none⟩ = some (s.arg)) ∧ (∀ o o2, ((w.alloc o).alloc o2).cell? ⟨b, 2, none⟩ = some (s.src)) ∧ (∀ o o2, ((w.alloc o).alloc o2).cell? ⟨b, 3, none⟩ = some (.bool q.join)) ∧ (∀ o o2, ((w.alloc o).alloc o2).cell? ⟨b, 4, none⟩ = some (s.cond)) ∧ (∀ o o2, ((w.alloc o).alloc o2).cell? ⟨b, 5, none⟩ = some (.int .u8 q.win.kind)) ∧ (∀ o o2, ((w.alloc o).alloc o2).cell? ⟨b, 6, none⟩ = some (.int .i64 q.win.size)) ∧ (∀ o o2, ((w.alloc o).alloc o2).cell? ⟨b, 7, none⟩ = some (.int .i64 q.win.every)) ∧ (∀ o o2, ((w.alloc o).alloc o2).cell? ⟨b, 8, none⟩ = some (.bool q.key)) ∧ (∀ o o2, ((w.alloc o).alloc o2).cell? ⟨b, 9, none⟩ = some (.int .u8 q.late)) :=
  ⟨fun o o2 => (h.past2 o o2).cells.1, fun o o2 => (h.past2 o o2).cells.2.1, fun o o2 => (h.past2 o o2).cells.2.2.1, fun o o2 => (h.past2 o o2).cells.2.2.2.1, fun o o2 => (h.past2 o o2).cells.2.2.2.2.1, fun o o2 => (h.past2 o o2).cells.2.2.2.2.2.1, fun o o2 => (h.past2 o o2).cells.2.2.2.2.2.2.1, fun o o2 => (h.past2 o o2).cells.2.2.2.2.2.2.2.1, fun o o2 => (h.past2 o o2).cells.2.2.2.2.2.2.2.2.1, fun o o2 => (h.past2 o o2).cells.2.2.2.2.2.2.2.2.2⟩
set_option maxRecDepth 100000 in
set_option maxHeartbeats 8000000 in
theorem same8_walk (s t : Sl) (p q : Qy) (at_ : Int) (w : World) (hf : NameFix w) (hP : ReadsQ w s p) (hQ : ReadsQ w t q) (hat : at_ ≤ 9223372036854775807) :
    Calls Tryd.prog 9 #[qyVal s p, qyVal t q, .int .i64 at_] w fun e w' => e = .returned (.bool true) ∧ Below w.heap.size w w' := by
  have S0 := Lib.hid (((SL.nil w).box w.heap.size rfl s p).box (w.heap.size + 1) (by simp) t q)
  have AL := Lib.hid (fun (W : World) (h : Below w.heap.size w W) => alive8_any W (hf.below h))
  have GP := Lib.hid (fun (W : World) (h : Below w.heap.size w W) => refGreat_any s p W (hP.below h))
  have GQ := Lib.hid (fun (W : World) (h : Below w.heap.size w W) => refGreat_any t q W (hQ.below h))
  have RP := Lib.hid hP
  have RQ := Lib.hid hQ
  have F := Lib.hid hf
  obtain ⟨sa, ss, sc⟩ := s
  obtain ⟨ta, ts, tc⟩ := t
  have h1 : ReadsN w sa p.arg := hP.arg
  have h2 : ReadsI w ss p.src := hP.src
  have h3 : ReadsN w sc p.cond := hP.cond
  have h4 : ReadsN w ta q.arg := hQ.arg
  have h5 : ReadsI w ts q.src := hQ.src
  have h6 : ReadsN w tc q.cond := hQ.cond
  obtain ⟨ada, capa, rfl⟩ := h1.shape
  obtain ⟨ads, caps, rfl⟩ := h2.shape
  obtain ⟨adc, capc, rfl⟩ := h3.shape
  obtain ⟨bda, cbpa, rfl⟩ := h4.shape
  obtain ⟨bds, cbps, rfl⟩ := h5.shape
  obtain ⟨bdc, cbpc, rfl⟩ := h6.shape
  unfold qyBox at S0
  unfold qyVal qyRow at GP GQ ⊢
  dsimp only at GP GQ S0 ⊢
  clear hP hQ hf h1 h2 h3 h4 h5 h6
  cases hg : greatQ p
  case true =>
    rw [hg] at GP
    clear hg GQ
    go_enter Tryd.func9, Tryd.ntmps9
    obtain ⟨d0, d1, d2, d3, d4, d5, d6, d7, d8, d9⟩ := S0.out.at0.cells
    obtain ⟨c0, c1, c2, c3, c4, c5, c6, c7, c8, c9⟩ := S0.out.at1.cells
    dsimp only at c1 c2 c4 d1 d2 d4
    go_wp2_with fail
    refine (GP.out _ S0.out.base).mono ?_
    rintro e w1 ⟨rfl, hb⟩
    clear c0 c1 c2 c3 c4 c5 c6 c7 c8 c9 d0 d1 d2 d3 d4 d5 d6 d7 d8 d9
    have S1 := Lib.hid (S0.out.below hb)
    obtain ⟨d0, d1, d2, d3, d4, d5, d6, d7, d8, d9⟩ := S1.out.at0.cells
    obtain ⟨c0, c1, c2, c3, c4, c5, c6, c7, c8, c9⟩ := S1.out.at1.cells
    dsimp only at c1 c2 c4 d1 d2 d4
    clear hb
    go_wp2_with fail
    refine (AL.out _ S1.out.base).mono ?_
    rintro e w2 ⟨rfl, hb⟩
    clear c0 c1 c2 c3 c4 c5 c6 c7 c8 c9 d0 d1 d2 d3 d4 d5 d6 d7 d8 d9
    have S2 := Lib.hid (S1.out.below hb)
    clear hb
    go_wp2_with fail
    go_ret
    exact ⟨rfl, S2.out.base⟩
  rw [hg] at GP
  cases hh : greatQ q
  case true =>
    rw [hh] at GQ
    clear hg hh
    go_enter Tryd.func9, Tryd.ntmps9
    obtain ⟨d0, d1, d2, d3, d4, d5, d6, d7, d8, d9⟩ := S0.out.at0.cells
    obtain ⟨c0, c1, c2, c3, c4, c5, c6, c7, c8, c9⟩ := S0.out.at1.cells
    dsimp only at c1 c2 c4 d1 d2 d4
    go_wp2_with fail
    refine (GP.out _ S0.out.base).mono ?_
    rintro e w1 ⟨rfl, hb⟩
    clear c0 c1 c2 c3 c4 c5 c6 c7 c8 c9 d0 d1 d2 d3 d4 d5 d6 d7 d8 d9
    have S1 := Lib.hid (S0.out.below hb)
    obtain ⟨d0, d1, d2, d3, d4, d5, d6, d7, d8, d9⟩ := S1.out.at0.cells
    obtain ⟨c0, c1, c2, c3, c4, c5, c6, c7, c8, c9⟩ := S1.out.at1.cells
    dsimp only at c1 c2 c4 d1 d2 d4
    clear hb
    go_wp2_with fail
    refine (GQ.out _ S1.out.base).mono ?_
    rintro e w2 ⟨rfl, hb⟩
    clear c0 c1 c2 c3 c4 c5 c6 c7 c8 c9 d0 d1 d2 d3 d4 d5 d6 d7 d8 d9
    have S2 := Lib.hid (S1.out.below hb)
    obtain ⟨d0, d1, d2, d3, d4, d5, d6, d7, d8, d9⟩ := S2.out.at0.cells
    obtain ⟨c0, c1, c2, c3, c4, c5, c6, c7, c8, c9⟩ := S2.out.at1.cells
    dsimp only at c1 c2 c4 d1 d2 d4
    clear hb
    go_wp2_with fail
    refine (AL.out _ S2.out.base).mono ?_
    rintro e w3 ⟨rfl, hb⟩
    clear c0 c1 c2 c3 c4 c5 c6 c7 c8 c9 d0 d1 d2 d3 d4 d5 d6 d7 d8 d9
    have S3 := Lib.hid (S2.out.below hb)
    clear hb
    go_wp2_with fail
    go_ret
    exact ⟨rfl, S3.out.base⟩
  rw [hh] at GQ
  obtain ⟨n1, n2, n3⟩ := great_small hg
  obtain ⟨n4, n5, n6⟩ := great_small hh
  clear hg hh
  have KP := Lib.hid (fun (W : World) (h : Below w.heap.size w W) => refCheckQ_any ⟨.slice ada p.arg.length capa, .slice ads p.src.length caps, .slice adc p.cond.length capc⟩ p W (RP.out.below h) (by omega) (by omega) (by omega))
  have KQ := Lib.hid (fun (W : World) (h : Below w.heap.size w W) => refCheckQ_any ⟨.slice bda q.arg.length cbpa, .slice bds q.src.length cbps, .slice bdc q.cond.length cbpc⟩ q W (RQ.out.below h) (by omega) (by omega) (by omega))
  unfold qyVal qyRow at KP KQ
  dsimp only at KP KQ
  by_cases hp : checkQ p = 0
  case neg =>
    obtain ⟨e0, he⟩ : ∃ e, checkQ p = e := ⟨_, rfl⟩
    rw [he] at KP hp
    have qz : (e0 != 0) = true := by rw [bne_iff_ne]; exact hp
    clear he hp n1 n2 n3 n4 n5 n6
    go_enter Tryd.func9, Tryd.ntmps9
    obtain ⟨d0, d1, d2, d3, d4, d5, d6, d7, d8, d9⟩ := S0.out.at0.cells
    obtain ⟨c0, c1, c2, c3, c4, c5, c6, c7, c8, c9⟩ := S0.out.at1.cells
    dsimp only at c1 c2 c4 d1 d2 d4
    go_wp2_with fail
    refine (GP.out _ S0.out.base).mono ?_
    rintro e w1 ⟨rfl, hb⟩
    clear c0 c1 c2 c3 c4 c5 c6 c7 c8 c9 d0 d1 d2 d3 d4 d5 d6 d7 d8 d9
    have S1 := Lib.hid (S0.out.below hb)
    obtain ⟨d0, d1, d2, d3, d4, d5, d6, d7, d8, d9⟩ := S1.out.at0.cells
    obtain ⟨c0, c1, c2, c3, c4, c5, c6, c7, c8, c9⟩ := S1.out.at1.cells
    dsimp only at c1 c2 c4 d1 d2 d4
    clear hb
    go_wp2_with fail
    refine (GQ.out _ S1.out.base).mono ?_
    rintro e w2 ⟨rfl, hb⟩
    clear c0 c1 c2 c3 c4 c5 c6 c7 c8 c9 d0 d1 d2 d3 d4 d5 d6 d7 d8 d9
    have S2 := Lib.hid (S1.out.below hb)
    obtain ⟨d0, d1, d2, d3, d4, d5, d6, d7, d8, d9⟩ := S2.out.at0.cells
    obtain ⟨c0, c1, c2, c3, c4, c5, c6, c7, c8, c9⟩ := S2.out.at1.cells
    dsimp only at c1 c2 c4 d1 d2 d4
    clear hb
    go_wp2_with fail
    refine (KP.out _ S2.out.base).mono ?_
    rintro e w3 ⟨rfl, hb⟩
    clear c0 c1 c2 c3 c4 c5 c6 c7 c8 c9 d0 d1 d2 d3 d4 d5 d6 d7 d8 d9
    have S3 := Lib.hid (S2.out.below hb)
    obtain ⟨d0, d1, d2, d3, d4, d5, d6, d7, d8, d9⟩ := S3.out.at0.cells
    obtain ⟨c0, c1, c2, c3, c4, c5, c6, c7, c8, c9⟩ := S3.out.at1.cells
    dsimp only at c1 c2 c4 d1 d2 d4
    clear hb
    go_wp2_with fail
    refine (AL.out _ S3.out.base).mono ?_
    rintro e w4 ⟨rfl, hb⟩
    clear c0 c1 c2 c3 c4 c5 c6 c7 c8 c9 d0 d1 d2 d3 d4 d5 d6 d7 d8 d9
    have S4 := Lib.hid (S3.out.below hb)
    clear hb
    go_wp2_with fail
    go_ret
    exact ⟨rfl, S4.out.base⟩
  rw [hp] at KP
  by_cases hq : checkQ q = 0
  case neg =>
    obtain ⟨e0, he⟩ : ∃ e, checkQ q = e := ⟨_, rfl⟩
    rw [he] at KQ hq
    have qz : (e0 != 0) = true := by rw [bne_iff_ne]; exact hq
    clear he hq hp n1 n2 n3 n4 n5 n6
    go_enter Tryd.func9, Tryd.ntmps9
    obtain ⟨d0, d1, d2, d3, d4, d5, d6, d7, d8, d9⟩ := S0.out.at0.cells
    obtain ⟨c0, c1, c2, c3, c4, c5, c6, c7, c8, c9⟩ := S0.out.at1.cells
    dsimp only at c1 c2 c4 d1 d2 d4
    go_wp2_with fail
    refine (GP.out _ S0.out.base).mono ?_
    rintro e w1 ⟨rfl, hb⟩
    clear c0 c1 c2 c3 c4 c5 c6 c7 c8 c9 d0 d1 d2 d3 d4 d5 d6 d7 d8 d9
    have S1 := Lib.hid (S0.out.below hb)
    obtain ⟨d0, d1, d2, d3, d4, d5, d6, d7, d8, d9⟩ := S1.out.at0.cells
    obtain ⟨c0, c1, c2, c3, c4, c5, c6, c7, c8, c9⟩ := S1.out.at1.cells
    dsimp only at c1 c2 c4 d1 d2 d4
    clear hb
    go_wp2_with fail
    refine (GQ.out _ S1.out.base).mono ?_
    rintro e w2 ⟨rfl, hb⟩
    clear c0 c1 c2 c3 c4 c5 c6 c7 c8 c9 d0 d1 d2 d3 d4 d5 d6 d7 d8 d9
    have S2 := Lib.hid (S1.out.below hb)
    obtain ⟨d0, d1, d2, d3, d4, d5, d6, d7, d8, d9⟩ := S2.out.at0.cells
    obtain ⟨c0, c1, c2, c3, c4, c5, c6, c7, c8, c9⟩ := S2.out.at1.cells
    dsimp only at c1 c2 c4 d1 d2 d4
    clear hb
    go_wp2_with fail
    refine (KP.out _ S2.out.base).mono ?_
    rintro e w3 ⟨rfl, hb⟩
    clear c0 c1 c2 c3 c4 c5 c6 c7 c8 c9 d0 d1 d2 d3 d4 d5 d6 d7 d8 d9
    have S3 := Lib.hid (S2.out.below hb)
    obtain ⟨d0, d1, d2, d3, d4, d5, d6, d7, d8, d9⟩ := S3.out.at0.cells
    obtain ⟨c0, c1, c2, c3, c4, c5, c6, c7, c8, c9⟩ := S3.out.at1.cells
    dsimp only at c1 c2 c4 d1 d2 d4
    clear hb
    go_wp2_with fail
    refine (KQ.out _ S3.out.base).mono ?_
    rintro e w4 ⟨rfl, hb⟩
    clear c0 c1 c2 c3 c4 c5 c6 c7 c8 c9 d0 d1 d2 d3 d4 d5 d6 d7 d8 d9
    have S4 := Lib.hid (S3.out.below hb)
    obtain ⟨d0, d1, d2, d3, d4, d5, d6, d7, d8, d9⟩ := S4.out.at0.cells
    obtain ⟨c0, c1, c2, c3, c4, c5, c6, c7, c8, c9⟩ := S4.out.at1.cells
    dsimp only at c1 c2 c4 d1 d2 d4
    clear hb
    go_wp2_with fail
    refine (AL.out _ S4.out.base).mono ?_
    rintro e w5 ⟨rfl, hb⟩
    clear c0 c1 c2 c3 c4 c5 c6 c7 c8 c9 d0 d1 d2 d3 d4 d5 d6 d7 d8 d9
    have S5 := Lib.hid (S4.out.below hb)
    clear hb
    go_wp2_with fail
    go_ret
    exact ⟨rfl, S5.out.base⟩
  rw [hq] at KQ
  by_cases h0 : at_ < 0
  case pos =>
    have hd : decide (at_ < 0) = true := decide_eq_true h0
    clear hp hq n1 n2 n3 n4 n5 n6
    go_enter Tryd.func9, Tryd.ntmps9
    obtain ⟨d0, d1, d2, d3, d4, d5, d6, d7, d8, d9⟩ := S0.out.at0.cells
    obtain ⟨c0, c1, c2, c3, c4, c5, c6, c7, c8, c9⟩ := S0.out.at1.cells
    dsimp only at c1 c2 c4 d1 d2 d4
    go_wp2_with fail
    refine (GP.out _ S0.out.base).mono ?_
    rintro e w1 ⟨rfl, hb⟩
    clear c0 c1 c2 c3 c4 c5 c6 c7 c8 c9 d0 d1 d2 d3 d4 d5 d6 d7 d8 d9
    have S1 := Lib.hid (S0.out.below hb)
    obtain ⟨d0, d1, d2, d3, d4, d5, d6, d7, d8, d9⟩ := S1.out.at0.cells
    obtain ⟨c0, c1, c2, c3, c4, c5, c6, c7, c8, c9⟩ := S1.out.at1.cells
    dsimp only at c1 c2 c4 d1 d2 d4
    clear hb
    go_wp2_with fail
    refine (GQ.out _ S1.out.base).mono ?_
    rintro e w2 ⟨rfl, hb⟩
    clear c0 c1 c2 c3 c4 c5 c6 c7 c8 c9 d0 d1 d2 d3 d4 d5 d6 d7 d8 d9
    have S2 := Lib.hid (S1.out.below hb)
    obtain ⟨d0, d1, d2, d3, d4, d5, d6, d7, d8, d9⟩ := S2.out.at0.cells
    obtain ⟨c0, c1, c2, c3, c4, c5, c6, c7, c8, c9⟩ := S2.out.at1.cells
    dsimp only at c1 c2 c4 d1 d2 d4
    clear hb
    go_wp2_with fail
    refine (KP.out _ S2.out.base).mono ?_
    rintro e w3 ⟨rfl, hb⟩
    clear c0 c1 c2 c3 c4 c5 c6 c7 c8 c9 d0 d1 d2 d3 d4 d5 d6 d7 d8 d9
    have S3 := Lib.hid (S2.out.below hb)
    obtain ⟨d0, d1, d2, d3, d4, d5, d6, d7, d8, d9⟩ := S3.out.at0.cells
    obtain ⟨c0, c1, c2, c3, c4, c5, c6, c7, c8, c9⟩ := S3.out.at1.cells
    dsimp only at c1 c2 c4 d1 d2 d4
    clear hb
    go_wp2_with fail
    refine (KQ.out _ S3.out.base).mono ?_
    rintro e w4 ⟨rfl, hb⟩
    clear c0 c1 c2 c3 c4 c5 c6 c7 c8 c9 d0 d1 d2 d3 d4 d5 d6 d7 d8 d9
    have S4 := Lib.hid (S3.out.below hb)
    obtain ⟨d0, d1, d2, d3, d4, d5, d6, d7, d8, d9⟩ := S4.out.at0.cells
    obtain ⟨c0, c1, c2, c3, c4, c5, c6, c7, c8, c9⟩ := S4.out.at1.cells
    dsimp only at c1 c2 c4 d1 d2 d4
    clear hb
    go_wp2_with fail
    refine (AL.out _ S4.out.base).mono ?_
    rintro e w5 ⟨rfl, hb⟩
    clear c0 c1 c2 c3 c4 c5 c6 c7 c8 c9 d0 d1 d2 d3 d4 d5 d6 d7 d8 d9
    have S5 := Lib.hid (S4.out.below hb)
    clear hb
    go_wp2_with fail
    go_ret
    exact ⟨rfl, S5.out.base⟩
  have hd0 : decide (at_ < 0) = false := decide_eq_false h0
  by_cases h4 : 400 < at_
  case pos =>
    have hd : decide (400 < at_) = true := decide_eq_true h4
    clear hp hq n1 n2 n3 n4 n5 n6
    go_enter Tryd.func9, Tryd.ntmps9
    obtain ⟨d0, d1, d2, d3, d4, d5, d6, d7, d8, d9⟩ := S0.out.at0.cells
    obtain ⟨c0, c1, c2, c3, c4, c5, c6, c7, c8, c9⟩ := S0.out.at1.cells
    dsimp only at c1 c2 c4 d1 d2 d4
    go_wp2_with fail
    refine (GP.out _ S0.out.base).mono ?_
    rintro e w1 ⟨rfl, hb⟩
    clear c0 c1 c2 c3 c4 c5 c6 c7 c8 c9 d0 d1 d2 d3 d4 d5 d6 d7 d8 d9
    have S1 := Lib.hid (S0.out.below hb)
    obtain ⟨d0, d1, d2, d3, d4, d5, d6, d7, d8, d9⟩ := S1.out.at0.cells
    obtain ⟨c0, c1, c2, c3, c4, c5, c6, c7, c8, c9⟩ := S1.out.at1.cells
    dsimp only at c1 c2 c4 d1 d2 d4
    clear hb
    go_wp2_with fail
    refine (GQ.out _ S1.out.base).mono ?_
    rintro e w2 ⟨rfl, hb⟩
    clear c0 c1 c2 c3 c4 c5 c6 c7 c8 c9 d0 d1 d2 d3 d4 d5 d6 d7 d8 d9
    have S2 := Lib.hid (S1.out.below hb)
    obtain ⟨d0, d1, d2, d3, d4, d5, d6, d7, d8, d9⟩ := S2.out.at0.cells
    obtain ⟨c0, c1, c2, c3, c4, c5, c6, c7, c8, c9⟩ := S2.out.at1.cells
    dsimp only at c1 c2 c4 d1 d2 d4
    clear hb
    go_wp2_with fail
    refine (KP.out _ S2.out.base).mono ?_
    rintro e w3 ⟨rfl, hb⟩
    clear c0 c1 c2 c3 c4 c5 c6 c7 c8 c9 d0 d1 d2 d3 d4 d5 d6 d7 d8 d9
    have S3 := Lib.hid (S2.out.below hb)
    obtain ⟨d0, d1, d2, d3, d4, d5, d6, d7, d8, d9⟩ := S3.out.at0.cells
    obtain ⟨c0, c1, c2, c3, c4, c5, c6, c7, c8, c9⟩ := S3.out.at1.cells
    dsimp only at c1 c2 c4 d1 d2 d4
    clear hb
    go_wp2_with fail
    refine (KQ.out _ S3.out.base).mono ?_
    rintro e w4 ⟨rfl, hb⟩
    clear c0 c1 c2 c3 c4 c5 c6 c7 c8 c9 d0 d1 d2 d3 d4 d5 d6 d7 d8 d9
    have S4 := Lib.hid (S3.out.below hb)
    obtain ⟨d0, d1, d2, d3, d4, d5, d6, d7, d8, d9⟩ := S4.out.at0.cells
    obtain ⟨c0, c1, c2, c3, c4, c5, c6, c7, c8, c9⟩ := S4.out.at1.cells
    dsimp only at c1 c2 c4 d1 d2 d4
    clear hb
    go_wp2_with fail
    refine (AL.out _ S4.out.base).mono ?_
    rintro e w5 ⟨rfl, hb⟩
    clear c0 c1 c2 c3 c4 c5 c6 c7 c8 c9 d0 d1 d2 d3 d4 d5 d6 d7 d8 d9
    have S5 := Lib.hid (S4.out.below hb)
    clear hb
    go_wp2_with fail
    go_ret
    exact ⟨rfl, S5.out.base⟩
  have hd4 : decide (400 < at_) = false := decide_eq_false h4
  have TW := Lib.hid (fun (W : World) (h : Below w.heap.size w W) => refTwin_any ⟨.slice ada p.arg.length capa, .slice ads p.src.length caps, .slice adc p.cond.length capc⟩ p W (RP.out.below h) (by omega) (by omega) (by omega))
  have CS1 := Lib.hid (fun (W : World) (h : Below w.heap.size w W) => clSame_any ⟨.slice ada p.arg.length capa, .slice ads p.src.length caps, .slice adc p.cond.length capc⟩ ⟨.slice bda q.arg.length cbpa, .slice bds q.src.length cbps, .slice bdc q.cond.length cbpc⟩ p q W (F.out.below h) (RP.out.below h) (RQ.out.below h) (by omega) (by omega) (by omega) (by omega) (by omega) (by omega))
  have CS2 := Lib.hid (fun (W : World) (h : Below w.heap.size w W) => clSame_any ⟨.slice bda q.arg.length cbpa, .slice bds q.src.length cbps, .slice bdc q.cond.length cbpc⟩ ⟨.slice ada p.arg.length capa, .slice ads p.src.length caps, .slice adc p.cond.length capc⟩ q p W (F.out.below h) (RQ.out.below h) (RP.out.below h) (by omega) (by omega) (by omega) (by omega) (by omega) (by omega))
  have hml : (movedQ at_ p).arg.length ≤ 1000000 ∧ (movedQ at_ p).cond.length ≤ 1000000 ∧ (movedQ at_ p).src.length ≤ 9223372036854775807 := ⟨by show (moveL at_ p.arg).length ≤ _; rw [move_len]; omega, by show (moveL at_ p.cond).length ≤ _; rw [move_len]; omega, by show p.src.length ≤ _; omega⟩
  have CS3 := Lib.hid (fun xa ma xs ms xc mc (W : World) (h : Below w.heap.size w W) (r : ReadsQ W ⟨.slice xa p.arg.length ma, .slice xs p.src.length ms, .slice xc p.cond.length mc⟩ (movedQ at_ p)) => clSame_any ⟨.slice ada p.arg.length capa, .slice ads p.src.length caps, .slice adc p.cond.length capc⟩ ⟨.slice xa p.arg.length ma, .slice xs p.src.length ms, .slice xc p.cond.length mc⟩ p (movedQ at_ p) W (F.out.below h) (RP.out.below h) r (by omega) (by omega) (by omega) hml.1 hml.2.1 hml.2.2)
  have CS4 := Lib.hid (fun (W : World) (h : Below w.heap.size w W) => clSame_any ⟨.slice ada p.arg.length capa, .slice ads p.src.length caps, .slice adc p.cond.length capc⟩ ⟨.slice ada p.arg.length capa, .slice ads p.src.length caps, .slice adc p.cond.length capc⟩ p ⟨p.agg, p.arg, p.src, p.join, p.cond, p.win, !p.key, p.late⟩ W (F.out.below h) (RP.out.below h) ⟨(RP.out.below h).arg, (RP.out.below h).src, (RP.out.below h).cond⟩ (by omega) (by omega) (by omega) (by dsimp only; omega) (by dsimp only; omega) (by dsimp only; omega))
  have CS5 := Lib.hid (fun (W : World) (h : Below w.heap.size w W) => clSame_any ⟨.slice ada p.arg.length capa, .slice ads p.src.length caps, .slice adc p.cond.length capc⟩ ⟨.slice ada p.arg.length capa, .slice ads p.src.length caps, .slice adc p.cond.length capc⟩ p ⟨p.agg, p.arg, p.src, p.join, p.cond, p.win, p.key, 3 - p.late⟩ W (F.out.below h) (RP.out.below h) ⟨(RP.out.below h).arg, (RP.out.below h).src, (RP.out.below h).cond⟩ (by omega) (by omega) (by omega) (by dsimp only; omega) (by dsimp only; omega) (by dsimp only; omega))
  have EQ := Lib.hid (fun (W : World) (h : Below w.heap.size w W) => refEqualQ_any ⟨.slice ada p.arg.length capa, .slice ads p.src.length caps, .slice adc p.cond.length capc⟩ ⟨.slice bda q.arg.length cbpa, .slice bds q.src.length cbps, .slice bdc q.cond.length cbpc⟩ p q W (RP.out.below h) (RQ.out.below h) (by omega) (by omega) (by omega))
  rw [sameQ_is hp hq] at CS1
  rw [sameQ_is hq hp, alikeQ_symm] at CS2
  rw [sameQ_is hp (moved_ok (by omega) (by omega) hp), moved_alike] at CS3
  rw [sameQ_is hp (key_other hp).1, (key_other hp).2] at CS4
  rw [sameQ_is hp (late_other hp).1, (late_other hp).2] at CS5
  have HWR := Lib.hid (late_wrap hp)
  have HEQ := Lib.hid (fun (h : alikeQ p q = false) => equal_alikeQ h)
  unfold qyVal qyRow at TW CS1 CS2 CS3 CS4 CS5 EQ
  unfold movedQ at CS3
  unfold TwinEnds at TW
  unfold qyVal qyRow at TW
  dsimp only at TW CS1 CS2 CS3 CS4 CS5 EQ
  clear hp hq hml n3 n4 n5 n6 h0 h4
  cases hx : alikeQ p q
  · rw [hx] at CS1 CS2
    rw [HEQ.out hx] at EQ
    clear hx HEQ
    go_enter Tryd.func9, Tryd.ntmps9
    obtain ⟨d0, d1, d2, d3, d4, d5, d6, d7, d8, d9⟩ := S0.out.at0.cells
    obtain ⟨c0, c1, c2, c3, c4, c5, c6, c7, c8, c9⟩ := S0.out.at1.cells
    dsimp only at c1 c2 c4 d1 d2 d4
    go_wp2_with fail
    refine (GP.out _ S0.out.base).mono ?_
    rintro e w1 ⟨rfl, hb⟩
    clear c0 c1 c2 c3 c4 c5 c6 c7 c8 c9 d0 d1 d2 d3 d4 d5 d6 d7 d8 d9
    have S1 := Lib.hid (S0.out.below hb)
    obtain ⟨d0, d1, d2, d3, d4, d5, d6, d7, d8, d9⟩ := S1.out.at0.cells
    obtain ⟨c0, c1, c2, c3, c4, c5, c6, c7, c8, c9⟩ := S1.out.at1.cells
    dsimp only at c1 c2 c4 d1 d2 d4
    clear hb
    go_wp2_with fail
    refine (GQ.out _ S1.out.base).mono ?_
    rintro e w2 ⟨rfl, hb⟩
    clear c0 c1 c2 c3 c4 c5 c6 c7 c8 c9 d0 d1 d2 d3 d4 d5 d6 d7 d8 d9
    have S2 := Lib.hid (S1.out.below hb)
    obtain ⟨d0, d1, d2, d3, d4, d5, d6, d7, d8, d9⟩ := S2.out.at0.cells
    obtain ⟨c0, c1, c2, c3, c4, c5, c6, c7, c8, c9⟩ := S2.out.at1.cells
    dsimp only at c1 c2 c4 d1 d2 d4
    clear hb
    go_wp2_with fail
    refine (KP.out _ S2.out.base).mono ?_
    rintro e w3 ⟨rfl, hb⟩
    clear c0 c1 c2 c3 c4 c5 c6 c7 c8 c9 d0 d1 d2 d3 d4 d5 d6 d7 d8 d9
    have S3 := Lib.hid (S2.out.below hb)
    obtain ⟨d0, d1, d2, d3, d4, d5, d6, d7, d8, d9⟩ := S3.out.at0.cells
    obtain ⟨c0, c1, c2, c3, c4, c5, c6, c7, c8, c9⟩ := S3.out.at1.cells
    dsimp only at c1 c2 c4 d1 d2 d4
    clear hb
    go_wp2_with fail
    refine (KQ.out _ S3.out.base).mono ?_
    rintro e w4 ⟨rfl, hb⟩
    clear c0 c1 c2 c3 c4 c5 c6 c7 c8 c9 d0 d1 d2 d3 d4 d5 d6 d7 d8 d9
    have S4 := Lib.hid (S3.out.below hb)
    obtain ⟨d0, d1, d2, d3, d4, d5, d6, d7, d8, d9⟩ := S4.out.at0.cells
    obtain ⟨c0, c1, c2, c3, c4, c5, c6, c7, c8, c9⟩ := S4.out.at1.cells
    dsimp only at c1 c2 c4 d1 d2 d4
    clear hb
    go_wp2_with fail
    refine (CS1.out _ S4.out.base).mono ?_
    rintro e w5 ⟨rfl, hb⟩
    clear c0 c1 c2 c3 c4 c5 c6 c7 c8 c9 d0 d1 d2 d3 d4 d5 d6 d7 d8 d9
    have S5 := Lib.hid (S4.out.below hb)
    obtain ⟨d0, d1, d2, d3, d4, d5, d6, d7, d8, d9⟩ := S5.out.at0.cells
    obtain ⟨c0, c1, c2, c3, c4, c5, c6, c7, c8, c9⟩ := S5.out.at1.cells
    dsimp only at c1 c2 c4 d1 d2 d4
    clear hb
    go_wp2_with fail
    refine (CS2.out _ S5.out.base).mono ?_
    rintro e w6 ⟨rfl, hb⟩
    clear c0 c1 c2 c3 c4 c5 c6 c7 c8 c9 d0 d1 d2 d3 d4 d5 d6 d7 d8 d9
    have S6 := Lib.hid (S5.out.below hb)
    obtain ⟨d0, d1, d2, d3, d4, d5, d6, d7, d8, d9⟩ := S6.out.at0.cells
    obtain ⟨c0, c1, c2, c3, c4, c5, c6, c7, c8, c9⟩ := S6.out.at1.cells
    dsimp only at c1 c2 c4 d1 d2 d4
    clear hb
    go_wp2_with fail
    refine (TW.out _ S6.out.base).mono ?_
    rintro e w7 ⟨⟨ua, us, uc⟩, b2, rfl, hr, hb, ho1, ho2, ho3, hr3, hr2, hr4⟩
    clear c0 c1 c2 c3 c4 c5 c6 c7 c8 c9 d0 d1 d2 d3 d4 d5 d6 d7 d8 d9
    obtain ⟨xa, ma, hxa⟩ := own_shape ho1
    obtain ⟨xc, mc, hxc⟩ := own_shape ho2
    obtain ⟨xs, ms, hxs⟩ := own_shape ho3
    dsimp only at hxa hxc hxs
    subst hxa hxc hxs
    have S7 := Lib.hid (S6.out.below hb)
    have M0 := Lib.hid (mv_start (u := ⟨.slice xa p.arg.length ma, .slice xs p.src.length ms, .slice xc p.cond.length mc⟩) S7.out ho1 ho2 ho3 S6.out.at0.lt hr2 hr3 hr4)
    unfold qyBox at M0
    dsimp only at M0
    clear hb hr ho1 ho2 ho3 hr2 hr3 hr4
    obtain ⟨mm, hmm⟩ : ∃ m, w7.heap.size = m := ⟨_, rfl⟩
    obtain ⟨ba, hba⟩ : ∃ m, w6.heap.size = m := ⟨_, rfl⟩
    rw [hmm, hba] at M0
    have HMM := Lib.hid hmm
    clear hba hmm
    go_wp2_with fail
    rw [HMM.out]
    go_loopg [12] p.cond.length (fun g s12 wx => ∃ k : Nat, k + g = p.cond.length ∧ s12 = .int .i64 k ∧ Hid (MV w ⟨.slice ada p.arg.length capa, .slice ads p.src.length caps, .slice adc p.cond.length capc⟩ p ⟨.slice bda q.arg.length cbpa, .slice bds q.src.length cbps, .slice bdc q.cond.length cbpc⟩ q mm ba b2 ⟨.slice xa p.arg.length ma, .slice xs p.src.length ms, .slice xc p.cond.length mc⟩ p.arg (movedK at_ p.cond k) wx))
    case atStart => exact ⟨0, by omega, rfl, M0⟩
    case round =>
      obtain ⟨k, hk, rfl, M1⟩ := hrel
      obtain ⟨m0, m1, m2, m3, m4, m5, m6, m7, m8, m9⟩ := M1.out.mv.cells
      dsimp only at m1 m2 m4
      cases gk with
      | succ g =>
        have hlt : k < p.cond.length := by omega
        have hlti : (k : Int) < p.cond.length := by omega
        obtain ⟨g1, hg1⟩ := own_some M1.out.oc (by omega)
        subst hg1
        have hrow := M1.out.oc
        dsimp only at hrow
        have hkl : k < (movedK at_ p.cond k).length := by rw [movedK_len]; exact hlt
        have hcl0 : ∃ av : Int, wr.cell? ⟨g1, k * 5 + 4, none⟩ = some (.int .i64 av) := ⟨_, (hrow.cellAt (k * 5 + 4) (by omega)).trans (rowN_at _ k _ (List.getElem?_eq_getElem hkl)).2.2.2.2⟩
        obtain ⟨av, hcl⟩ := hcl0
        have hfz := hrow.frozenAt (k * 5 + 4)
        have hst := M1.out.setC rfl hkl at_
        rw [movedK_get at_ p.cond hlt, movedK_next at_ p.cond hlt] at hst
        have HS := Lib.hid hst
        clear hst hrow hkl
        go_wp2_with fail
        go_roundg g
        case measure => omega
        case rel => exact ⟨k + 1, by omega, by go_num, HS⟩
      | zero =>
        obtain rfl : k = p.cond.length := by omega
        rw [movedK_all] at M1
        clear hk
        go_wp2_with fail
        go_loopg [13] p.arg.length (fun g s13 wx => ∃ k : Nat, k + g = p.arg.length ∧ s13 = .int .i64 k ∧ Hid (MV w ⟨.slice ada p.arg.length capa, .slice ads p.src.length caps, .slice adc p.cond.length capc⟩ p ⟨.slice bda q.arg.length cbpa, .slice bds q.src.length cbps, .slice bdc q.cond.length cbpc⟩ q mm ba b2 ⟨.slice xa p.arg.length ma, .slice xs p.src.length ms, .slice xc p.cond.length mc⟩ (movedK at_ p.arg k) (moveL at_ p.cond) wx))
        case atStart => exact ⟨0, by omega, rfl, M1⟩
        case round =>
          clear m0 m1 m2 m3 m4 m5 m6 m7 m8 m9
          obtain ⟨k, hk, rfl, M1⟩ := hrel
          obtain ⟨m0, m1, m2, m3, m4, m5, m6, m7, m8, m9⟩ := M1.out.mv.cells
          dsimp only at m1 m2 m4
          cases gk with
          | succ g =>
            have hlt : k < p.arg.length := by omega
            have hlti : (k : Int) < p.arg.length := by omega
            obtain ⟨g1, hg1⟩ := own_some M1.out.oa (by omega)
            subst hg1
            have hrow := M1.out.oa
            dsimp only at hrow
            have hkl : k < (movedK at_ p.arg k).length := by rw [movedK_len]; exact hlt
            have hcl0 : ∃ av : Int, wr.cell? ⟨g1, k * 5 + 4, none⟩ = some (.int .i64 av) := ⟨_, (hrow.cellAt (k * 5 + 4) (by omega)).trans (rowN_at _ k _ (List.getElem?_eq_getElem hkl)).2.2.2.2⟩
            obtain ⟨av, hcl⟩ := hcl0
            have hfz := hrow.frozenAt (k * 5 + 4)
            have hst := M1.out.setA rfl hkl at_
            rw [movedK_get at_ p.arg hlt, movedK_next at_ p.arg hlt] at hst
            have HS := Lib.hid hst
            clear hst hrow hkl
            go_wp2_with fail
            go_roundg g
            case measure => omega
            case rel => exact ⟨k + 1, by omega, by go_num, HS⟩
          | zero =>
            obtain rfl : k = p.arg.length := by omega
            rw [movedK_all] at M1
            clear hk
            have RM := Lib.hid M1.out.reads
            have S8 : Hid (SL w wr [(w.heap.size + 1, ⟨.slice bda q.arg.length cbpa, .slice bds q.src.length cbps, .slice bdc q.cond.length cbpc⟩, q), (w.heap.size, ⟨.slice ada p.arg.length capa, .slice ads p.src.length caps, .slice adc p.cond.length capc⟩, p)]) := Lib.hid ⟨M1.out.base, fun x hx => by (simp at hx; rcases hx with rfl | rfl); exact ⟨Nat.le_succ _, M1.out.two⟩; exact ⟨Nat.le_refl _, M1.out.one⟩⟩
            obtain ⟨d0, d1, d2, d3, d4, d5, d6, d7, d8, d9⟩ := S8.out.at0.cells
            obtain ⟨c0, c1, c2, c3, c4, c5, c6, c7, c8, c9⟩ := S8.out.at1.cells
            dsimp only at c1 c2 c4 d1 d2 d4
            go_wp2_with fail
            refine (CS3.out _ _ _ _ _ _ _ S8.out.base RM.out).mono ?_
            rintro e w9 ⟨rfl, hb⟩
            clear c0 c1 c2 c3 c4 c5 c6 c7 c8 c9 d0 d1 d2 d3 d4 d5 d6 d7 d8 d9 m0 m1 m2 m3 m4 m5 m6 m7 m8 m9
            have S9 := Lib.hid (S8.out.below hb)
            obtain ⟨d0, d1, d2, d3, d4, d5, d6, d7, d8, d9⟩ := S9.out.at0.cells
            obtain ⟨c0, c1, c2, c3, c4, c5, c6, c7, c8, c9⟩ := S9.out.at1.cells
            dsimp only at c1 c2 c4 d1 d2 d4
            clear hb
            obtain ⟨f0, f1, f2, f3, f4, f5, f6, f7, f8, f9⟩ := S9.out.at1.past
            dsimp only at f1 f2 f4
            have hp2 : ∀ o o2, QyAt ((w9.alloc o).alloc o2) w.heap.size ⟨.slice ada p.arg.length capa, .slice ads p.src.length caps, .slice adc p.cond.length capc⟩ p := fun o o2 => S9.out.at1.past2 o o2
            obtain ⟨k0, k1, k2, k3, k4, k5, k6, k7, k8, k9⟩ := S9.out.at1.past2c
            dsimp only at k1 k2 k4
            have HP2 := Lib.hid hp2
            clear hp2
            go_wp2_with fail
            go_region
            · clear f0 f1 f2 f3 f4 f5 f6 f7 f8 f9 k0 k1 k2 k3 k4 k5 k6 k7 c0 c1 c2 c3 c4 c5 c6 c7 c8 c9 d0 d1 d2 d3 d4 d5 d6 d7 d8 d9
              have hw := HWR.out
              have S10 := Lib.hid (((S9.out.box w9.heap.size rfl ⟨.slice ada p.arg.length capa, .slice ads p.src.length caps, .slice adc p.cond.length capc⟩ ⟨p.agg, p.arg, p.src, p.join, p.cond, p.win, !p.key, p.late⟩).box (w9.heap.size + 1) (by simp) ⟨.slice ada p.arg.length capa, .slice ads p.src.length caps, .slice adc p.cond.length capc⟩ ⟨p.agg, p.arg, p.src, p.join, p.cond, p.win, p.key, 3 - p.late⟩).drew)
              unfold qyBox at S10
              dsimp only at S10
              obtain ⟨c0, c1, c2, c3, c4, c5, c6, c7, c8, c9⟩ := (HP2.out (qyBox ⟨.slice ada p.arg.length capa, .slice ads p.src.length caps, .slice adc p.cond.length capc⟩ ⟨p.agg, p.arg, p.src, p.join, p.cond, p.win, !p.key, p.late⟩) (qyBox ⟨.slice ada p.arg.length capa, .slice ads p.src.length caps, .slice adc p.cond.length capc⟩ ⟨p.agg, p.arg, p.src, p.join, p.cond, p.win, p.key, 3 - p.late⟩)).cells
              unfold qyBox at c0 c1 c2 c3 c4 c5 c6 c7 c8 c9
              dsimp only at c0 c1 c2 c3 c4 c5 c6 c7 c8 c9
              go_wp2_with fail
              refine (CS4.out _ S10.out.base).mono ?_
              rintro e w11 ⟨rfl, hb⟩
              clear c0 c1 c2 c3 c4 c5 c6 c7 c8 c9 k8 k9
              have S11 := Lib.hid (S10.out.below hb)
              obtain ⟨c0, c1, c2, c3, c4, c5, c6, c7, c8, c9⟩ := S11.out.at3.cells
              obtain ⟨d0, d1, d2, d3, d4, d5, d6, d7, d8, d9⟩ := S11.out.at0.cells
              dsimp only at c1 c2 c4 d0 d1 d2 d3 d4 d5 d6 d7 d8 d9
              clear hb hw
              go_wp2_with fail
              refine (CS5.out _ S11.out.base).mono ?_
              rintro e w12 ⟨rfl, hb⟩
              clear c0 c1 c2 c3 c4 c5 c6 c7 c8 c9 d0 d1 d2 d3 d4 d5 d6 d7 d8 d9
              have S12 := Lib.hid (S11.out.below hb)
              clear hb
              obtain ⟨c0, c1, c2, c3, c4, c5, c6, c7, c8, c9⟩ := S12.out.at3.cells
              obtain ⟨d0, d1, d2, d3, d4, d5, d6, d7, d8, d9⟩ := S12.out.at2.cells
              dsimp only at c1 c2 c4 d1 d2 d4
              go_wp2_with fail
              refine (EQ.out _ S12.out.base).mono ?_
              rintro e w13 ⟨rfl, hb⟩
              clear c0 c1 c2 c3 c4 c5 c6 c7 c8 c9 d0 d1 d2 d3 d4 d5 d6 d7 d8 d9
              have S13 := Lib.hid (S12.out.below hb)
              clear hb
              go_wp2_with fail
              refine (AL.out _ S13.out.base).mono ?_
              rintro e w14 ⟨rfl, hb⟩
              have S14 := Lib.hid (S13.out.below hb)
              clear hb
              go_wp2_with fail
              go_ret
              exact ⟨rfl, S14.out.base⟩
            · clear f0 f1 f2 f3 f4 f5 f6 f7 f8 f9 k0 k1 k2 k3 k4 k5 k6 k7 c0 c1 c2 c3 c4 c5 c6 c7 c8 c9 d0 d1 d2 d3 d4 d5 d6 d7 d8 d9
              have hw := HWR.out
              have S10 := Lib.hid (((S9.out.box w9.heap.size rfl ⟨.slice ada p.arg.length capa, .slice ads p.src.length caps, .slice adc p.cond.length capc⟩ ⟨p.agg, p.arg, p.src, p.join, p.cond, p.win, p.key, 3 - p.late⟩).box (w9.heap.size + 1) (by simp) ⟨.slice ada p.arg.length capa, .slice ads p.src.length caps, .slice adc p.cond.length capc⟩ ⟨p.agg, p.arg, p.src, p.join, p.cond, p.win, !p.key, p.late⟩).drew)
              unfold qyBox at S10
              dsimp only at S10
              obtain ⟨c0, c1, c2, c3, c4, c5, c6, c7, c8, c9⟩ := (HP2.out (qyBox ⟨.slice ada p.arg.length capa, .slice ads p.src.length caps, .slice adc p.cond.length capc⟩ ⟨p.agg, p.arg, p.src, p.join, p.cond, p.win, p.key, 3 - p.late⟩) (qyBox ⟨.slice ada p.arg.length capa, .slice ads p.src.length caps, .slice adc p.cond.length capc⟩ ⟨p.agg, p.arg, p.src, p.join, p.cond, p.win, !p.key, p.late⟩)).cells
              unfold qyBox at c0 c1 c2 c3 c4 c5 c6 c7 c8 c9
              dsimp only at c0 c1 c2 c3 c4 c5 c6 c7 c8 c9
              go_wp2_with fail
              refine (CS4.out _ S10.out.base).mono ?_
              rintro e w11 ⟨rfl, hb⟩
              clear c0 c1 c2 c3 c4 c5 c6 c7 c8 c9 k8 k9
              have S11 := Lib.hid (S10.out.below hb)
              obtain ⟨c0, c1, c2, c3, c4, c5, c6, c7, c8, c9⟩ := S11.out.at3.cells
              obtain ⟨d0, d1, d2, d3, d4, d5, d6, d7, d8, d9⟩ := S11.out.at1.cells
              dsimp only at c1 c2 c4 d0 d1 d2 d3 d4 d5 d6 d7 d8 d9
              clear hb hw
              go_wp2_with fail
              refine (CS5.out _ S11.out.base).mono ?_
              rintro e w12 ⟨rfl, hb⟩
              clear c0 c1 c2 c3 c4 c5 c6 c7 c8 c9 d0 d1 d2 d3 d4 d5 d6 d7 d8 d9
              have S12 := Lib.hid (S11.out.below hb)
              clear hb
              obtain ⟨c0, c1, c2, c3, c4, c5, c6, c7, c8, c9⟩ := S12.out.at3.cells
              obtain ⟨d0, d1, d2, d3, d4, d5, d6, d7, d8, d9⟩ := S12.out.at2.cells
              dsimp only at c1 c2 c4 d1 d2 d4
              go_wp2_with fail
              refine (EQ.out _ S12.out.base).mono ?_
              rintro e w13 ⟨rfl, hb⟩
              clear c0 c1 c2 c3 c4 c5 c6 c7 c8 c9 d0 d1 d2 d3 d4 d5 d6 d7 d8 d9
              have S13 := Lib.hid (S12.out.below hb)
              clear hb
              go_wp2_with fail
              refine (AL.out _ S13.out.base).mono ?_
              rintro e w14 ⟨rfl, hb⟩
              have S14 := Lib.hid (S13.out.below hb)
              clear hb
              go_wp2_with fail
              go_ret
              exact ⟨rfl, S14.out.base⟩
  · rw [hx] at CS1 CS2
    clear hx HEQ
    go_enter Tryd.func9, Tryd.ntmps9
    obtain ⟨d0, d1, d2, d3, d4, d5, d6, d7, d8, d9⟩ := S0.out.at0.cells
    obtain ⟨c0, c1, c2, c3, c4, c5, c6, c7, c8, c9⟩ := S0.out.at1.cells
    dsimp only at c1 c2 c4 d1 d2 d4
    go_wp2_with fail
    refine (GP.out _ S0.out.base).mono ?_
    rintro e w1 ⟨rfl, hb⟩
    clear c0 c1 c2 c3 c4 c5 c6 c7 c8 c9 d0 d1 d2 d3 d4 d5 d6 d7 d8 d9
    have S1 := Lib.hid (S0.out.below hb)
    obtain ⟨d0, d1, d2, d3, d4, d5, d6, d7, d8, d9⟩ := S1.out.at0.cells
    obtain ⟨c0, c1, c2, c3, c4, c5, c6, c7, c8, c9⟩ := S1.out.at1.cells
    dsimp only at c1 c2 c4 d1 d2 d4
    clear hb
    go_wp2_with fail
    refine (GQ.out _ S1.out.base).mono ?_
    rintro e w2 ⟨rfl, hb⟩
    clear c0 c1 c2 c3 c4 c5 c6 c7 c8 c9 d0 d1 d2 d3 d4 d5 d6 d7 d8 d9
    have S2 := Lib.hid (S1.out.below hb)
    obtain ⟨d0, d1, d2, d3, d4, d5, d6, d7, d8, d9⟩ := S2.out.at0.cells
    obtain ⟨c0, c1, c2, c3, c4, c5, c6, c7, c8, c9⟩ := S2.out.at1.cells
    dsimp only at c1 c2 c4 d1 d2 d4
    clear hb
    go_wp2_with fail
    refine (KP.out _ S2.out.base).mono ?_
    rintro e w3 ⟨rfl, hb⟩
    clear c0 c1 c2 c3 c4 c5 c6 c7 c8 c9 d0 d1 d2 d3 d4 d5 d6 d7 d8 d9
    have S3 := Lib.hid (S2.out.below hb)
    obtain ⟨d0, d1, d2, d3, d4, d5, d6, d7, d8, d9⟩ := S3.out.at0.cells
    obtain ⟨c0, c1, c2, c3, c4, c5, c6, c7, c8, c9⟩ := S3.out.at1.cells
    dsimp only at c1 c2 c4 d1 d2 d4
    clear hb
    go_wp2_with fail
    refine (KQ.out _ S3.out.base).mono ?_
    rintro e w4 ⟨rfl, hb⟩
    clear c0 c1 c2 c3 c4 c5 c6 c7 c8 c9 d0 d1 d2 d3 d4 d5 d6 d7 d8 d9
    have S4 := Lib.hid (S3.out.below hb)
    obtain ⟨d0, d1, d2, d3, d4, d5, d6, d7, d8, d9⟩ := S4.out.at0.cells
    obtain ⟨c0, c1, c2, c3, c4, c5, c6, c7, c8, c9⟩ := S4.out.at1.cells
    dsimp only at c1 c2 c4 d1 d2 d4
    clear hb
    go_wp2_with fail
    refine (CS1.out _ S4.out.base).mono ?_
    rintro e w5 ⟨rfl, hb⟩
    clear c0 c1 c2 c3 c4 c5 c6 c7 c8 c9 d0 d1 d2 d3 d4 d5 d6 d7 d8 d9
    have S5 := Lib.hid (S4.out.below hb)
    obtain ⟨d0, d1, d2, d3, d4, d5, d6, d7, d8, d9⟩ := S5.out.at0.cells
    obtain ⟨c0, c1, c2, c3, c4, c5, c6, c7, c8, c9⟩ := S5.out.at1.cells
    dsimp only at c1 c2 c4 d1 d2 d4
    clear hb
    go_wp2_with fail
    refine (CS2.out _ S5.out.base).mono ?_
    rintro e w6 ⟨rfl, hb⟩
    clear c0 c1 c2 c3 c4 c5 c6 c7 c8 c9 d0 d1 d2 d3 d4 d5 d6 d7 d8 d9
    have S6 := Lib.hid (S5.out.below hb)
    obtain ⟨d0, d1, d2, d3, d4, d5, d6, d7, d8, d9⟩ := S6.out.at0.cells
    obtain ⟨c0, c1, c2, c3, c4, c5, c6, c7, c8, c9⟩ := S6.out.at1.cells
    dsimp only at c1 c2 c4 d1 d2 d4
    clear hb
    go_wp2_with fail
    refine (TW.out _ S6.out.base).mono ?_
    rintro e w7 ⟨⟨ua, us, uc⟩, b2, rfl, hr, hb, ho1, ho2, ho3, hr3, hr2, hr4⟩
    clear c0 c1 c2 c3 c4 c5 c6 c7 c8 c9 d0 d1 d2 d3 d4 d5 d6 d7 d8 d9
    obtain ⟨xa, ma, hxa⟩ := own_shape ho1
    obtain ⟨xc, mc, hxc⟩ := own_shape ho2
    obtain ⟨xs, ms, hxs⟩ := own_shape ho3
    dsimp only at hxa hxc hxs
    subst hxa hxc hxs
    have S7 := Lib.hid (S6.out.below hb)
    have M0 := Lib.hid (mv_start (u := ⟨.slice xa p.arg.length ma, .slice xs p.src.length ms, .slice xc p.cond.length mc⟩) S7.out ho1 ho2 ho3 S6.out.at0.lt hr2 hr3 hr4)
    unfold qyBox at M0
    dsimp only at M0
    clear hb hr ho1 ho2 ho3 hr2 hr3 hr4
    obtain ⟨mm, hmm⟩ : ∃ m, w7.heap.size = m := ⟨_, rfl⟩
    obtain ⟨ba, hba⟩ : ∃ m, w6.heap.size = m := ⟨_, rfl⟩
    rw [hmm, hba] at M0
    have HMM := Lib.hid hmm
    clear hba hmm
    go_wp2_with fail
    rw [HMM.out]
    go_loopg [12] p.cond.length (fun g s12 wx => ∃ k : Nat, k + g = p.cond.length ∧ s12 = .int .i64 k ∧ Hid (MV w ⟨.slice ada p.arg.length capa, .slice ads p.src.length caps, .slice adc p.cond.length capc⟩ p ⟨.slice bda q.arg.length cbpa, .slice bds q.src.length cbps, .slice bdc q.cond.length cbpc⟩ q mm ba b2 ⟨.slice xa p.arg.length ma, .slice xs p.src.length ms, .slice xc p.cond.length mc⟩ p.arg (movedK at_ p.cond k) wx))
    case atStart => exact ⟨0, by omega, rfl, M0⟩
    case round =>
      obtain ⟨k, hk, rfl, M1⟩ := hrel
      obtain ⟨m0, m1, m2, m3, m4, m5, m6, m7, m8, m9⟩ := M1.out.mv.cells
      dsimp only at m1 m2 m4
      cases gk with
      | succ g =>
        have hlt : k < p.cond.length := by omega
        have hlti : (k : Int) < p.cond.length := by omega
        obtain ⟨g1, hg1⟩ := own_some M1.out.oc (by omega)
        subst hg1
        have hrow := M1.out.oc
        dsimp only at hrow
        have hkl : k < (movedK at_ p.cond k).length := by rw [movedK_len]; exact hlt
        have hcl0 : ∃ av : Int, wr.cell? ⟨g1, k * 5 + 4, none⟩ = some (.int .i64 av) := ⟨_, (hrow.cellAt (k * 5 + 4) (by omega)).trans (rowN_at _ k _ (List.getElem?_eq_getElem hkl)).2.2.2.2⟩
        obtain ⟨av, hcl⟩ := hcl0
        have hfz := hrow.frozenAt (k * 5 + 4)
        have hst := M1.out.setC rfl hkl at_
        rw [movedK_get at_ p.cond hlt, movedK_next at_ p.cond hlt] at hst
        have HS := Lib.hid hst
        clear hst hrow hkl
        go_wp2_with fail
        go_roundg g
        case measure => omega
        case rel => exact ⟨k + 1, by omega, by go_num, HS⟩
      | zero =>
        obtain rfl : k = p.cond.length := by omega
        rw [movedK_all] at M1
        clear hk
        go_wp2_with fail
        go_loopg [13] p.arg.length (fun g s13 wx => ∃ k : Nat, k + g = p.arg.length ∧ s13 = .int .i64 k ∧ Hid (MV w ⟨.slice ada p.arg.length capa, .slice ads p.src.length caps, .slice adc p.cond.length capc⟩ p ⟨.slice bda q.arg.length cbpa, .slice bds q.src.length cbps, .slice bdc q.cond.length cbpc⟩ q mm ba b2 ⟨.slice xa p.arg.length ma, .slice xs p.src.length ms, .slice xc p.cond.length mc⟩ (movedK at_ p.arg k) (moveL at_ p.cond) wx))
        case atStart => exact ⟨0, by omega, rfl, M1⟩
        case round =>
          clear m0 m1 m2 m3 m4 m5 m6 m7 m8 m9
          obtain ⟨k, hk, rfl, M1⟩ := hrel
          obtain ⟨m0, m1, m2, m3, m4, m5, m6, m7, m8, m9⟩ := M1.out.mv.cells
          dsimp only at m1 m2 m4
          cases gk with
          | succ g =>
            have hlt : k < p.arg.length := by omega
            have hlti : (k : Int) < p.arg.length := by omega
            obtain ⟨g1, hg1⟩ := own_some M1.out.oa (by omega)
            subst hg1
            have hrow := M1.out.oa
            dsimp only at hrow
            have hkl : k < (movedK at_ p.arg k).length := by rw [movedK_len]; exact hlt
            have hcl0 : ∃ av : Int, wr.cell? ⟨g1, k * 5 + 4, none⟩ = some (.int .i64 av) := ⟨_, (hrow.cellAt (k * 5 + 4) (by omega)).trans (rowN_at _ k _ (List.getElem?_eq_getElem hkl)).2.2.2.2⟩
            obtain ⟨av, hcl⟩ := hcl0
            have hfz := hrow.frozenAt (k * 5 + 4)
            have hst := M1.out.setA rfl hkl at_
            rw [movedK_get at_ p.arg hlt, movedK_next at_ p.arg hlt] at hst
            have HS := Lib.hid hst
            clear hst hrow hkl
            go_wp2_with fail
            go_roundg g
            case measure => omega
            case rel => exact ⟨k + 1, by omega, by go_num, HS⟩
          | zero =>
            obtain rfl : k = p.arg.length := by omega
            rw [movedK_all] at M1
            clear hk
            have RM := Lib.hid M1.out.reads
            have S8 : Hid (SL w wr [(w.heap.size + 1, ⟨.slice bda q.arg.length cbpa, .slice bds q.src.length cbps, .slice bdc q.cond.length cbpc⟩, q), (w.heap.size, ⟨.slice ada p.arg.length capa, .slice ads p.src.length caps, .slice adc p.cond.length capc⟩, p)]) := Lib.hid ⟨M1.out.base, fun x hx => by (simp at hx; rcases hx with rfl | rfl); exact ⟨Nat.le_succ _, M1.out.two⟩; exact ⟨Nat.le_refl _, M1.out.one⟩⟩
            obtain ⟨d0, d1, d2, d3, d4, d5, d6, d7, d8, d9⟩ := S8.out.at0.cells
            obtain ⟨c0, c1, c2, c3, c4, c5, c6, c7, c8, c9⟩ := S8.out.at1.cells
            dsimp only at c1 c2 c4 d1 d2 d4
            go_wp2_with fail
            refine (CS3.out _ _ _ _ _ _ _ S8.out.base RM.out).mono ?_
            rintro e w9 ⟨rfl, hb⟩
            clear c0 c1 c2 c3 c4 c5 c6 c7 c8 c9 d0 d1 d2 d3 d4 d5 d6 d7 d8 d9 m0 m1 m2 m3 m4 m5 m6 m7 m8 m9
            have S9 := Lib.hid (S8.out.below hb)
            obtain ⟨d0, d1, d2, d3, d4, d5, d6, d7, d8, d9⟩ := S9.out.at0.cells
            obtain ⟨c0, c1, c2, c3, c4, c5, c6, c7, c8, c9⟩ := S9.out.at1.cells
            dsimp only at c1 c2 c4 d1 d2 d4
            clear hb
            obtain ⟨f0, f1, f2, f3, f4, f5, f6, f7, f8, f9⟩ := S9.out.at1.past
            dsimp only at f1 f2 f4
            have hp2 : ∀ o o2, QyAt ((w9.alloc o).alloc o2) w.heap.size ⟨.slice ada p.arg.length capa, .slice ads p.src.length caps, .slice adc p.cond.length capc⟩ p := fun o o2 => S9.out.at1.past2 o o2
            obtain ⟨k0, k1, k2, k3, k4, k5, k6, k7, k8, k9⟩ := S9.out.at1.past2c
            dsimp only at k1 k2 k4
            have HP2 := Lib.hid hp2
            clear hp2
            go_wp2_with fail
            go_region
            · clear f0 f1 f2 f3 f4 f5 f6 f7 f8 f9 k0 k1 k2 k3 k4 k5 k6 k7 c0 c1 c2 c3 c4 c5 c6 c7 c8 c9 d0 d1 d2 d3 d4 d5 d6 d7 d8 d9
              have hw := HWR.out
              have S10 := Lib.hid (((S9.out.box w9.heap.size rfl ⟨.slice ada p.arg.length capa, .slice ads p.src.length caps, .slice adc p.cond.length capc⟩ ⟨p.agg, p.arg, p.src, p.join, p.cond, p.win, !p.key, p.late⟩).box (w9.heap.size + 1) (by simp) ⟨.slice ada p.arg.length capa, .slice ads p.src.length caps, .slice adc p.cond.length capc⟩ ⟨p.agg, p.arg, p.src, p.join, p.cond, p.win, p.key, 3 - p.late⟩).drew)
              unfold qyBox at S10
              dsimp only at S10
              obtain ⟨c0, c1, c2, c3, c4, c5, c6, c7, c8, c9⟩ := (HP2.out (qyBox ⟨.slice ada p.arg.length capa, .slice ads p.src.length caps, .slice adc p.cond.length capc⟩ ⟨p.agg, p.arg, p.src, p.join, p.cond, p.win, !p.key, p.late⟩) (qyBox ⟨.slice ada p.arg.length capa, .slice ads p.src.length caps, .slice adc p.cond.length capc⟩ ⟨p.agg, p.arg, p.src, p.join, p.cond, p.win, p.key, 3 - p.late⟩)).cells
              unfold qyBox at c0 c1 c2 c3 c4 c5 c6 c7 c8 c9
              dsimp only at c0 c1 c2 c3 c4 c5 c6 c7 c8 c9
              go_wp2_with fail
              refine (CS4.out _ S10.out.base).mono ?_
              rintro e w11 ⟨rfl, hb⟩
              clear c0 c1 c2 c3 c4 c5 c6 c7 c8 c9 k8 k9
              have S11 := Lib.hid (S10.out.below hb)
              obtain ⟨c0, c1, c2, c3, c4, c5, c6, c7, c8, c9⟩ := S11.out.at3.cells
              obtain ⟨d0, d1, d2, d3, d4, d5, d6, d7, d8, d9⟩ := S11.out.at0.cells
              dsimp only at c1 c2 c4 d0 d1 d2 d3 d4 d5 d6 d7 d8 d9
              clear hb hw
              go_wp2_with fail
              refine (CS5.out _ S11.out.base).mono ?_
              rintro e w12 ⟨rfl, hb⟩
              clear c0 c1 c2 c3 c4 c5 c6 c7 c8 c9 d0 d1 d2 d3 d4 d5 d6 d7 d8 d9
              have S12 := Lib.hid (S11.out.below hb)
              clear hb
              go_wp2_with fail
              refine (AL.out _ S12.out.base).mono ?_
              rintro e w14 ⟨rfl, hb⟩
              have S14 := Lib.hid (S12.out.below hb)
              clear hb
              go_wp2_with fail
              go_ret
              exact ⟨rfl, S14.out.base⟩
            · clear f0 f1 f2 f3 f4 f5 f6 f7 f8 f9 k0 k1 k2 k3 k4 k5 k6 k7 c0 c1 c2 c3 c4 c5 c6 c7 c8 c9 d0 d1 d2 d3 d4 d5 d6 d7 d8 d9
              have hw := HWR.out
              have S10 := Lib.hid (((S9.out.box w9.heap.size rfl ⟨.slice ada p.arg.length capa, .slice ads p.src.length caps, .slice adc p.cond.length capc⟩ ⟨p.agg, p.arg, p.src, p.join, p.cond, p.win, p.key, 3 - p.late⟩).box (w9.heap.size + 1) (by simp) ⟨.slice ada p.arg.length capa, .slice ads p.src.length caps, .slice adc p.cond.length capc⟩ ⟨p.agg, p.arg, p.src, p.join, p.cond, p.win, !p.key, p.late⟩).drew)
              unfold qyBox at S10
              dsimp only at S10
              obtain ⟨c0, c1, c2, c3, c4, c5, c6, c7, c8, c9⟩ := (HP2.out (qyBox ⟨.slice ada p.arg.length capa, .slice ads p.src.length caps, .slice adc p.cond.length capc⟩ ⟨p.agg, p.arg, p.src, p.join, p.cond, p.win, p.key, 3 - p.late⟩) (qyBox ⟨.slice ada p.arg.length capa, .slice ads p.src.length caps, .slice adc p.cond.length capc⟩ ⟨p.agg, p.arg, p.src, p.join, p.cond, p.win, !p.key, p.late⟩)).cells
              unfold qyBox at c0 c1 c2 c3 c4 c5 c6 c7 c8 c9
              dsimp only at c0 c1 c2 c3 c4 c5 c6 c7 c8 c9
              go_wp2_with fail
              refine (CS4.out _ S10.out.base).mono ?_
              rintro e w11 ⟨rfl, hb⟩
              clear c0 c1 c2 c3 c4 c5 c6 c7 c8 c9 k8 k9
              have S11 := Lib.hid (S10.out.below hb)
              obtain ⟨c0, c1, c2, c3, c4, c5, c6, c7, c8, c9⟩ := S11.out.at3.cells
              obtain ⟨d0, d1, d2, d3, d4, d5, d6, d7, d8, d9⟩ := S11.out.at1.cells
              dsimp only at c1 c2 c4 d0 d1 d2 d3 d4 d5 d6 d7 d8 d9
              clear hb hw
              go_wp2_with fail
              refine (CS5.out _ S11.out.base).mono ?_
              rintro e w12 ⟨rfl, hb⟩
              clear c0 c1 c2 c3 c4 c5 c6 c7 c8 c9 d0 d1 d2 d3 d4 d5 d6 d7 d8 d9
              have S12 := Lib.hid (S11.out.below hb)
              clear hb
              go_wp2_with fail
              refine (AL.out _ S12.out.base).mono ?_
              rintro e w14 ⟨rfl, hb⟩
              have S14 := Lib.hid (S12.out.below hb)
              clear hb
              go_wp2_with fail
              go_ret
              exact ⟨rfl, S14.out.base⟩
end Go.Proofs.YtfmobnlnedljeaaDoor.Nodes

/-
  Contract of nodes.behind at the landed code (layer 4): size and depth of a node behind others.
-/
import Derived.Test.YtdinaedknlkicaaGreatDoorNodeLand
import Derived.Test.YtdinaedknlkicaaGreatDoorRefSizes
import Derived.LoopN
import Derived.Deep.RegionHeld3
import Derived.Deep.QuietTactic
import Derived.BigQuiet
import Derived.Outline
namespace Go.Proofs.YtdinaedknlkicaaGreatDoor.Nodes
open Go.ChangeShapes Go.WideShapes Go.ChangeAt Go.RowKit

/-- A slice that reads as sizes and depths: two cells each. -/
def ReadsS (w : World) (v : Value) (r : Acc) : Prop :=
  (r = [] ∧ ∃ ad cap, v = .slice ad 0 cap) ∨ ∃ b o cap, v = .slice (some ⟨b, o, none⟩) r.length cap ∧ b < w.heap.size ∧
    ∀ i, i < r.length → w.cell? ⟨b, o + i * 2, none⟩ = some (.int .i64 (sz r i : Nat)) ∧ w.cell? ⟨b, o + i * 2 + 1, none⟩ = some (.int .i64 (dp r i : Nat))
theorem ReadsS.below {w w' : World} {v : Value} {r : Acc} (h : ReadsS w v r) (hw : Below w.heap.size w w') : ReadsS w' v r := by
  rcases h with h | ⟨b, o, cap, rfl, hb, ht⟩
  · exact .inl h
  · exact .inr ⟨b, o, cap, rfl, Nat.lt_of_lt_of_le hb hw.size, fun i hi => ⟨(hw.cell (p := ⟨b, _, none⟩) hb).trans (ht i hi).1, (hw.cell (p := ⟨b, _, none⟩) hb).trans (ht i hi).2⟩⟩
theorem ReadsS.shape {w : World} {v : Value} {r : Acc} (h : ReadsS w v r) : ∃ ad cap, v = .slice ad r.length cap := by
  rcases h with ⟨rfl, ad, cap, rfl⟩ | ⟨b, o, cap, rfl, _⟩
  · exact ⟨ad, cap, rfl⟩
  · exact ⟨_, cap, rfl⟩
theorem ReadsS.at_ {w : World} {v : Value} {r : Acc} (h : ReadsS w v r) (k : Nat) (hk : k < r.length) :
    ∃ b o cap, v = .slice (some ⟨b, o, none⟩) r.length cap ∧ b < w.heap.size ∧ w.cell? ⟨b, o + k * 2, none⟩ = some (.int .i64 (sz r k : Nat)) ∧ w.cell? ⟨b, o + k * 2 + 1, none⟩ = some (.int .i64 (dp r k : Nat)) := by
  rcases h with ⟨rfl, _⟩ | ⟨b, o, cap, rfl, hb, ht⟩
  · simp at hk
  · exact ⟨b, o, cap, rfl, hb, ht k hk⟩
theorem iShape : (Tryz.prog.info? 133).map (·.size) = some 2 := by kernel_rfl
theorem pair_range {w : World} {b o : Nat} {s d : Int} (h0 : w.cell? ⟨b, o, none⟩ = some (.int .i64 s)) (h1 : w.cell? ⟨b, o + 1, none⟩ = some (.int .i64 d)) :
    w.rangeAt b o [.int .i64 s, .int .i64 d] := fun j v hv => by
  match j with
  | 0 => simp at hv; subst hv; exact h0
  | 1 => simp at hv; subst hv; exact h1
  | j + 2 => simp at hv
theorem ret_shape {fn : Func} {p u : Tmp} (h : fn.results = #[.cell p 133, .tmp u]) (tmps : Array Value) (w : World) (b : Nat) (s d : Int) (hp : tmps.getD p undef = .pointer (some ⟨b, 0, none⟩))
    (h0 : w.cell? ⟨b, 0, none⟩ = some (.int .i64 s)) (h1 : w.cell? ⟨b, 1, none⟩ = some (.int .i64 d)) :
    (results fn tmps).run Tryz.prog w = .ok (.tuple #[.agg #[.int .i64 s, .int .i64 d], tmps.getD u undef]) w := by
  have hl := run_loadVar_mid (P := Tryz.prog) w b 0 133 [.int .i64 s, .int .i64 d] _ (pair_range h0 h1) Tryz.underlying133 rfl iShape
  rw [results_cell_tmp h, hp]
  simp only [asAddr, Sem.run_pure, Result.andThen_ok, hl]
/-- What behind returns: whether the node is right there, and if so its size and depth. -/
def BehindEnds (r : Acc) (x : Nd) (w : World) (e : Ending) (w' : World) : Prop :=
  ∃ s d : Int, e = .returned (.tuple #[.agg #[.int .i64 s, .int .i64 d], .bool (step r x).isSome]) ∧ (∀ p, step r x = some p → s = (p.1 : Nat) ∧ d = (p.2 : Nat)) ∧ Below w.heap.size w w'
theorem right_parts {x : Nd} {a b : Int} : rightB x a b = (inB x.kind 1 19 && fitsB x.kind x.n x.at_ && decide (x.a = a ∧ x.b = b)) := by
  rw [Bool.eq_iff_iff, right_iff, Bool.and_eq_true, Bool.and_eq_true]
  unfold inB fitsB
  rw [decide_eq_true_iff, decide_eq_true_iff, decide_eq_true_iff]
  omega
theorem step_bad {r : Acc} {x : Nd} (h : ∀ a b, rightB x a b = false) : step r x = none := by
  unfold step
  split
  · rw [h]; rfl
  split
  · rfl
  split
  · rw [h]; rfl
  split
  · rfl
  rw [h]; rfl
theorem at_world {P : Program} {c : Code} {Q : Exit → Act → World → Prop} {a : Act} {w0 : World} (F : World → Prop) (h0 : F w0) (h : ∀ W, F W → Code.wp P c Q a W) : Code.wp P c Q a w0 := h w0 h0
/-- What the loop and the last statement of behind read and write: the node, the result's block, the whole, the ends of parts. -/
def TailAt (w : World) (x : Nd) (s d e0 e1 : Int) (W : World) : Prop :=
  (W.cell? ⟨w.heap.size, 0, none⟩ = some (.int .u8 x.kind) ∧ W.cell? ⟨w.heap.size, 1, none⟩ = some (.int .i64 x.n) ∧ W.cell? ⟨w.heap.size, 2, none⟩ = some (.int .i64 x.a) ∧ W.cell? ⟨w.heap.size, 3, none⟩ = some (.int .i64 x.b) ∧ W.cell? ⟨w.heap.size, 4, none⟩ = some (.int .i64 x.at_)) ∧
  (W.cell? ⟨w.heap.size + 1, 0, none⟩ = some (.int .i64 0) ∧ W.cell? ⟨w.heap.size + 1, 1, none⟩ = some (.int .i64 0) ∧ W.frozen? ⟨w.heap.size + 1, 0, none⟩ = false ∧ W.frozen? ⟨w.heap.size + 1, 1, none⟩ = false) ∧
  (W.cell? ⟨w.heap.size + 1 + 1, 0, none⟩ = some (.int .i64 s) ∧ W.cell? ⟨w.heap.size + 1 + 1, 1, none⟩ = some (.int .i64 d) ∧ W.frozen? ⟨w.heap.size + 1 + 1, 0, none⟩ = false ∧ W.frozen? ⟨w.heap.size + 1 + 1, 1, none⟩ = false) ∧
  (W.cell? ⟨w.heap.size + 1 + 1 + 1, 0, none⟩ = some (.int .i64 e0) ∧ W.cell? ⟨w.heap.size + 1 + 1 + 1, 1, none⟩ = some (.int .i64 e1) ∧ W.frozen? ⟨w.heap.size + 1 + 1 + 1, 0, none⟩ = false ∧ W.frozen? ⟨w.heap.size + 1 + 1 + 1, 1, none⟩ = false) ∧
  w.heap.size + 1 + 1 + 1 < W.heap.size ∧ Below w.heap.size w W
theorem TailAt.round0 {w W : World} {x : Nd} {s d e0 e1 : Int} (h : TailAt w x s d e0 e1 W) (s' d' e : Int) (u v : Value) (T : TypeId) :
    TailAt w x s' d' e e1 ((((W.setCell ⟨w.heap.size + 1 + 1 + 1, 0, none⟩ (.int .i64 e)).setCell ⟨w.heap.size + 1 + 1, 0, none⟩ (.int .i64 s')).setCell ⟨w.heap.size + 1 + 1, 1, none⟩ (.int .i64 d')).alloc (Obj.cells #[u, v] T)) := by
  obtain ⟨⟨c0, c1, c2, c3, c4⟩, ⟨r0, r1, f0, f1⟩, ⟨s0, s1, f2, f3⟩, ⟨g0, g1, f4, f5⟩, hsz, hb⟩ := h
  have l0 : w.heap.size < W.heap.size := by omega
  have l1 : w.heap.size + 1 < W.heap.size := by omega
  have l2 : w.heap.size + 1 + 1 < W.heap.size := by omega
  refine ⟨⟨?_, ?_, ?_, ?_, ?_⟩, ⟨?_, ?_, ?_, ?_⟩, ⟨?_, ?_, ?_, ?_⟩, ⟨?_, ?_, ?_, ?_⟩, ?_, (((hb.setCell (Nat.le_add_right _ 3) _).setCell (Nat.le_add_right _ 2) _).setCell (Nat.le_add_right _ 2) _).alloc (by simp; omega) _⟩
  all_goals first
    | (simp [go_sem, c0, c1, c2, c3, c4, r0, r1, f0, f1, s0, s1, f2, f3, g0, g1, f4, f5, l0, l1, l2, hsz]; done)
    | (simp; omega)
theorem TailAt.round1 {w W : World} {x : Nd} {s d e0 e1 : Int} (h : TailAt w x s d e0 e1 W) (s' d' e : Int) (u v : Value) (T : TypeId) :
    TailAt w x s' d' e0 e ((((W.setCell ⟨w.heap.size + 1 + 1 + 1, 1, none⟩ (.int .i64 e)).setCell ⟨w.heap.size + 1 + 1, 0, none⟩ (.int .i64 s')).setCell ⟨w.heap.size + 1 + 1, 1, none⟩ (.int .i64 d')).alloc (Obj.cells #[u, v] T)) := by
  obtain ⟨⟨c0, c1, c2, c3, c4⟩, ⟨r0, r1, f0, f1⟩, ⟨s0, s1, f2, f3⟩, ⟨g0, g1, f4, f5⟩, hsz, hb⟩ := h
  have l0 : w.heap.size < W.heap.size := by omega
  have l1 : w.heap.size + 1 < W.heap.size := by omega
  have l2 : w.heap.size + 1 + 1 < W.heap.size := by omega
  refine ⟨⟨?_, ?_, ?_, ?_, ?_⟩, ⟨?_, ?_, ?_, ?_⟩, ⟨?_, ?_, ?_, ?_⟩, ⟨?_, ?_, ?_, ?_⟩, ?_, (((hb.setCell (Nat.le_add_right _ 3) _).setCell (Nat.le_add_right _ 2) _).setCell (Nat.le_add_right _ 2) _).alloc (by simp; omega) _⟩
  all_goals first
    | (simp [go_sem, c0, c1, c2, c3, c4, r0, r1, f0, f1, s0, s1, f2, f3, g0, g1, f4, f5, l0, l1, l2, hsz]; done)
    | (simp; omega)
set_option maxRecDepth 100000 in
set_option maxHeartbeats 6000000 in
theorem behind_any (v : Value) (r : Acc) (x : Nd) (w : World) (hR : ReadsS w v r) (hn : r.length ≤ 1000000) (hs : ∀ i, i < r.length → 1 ≤ sz r i ∧ sz r i ≤ i + 1 ∧ 1 ≤ dp r i ∧ dp r i ≤ sz r i) :
    Calls Tryz.prog 92 #[v, ndVal x] w (BehindEnds r x w) := by
  obtain ⟨ad, cap, rfl⟩ := hR.shape
  have HR := Lib.hid hR
  have HS := Lib.hid hs
  clear hR hs
  have P := Lib.hid (fun W => nodesParts_same x.kind W)
  have F := Lib.hid (fun W => fits_any x.kind x.n x.at_ W)
  have HRT := Lib.hid (fun a b => right_parts (x := x) (a := a) (b := b))
  have HSB := Lib.hid (step_bad (r := r) (x := x))
  have H0 := Lib.hid (step0 (acc := r) (x := x))
  have H1 := Lib.hid (step1 (acc := r) (x := x))
  have H2 := Lib.hid (step2 (acc := r) (x := x))
  have HST : Hid (∃ q, step r x = q) := Lib.hid ⟨_, rfl⟩
  obtain ⟨xk, xn, xa, xb, xp⟩ := x
  unfold ndVal
  simp only at P F
  cases hk : inB xk 1 19
  · have HV : Hid (step r ⟨xk, xn, xa, xb, xp⟩ = none) := Lib.hid (HSB.out fun a b => by rw [HRT.out a b]; simp only; rw [hk]; rfl)
    have hp : partsV xk = (0, 2) := by unfold partsV; rw [if_neg (by unfold inB at hk; exact of_decide_eq_false hk)]
    rw [hp] at P
    clear hk hp
    go_enter Tryz.func92, Tryz.ntmps92
    go_wp2_with fail
    refine (P.out _).mono ?_
    rintro e w2 ⟨rfl, rfl⟩
    go_wp2_with fail
    refine bodyPost_ret (ret_shape rfl _ _ (w.heap.size + 1) 0 0 rfl (by simp [go_sem]) (by simp [go_sem])) rfl ?_
    refine ⟨0, 0, by rw [HV.out]; rfl, fun p hp => ?_, ?_⟩
    · rw [HV.out] at hp; cases hp
    · exact ((Below.refl w.heap.size w).alloc (Nat.le_refl _) _).alloc (by simp) _
  have hp : partsV xk = (((arity xk : Nat) : Int), 0) := by unfold partsV; rw [if_pos (by unfold inB at hk; exact of_decide_eq_true hk)]
  rw [hp] at P
  cases hf : fitsB xk xn xp
  · have HV : Hid (step r ⟨xk, xn, xa, xb, xp⟩ = none) := Lib.hid (HSB.out fun a b => by rw [HRT.out a b]; simp only; rw [hf, Bool.and_false]; rfl)
    rw [hf] at F
    clear hk hp
    go_enter Tryz.func92, Tryz.ntmps92
    go_wp2_with fail
    refine (P.out _).mono ?_
    rintro e w2 ⟨rfl, rfl⟩
    go_wp2_with fail
    refine (F.out _).mono ?_
    rintro e w2 ⟨rfl, rfl⟩
    go_wp2_with fail
    refine bodyPost_ret (ret_shape rfl _ _ (w.heap.size + 1) 0 0 rfl (by simp [go_sem]) (by simp [go_sem])) rfl ?_
    refine ⟨0, 0, by rw [HV.out]; rfl, fun p hp => ?_, ?_⟩
    · rw [HV.out] at hp; cases hp
    · exact ((Below.refl w.heap.size w).alloc (Nat.le_refl _) _).alloc (by simp) _
  rw [hf] at F
  have HQ : Hid (∀ a b, rightB ⟨xk, xn, xa, xb, xp⟩ a b = decide (xa = a ∧ xb = b)) := Lib.hid (fun a b => by rw [HRT.out a b]; simp only; rw [hk, hf]; rfl)
  rcases arity_cases xk with h0 | h0 | h0
  · rw [h0] at P
    have HV := Lib.hid (H0.out h0)
    clear hk hp hf h0
    go_enter Tryz.func92, Tryz.ntmps92
    go_wp2_with fail
    refine (P.out _).mono ?_
    rintro e w2 ⟨rfl, rfl⟩
    go_wp2_with fail
    refine (F.out _).mono ?_
    rintro e w2 ⟨rfl, rfl⟩
    go_wp2_with fail
    refine at_world (TailAt w ⟨xk, xn, xa, xb, xp⟩ 1 1 0 0) ?_ ?_
    · unfold TailAt
      refine ⟨?_, ?_, ?_, ?_, ?_, (((Below.refl w.heap.size w).alloc (Nat.le_refl _) _).alloc (by simp) _).alloc (by simp; omega) _ |>.alloc (by simp; omega) _⟩
      all_goals simp [go_sem]
    intro W hW
    have HT := Lib.hid hW
    obtain ⟨⟨c0, c1, c2, c3, c4⟩, ⟨r0, r1, f0, f1⟩, ⟨s0, s1, f2, f3⟩, ⟨g0, g1, f4, f5⟩, hsz, hb⟩ := hW
    have HB := Lib.hid hb
    clear hb
    have n0 : ¬ (w.heap.size = W.heap.size) := by omega
    have n1 : ¬ (w.heap.size + 1 = W.heap.size) := by omega
    have n2 : ¬ (w.heap.size + 1 + 1 = W.heap.size) := by omega
    have n3 : ¬ (w.heap.size + 1 + 1 + 1 = W.heap.size) := by omega
    have l2 : w.heap.size + 1 + 1 < W.heap.size := by omega
    simp only at c0 c1 c2 c3 c4
    refine wp_loop_rounds 1 ?_
    rw [rounds_succ]
    go_wp2_with fail
    cases q1 : (xa == 0)
    · skip
      have HW : Hid (step r ⟨xk, xn, xa, xb, xp⟩ = none) := Lib.hid (by rw [HV.out]; exact if_neg (by rw [HQ.out]; rw [beq_eq_false_iff_ne] at q1; simp; omega))
      go_region_held3 (fun w' => w'.cell? ⟨w.heap.size, 0, none⟩ = some (.int .u8 xk) ∧ w'.cell? ⟨w.heap.size, 1, none⟩ = some (.int .i64 xn) ∧ w'.cell? ⟨w.heap.size, 2, none⟩ = some (.int .i64 xa) ∧ w'.cell? ⟨w.heap.size, 3, none⟩ = some (.int .i64 xb) ∧ w'.cell? ⟨w.heap.size, 4, none⟩ = some (.int .i64 xp) ∧ w'.cell? ⟨w.heap.size + 1 + 1, 0, none⟩ = some (.int .i64 1) ∧ w'.cell? ⟨w.heap.size + 1 + 1, 1, none⟩ = some (.int .i64 1) ∧ w'.cell? ⟨w.heap.size + 1 + 1 + 1, 0, none⟩ = some (.int .i64 0) ∧ w'.cell? ⟨w.heap.size + 1 + 1 + 1, 1, none⟩ = some (.int .i64 0)) (go_keep) (fail)
      go_wp2_with fail
      refine bodyPost_ret (ret_shape rfl _ _ (w.heap.size + 1) 1 1 rfl (by simp [go_sem, r0]) (by simp [go_sem, r1])) rfl ?_
      refine ⟨1, 1, by rw [HW.out]; rfl, fun p hp => ?_, ?_⟩
      · rw [HW.out] at hp; cases hp
      · exact below_drewN (((HB.out.setCell (Nat.le_succ _) _).setCell (Nat.le_succ _) _)) 1
    cases q2 : (xb == 0)
    · skip
      have HW : Hid (step r ⟨xk, xn, xa, xb, xp⟩ = none) := Lib.hid (by rw [HV.out]; exact if_neg (by rw [HQ.out]; rw [beq_eq_false_iff_ne] at q2; simp; omega))
      go_region_held3 (fun w' => w'.cell? ⟨w.heap.size, 0, none⟩ = some (.int .u8 xk) ∧ w'.cell? ⟨w.heap.size, 1, none⟩ = some (.int .i64 xn) ∧ w'.cell? ⟨w.heap.size, 2, none⟩ = some (.int .i64 xa) ∧ w'.cell? ⟨w.heap.size, 3, none⟩ = some (.int .i64 xb) ∧ w'.cell? ⟨w.heap.size, 4, none⟩ = some (.int .i64 xp) ∧ w'.cell? ⟨w.heap.size + 1 + 1, 0, none⟩ = some (.int .i64 1) ∧ w'.cell? ⟨w.heap.size + 1 + 1, 1, none⟩ = some (.int .i64 1) ∧ w'.cell? ⟨w.heap.size + 1 + 1 + 1, 0, none⟩ = some (.int .i64 0) ∧ w'.cell? ⟨w.heap.size + 1 + 1 + 1, 1, none⟩ = some (.int .i64 0)) (go_keep) (fail)
      go_wp2_with fail
      refine bodyPost_ret (ret_shape rfl _ _ (w.heap.size + 1) 1 1 rfl (by simp [go_sem, r0]) (by simp [go_sem, r1])) rfl ?_
      refine ⟨1, 1, by rw [HW.out]; rfl, fun p hp => ?_, ?_⟩
      · rw [HW.out] at hp; cases hp
      · exact below_drewN (((HB.out.setCell (Nat.le_succ _) _).setCell (Nat.le_succ _) _)) 1
    have HW : Hid (step r ⟨xk, xn, xa, xb, xp⟩ = some (1, 1)) := Lib.hid (by rw [HV.out]; rw [beq_iff_eq] at q1 q2; exact if_pos (by rw [HQ.out]; exact decide_eq_true ⟨q1, q2⟩))
    go_region_held3 (fun w' => w'.cell? ⟨w.heap.size, 0, none⟩ = some (.int .u8 xk) ∧ w'.cell? ⟨w.heap.size, 1, none⟩ = some (.int .i64 xn) ∧ w'.cell? ⟨w.heap.size, 2, none⟩ = some (.int .i64 xa) ∧ w'.cell? ⟨w.heap.size, 3, none⟩ = some (.int .i64 xb) ∧ w'.cell? ⟨w.heap.size, 4, none⟩ = some (.int .i64 xp) ∧ w'.cell? ⟨w.heap.size + 1 + 1, 0, none⟩ = some (.int .i64 1) ∧ w'.cell? ⟨w.heap.size + 1 + 1, 1, none⟩ = some (.int .i64 1) ∧ w'.cell? ⟨w.heap.size + 1 + 1 + 1, 0, none⟩ = some (.int .i64 0) ∧ w'.cell? ⟨w.heap.size + 1 + 1 + 1, 1, none⟩ = some (.int .i64 0)) (go_keep) (fail)
    go_wp2_with fail
    refine bodyPost_ret (ret_shape rfl _ _ (w.heap.size + 1) 1 1 rfl (by simp [go_sem, r0]) (by simp [go_sem, r1])) rfl ?_
    refine ⟨1, 1, by rw [HW.out]; rfl, fun p hp => ?_, ?_⟩
    · rw [HW.out] at hp; cases hp; exact ⟨(by first | rfl | (simp; done) | (simp; omega)), (by first | rfl | (simp; done) | (simp; omega))⟩
    · exact below_drewN (((HB.out.setCell (Nat.le_succ _) _).setCell (Nat.le_succ _) _)) 1
  · cases hl : r.length with
    | zero =>
      rw [h0] at P
      have HV := Lib.hid (H1.out h0)
      rw [hl, if_pos rfl] at HV
      clear hk hp hf h0 hl
      go_enter Tryz.func92, Tryz.ntmps92
      go_wp2_with fail
      refine (P.out _).mono ?_
      rintro e w2 ⟨rfl, rfl⟩
      go_wp2_with fail
      refine (F.out _).mono ?_
      rintro e w2 ⟨rfl, rfl⟩
      go_wp2_with fail
      refine at_world (TailAt w ⟨xk, xn, xa, xb, xp⟩ 1 1 0 0) ?_ ?_
      · unfold TailAt
        refine ⟨?_, ?_, ?_, ?_, ?_, (((Below.refl w.heap.size w).alloc (Nat.le_refl _) _).alloc (by simp) _).alloc (by simp; omega) _ |>.alloc (by simp; omega) _⟩
        all_goals simp [go_sem]
      intro W hW
      have HT := Lib.hid hW
      obtain ⟨⟨c0, c1, c2, c3, c4⟩, ⟨r0, r1, f0, f1⟩, ⟨s0, s1, f2, f3⟩, ⟨g0, g1, f4, f5⟩, hsz, hb⟩ := hW
      have HB := Lib.hid hb
      clear hb
      have n0 : ¬ (w.heap.size = W.heap.size) := by omega
      have n1 : ¬ (w.heap.size + 1 = W.heap.size) := by omega
      have n2 : ¬ (w.heap.size + 1 + 1 = W.heap.size) := by omega
      have n3 : ¬ (w.heap.size + 1 + 1 + 1 = W.heap.size) := by omega
      have l2 : w.heap.size + 1 + 1 < W.heap.size := by omega
      simp only at c0 c1 c2 c3 c4
      refine wp_loop_rounds 2 ?_
      rw [rounds_succ]
      go_wp2_with fail
      refine bodyPost_ret (ret_shape rfl _ _ (w.heap.size + 1) 0 0 rfl (by simp [go_sem, r0]) (by simp [go_sem, r1])) rfl ?_
      refine ⟨0, 0, by rw [HV.out]; rfl, fun p hp => ?_, ?_⟩
      · rw [HV.out] at hp; cases hp
      · exact (HB.out.setCell (Nat.le_succ _) _).setCell (Nat.le_succ _) _
    | succ m =>
      obtain ⟨sm, hsm⟩ : ∃ s, sz r m = s := ⟨_, rfl⟩
      obtain ⟨dm, hdm⟩ : ∃ d, dp r m = d := ⟨_, rfl⟩
      have hb1 := HS.out m (by omega)
      rw [hsm, hdm] at hb1
      obtain ⟨b1, b2, b3, b4⟩ := hb1
      obtain ⟨bb, oo, cap', hv, hbb, m0, m1⟩ := HR.out.at_ m (by omega)
      cases hv
      rw [hsm] at m0
      rw [hdm] at m1
      have hm1 : m + 1 ≤ 1000000 := by omega
      rw [h0] at P
      have HV := Lib.hid (H1.out h0)
      rw [hl] at HV
      rw [if_neg (by omega), Nat.add_sub_cancel, hsm, hdm] at HV
      clear hk hp hf h0 hsm hdm hl
      go_enter Tryz.func92, Tryz.ntmps92
      go_wp2_with fail
      refine (P.out _).mono ?_
      rintro e w2 ⟨rfl, rfl⟩
      go_wp2_with fail
      refine (F.out _).mono ?_
      rintro e w2 ⟨rfl, rfl⟩
      go_wp2_with fail
      refine at_world (TailAt w ⟨xk, xn, xa, xb, xp⟩ 1 1 0 0) ?_ ?_
      · unfold TailAt
        refine ⟨?_, ?_, ?_, ?_, ?_, (((Below.refl w.heap.size w).alloc (Nat.le_refl _) _).alloc (by simp) _).alloc (by simp; omega) _ |>.alloc (by simp; omega) _⟩
        all_goals simp [go_sem]
      intro W hW
      have HT := Lib.hid hW
      obtain ⟨⟨c0, c1, c2, c3, c4⟩, ⟨r0, r1, f0, f1⟩, ⟨s0, s1, f2, f3⟩, ⟨g0, g1, f4, f5⟩, hsz, hb⟩ := hW
      have HB := Lib.hid hb
      clear hb
      have n0 : ¬ (w.heap.size = W.heap.size) := by omega
      have n1 : ¬ (w.heap.size + 1 = W.heap.size) := by omega
      have n2 : ¬ (w.heap.size + 1 + 1 = W.heap.size) := by omega
      have n3 : ¬ (w.heap.size + 1 + 1 + 1 = W.heap.size) := by omega
      have l2 : w.heap.size + 1 + 1 < W.heap.size := by omega
      simp only at c0 c1 c2 c3 c4
      have k0 := (HB.out.cell (p := ⟨bb, _, none⟩) hbb).trans m0
      have k1 := (HB.out.cell (p := ⟨bb, _, none⟩) hbb).trans m1
      refine wp_loop_rounds 2 ?_
      rw [rounds_succ]
      go_wp2_with fail
      rw [rounds_succ]
      refine at_world (TailAt w ⟨xk, xn, xa, xb, xp⟩ (1 + sm) (dm + 1) m 0) ?_ ?_
      · exact HT.out.round0 _ _ _ _ _ _
      intro W2 hW
      clear c0 c1 c2 c3 c4 r0 r1 f0 f1 s0 s1 f2 f3 g0 g1 f4 f5 hsz HB n0 n1 n2 n3 l2 HT
      have HT := Lib.hid hW
      obtain ⟨⟨c0, c1, c2, c3, c4⟩, ⟨r0, r1, f0, f1⟩, ⟨s0, s1, f2, f3⟩, ⟨g0, g1, f4, f5⟩, hsz, hb⟩ := hW
      have HB := Lib.hid hb
      clear hb
      have n0 : ¬ (w.heap.size = W2.heap.size) := by omega
      have n1 : ¬ (w.heap.size + 1 = W2.heap.size) := by omega
      have n2 : ¬ (w.heap.size + 1 + 1 = W2.heap.size) := by omega
      have n3 : ¬ (w.heap.size + 1 + 1 + 1 = W2.heap.size) := by omega
      have l2 : w.heap.size + 1 + 1 < W2.heap.size := by omega
      simp only at c0 c1 c2 c3 c4
      go_wp2_with fail
      cases q1 : (xa == m)
      · skip
        have HW : Hid (step r ⟨xk, xn, xa, xb, xp⟩ = none) := Lib.hid (by rw [HV.out]; exact if_neg (by rw [HQ.out]; rw [beq_eq_false_iff_ne] at q1; simp; omega))
        go_region_held3 (fun w' => w'.cell? ⟨w.heap.size, 0, none⟩ = some (.int .u8 xk) ∧ w'.cell? ⟨w.heap.size, 1, none⟩ = some (.int .i64 xn) ∧ w'.cell? ⟨w.heap.size, 2, none⟩ = some (.int .i64 xa) ∧ w'.cell? ⟨w.heap.size, 3, none⟩ = some (.int .i64 xb) ∧ w'.cell? ⟨w.heap.size, 4, none⟩ = some (.int .i64 xp) ∧ w'.cell? ⟨w.heap.size + 1 + 1, 0, none⟩ = some (.int .i64 (1 + sm)) ∧ w'.cell? ⟨w.heap.size + 1 + 1, 1, none⟩ = some (.int .i64 (dm + 1)) ∧ w'.cell? ⟨w.heap.size + 1 + 1 + 1, 0, none⟩ = some (.int .i64 m) ∧ w'.cell? ⟨w.heap.size + 1 + 1 + 1, 1, none⟩ = some (.int .i64 0)) (go_keep) (fail)
        go_wp2_with fail
        refine bodyPost_ret (ret_shape rfl _ _ (w.heap.size + 1) (1 + sm) (dm + 1) rfl (by simp [go_sem, r0]) (by simp [go_sem, r1])) rfl ?_
        refine ⟨(1 + sm), (dm + 1), by rw [HW.out]; rfl, fun p hp => ?_, ?_⟩
        · rw [HW.out] at hp; cases hp
        · exact below_drewN (((HB.out.setCell (Nat.le_succ _) _).setCell (Nat.le_succ _) _)) 1
      cases q2 : (xb == 0)
      · skip
        have HW : Hid (step r ⟨xk, xn, xa, xb, xp⟩ = none) := Lib.hid (by rw [HV.out]; exact if_neg (by rw [HQ.out]; rw [beq_eq_false_iff_ne] at q2; simp; omega))
        go_region_held3 (fun w' => w'.cell? ⟨w.heap.size, 0, none⟩ = some (.int .u8 xk) ∧ w'.cell? ⟨w.heap.size, 1, none⟩ = some (.int .i64 xn) ∧ w'.cell? ⟨w.heap.size, 2, none⟩ = some (.int .i64 xa) ∧ w'.cell? ⟨w.heap.size, 3, none⟩ = some (.int .i64 xb) ∧ w'.cell? ⟨w.heap.size, 4, none⟩ = some (.int .i64 xp) ∧ w'.cell? ⟨w.heap.size + 1 + 1, 0, none⟩ = some (.int .i64 (1 + sm)) ∧ w'.cell? ⟨w.heap.size + 1 + 1, 1, none⟩ = some (.int .i64 (dm + 1)) ∧ w'.cell? ⟨w.heap.size + 1 + 1 + 1, 0, none⟩ = some (.int .i64 m) ∧ w'.cell? ⟨w.heap.size + 1 + 1 + 1, 1, none⟩ = some (.int .i64 0)) (go_keep) (fail)
        go_wp2_with fail
        refine bodyPost_ret (ret_shape rfl _ _ (w.heap.size + 1) (1 + sm) (dm + 1) rfl (by simp [go_sem, r0]) (by simp [go_sem, r1])) rfl ?_
        refine ⟨(1 + sm), (dm + 1), by rw [HW.out]; rfl, fun p hp => ?_, ?_⟩
        · rw [HW.out] at hp; cases hp
        · exact below_drewN (((HB.out.setCell (Nat.le_succ _) _).setCell (Nat.le_succ _) _)) 1
      have HW : Hid (step r ⟨xk, xn, xa, xb, xp⟩ = some (1 + sm, 1 + dm)) := Lib.hid (by rw [HV.out]; rw [beq_iff_eq] at q1 q2; exact if_pos (by rw [HQ.out]; exact decide_eq_true ⟨q1, q2⟩))
      go_region_held3 (fun w' => w'.cell? ⟨w.heap.size, 0, none⟩ = some (.int .u8 xk) ∧ w'.cell? ⟨w.heap.size, 1, none⟩ = some (.int .i64 xn) ∧ w'.cell? ⟨w.heap.size, 2, none⟩ = some (.int .i64 xa) ∧ w'.cell? ⟨w.heap.size, 3, none⟩ = some (.int .i64 xb) ∧ w'.cell? ⟨w.heap.size, 4, none⟩ = some (.int .i64 xp) ∧ w'.cell? ⟨w.heap.size + 1 + 1, 0, none⟩ = some (.int .i64 (1 + sm)) ∧ w'.cell? ⟨w.heap.size + 1 + 1, 1, none⟩ = some (.int .i64 (dm + 1)) ∧ w'.cell? ⟨w.heap.size + 1 + 1 + 1, 0, none⟩ = some (.int .i64 m) ∧ w'.cell? ⟨w.heap.size + 1 + 1 + 1, 1, none⟩ = some (.int .i64 0)) (go_keep) (fail)
      go_wp2_with fail
      refine bodyPost_ret (ret_shape rfl _ _ (w.heap.size + 1) (1 + sm) (dm + 1) rfl (by simp [go_sem, r0]) (by simp [go_sem, r1])) rfl ?_
      refine ⟨(1 + sm), (dm + 1), by rw [HW.out]; rfl, fun p hp => ?_, ?_⟩
      · rw [HW.out] at hp; cases hp; exact ⟨(by first | rfl | (simp; done) | (simp; omega)), (by first | rfl | (simp; done) | (simp; omega))⟩
      · exact below_drewN (((HB.out.setCell (Nat.le_succ _) _).setCell (Nat.le_succ _) _)) 1
  · cases hl : r.length with
    | zero =>
      rw [h0] at P
      have HV := Lib.hid (H2.out h0)
      rw [hl, if_pos rfl] at HV
      clear hk hp hf h0 hl
      go_enter Tryz.func92, Tryz.ntmps92
      go_wp2_with fail
      refine (P.out _).mono ?_
      rintro e w2 ⟨rfl, rfl⟩
      go_wp2_with fail
      refine (F.out _).mono ?_
      rintro e w2 ⟨rfl, rfl⟩
      go_wp2_with fail
      refine at_world (TailAt w ⟨xk, xn, xa, xb, xp⟩ 1 1 0 0) ?_ ?_
      · unfold TailAt
        refine ⟨?_, ?_, ?_, ?_, ?_, (((Below.refl w.heap.size w).alloc (Nat.le_refl _) _).alloc (by simp) _).alloc (by simp; omega) _ |>.alloc (by simp; omega) _⟩
        all_goals simp [go_sem]
      intro W hW
      have HT := Lib.hid hW
      obtain ⟨⟨c0, c1, c2, c3, c4⟩, ⟨r0, r1, f0, f1⟩, ⟨s0, s1, f2, f3⟩, ⟨g0, g1, f4, f5⟩, hsz, hb⟩ := hW
      have HB := Lib.hid hb
      clear hb
      have n0 : ¬ (w.heap.size = W.heap.size) := by omega
      have n1 : ¬ (w.heap.size + 1 = W.heap.size) := by omega
      have n2 : ¬ (w.heap.size + 1 + 1 = W.heap.size) := by omega
      have n3 : ¬ (w.heap.size + 1 + 1 + 1 = W.heap.size) := by omega
      have l2 : w.heap.size + 1 + 1 < W.heap.size := by omega
      simp only at c0 c1 c2 c3 c4
      refine wp_loop_rounds 3 ?_
      rw [rounds_succ]
      go_wp2_with fail
      refine bodyPost_ret (ret_shape rfl _ _ (w.heap.size + 1) 0 0 rfl (by simp [go_sem, r0]) (by simp [go_sem, r1])) rfl ?_
      refine ⟨0, 0, by rw [HV.out]; rfl, fun p hp => ?_, ?_⟩
      · rw [HV.out] at hp; cases hp
      · exact (HB.out.setCell (Nat.le_succ _) _).setCell (Nat.le_succ _) _
    | succ m =>
      obtain ⟨sm, hsm⟩ : ∃ s, sz r m = s := ⟨_, rfl⟩
      obtain ⟨dm, hdm⟩ : ∃ d, dp r m = d := ⟨_, rfl⟩
      have hb1 := HS.out m (by omega)
      rw [hsm, hdm] at hb1
      obtain ⟨b1, b2, b3, b4⟩ := hb1
      obtain ⟨bb, oo, cap', hv, hbb, m0, m1⟩ := HR.out.at_ m (by omega)
      cases hv
      rw [hsm] at m0
      rw [hdm] at m1
      have hm1 : m + 1 ≤ 1000000 := by omega
      rw [h0] at P
      have HV := Lib.hid (H2.out h0)
      rw [hl] at HV
      rw [if_neg (by omega), Nat.add_sub_cancel, hsm, hdm] at HV
      by_cases hneg : m < sm
      · rw [if_pos hneg] at HV
        have hneg2 : (m : Int) - sm < 0 := by omega
        clear hk hp hf h0 hsm hdm hl
        go_enter Tryz.func92, Tryz.ntmps92
        go_wp2_with fail
        refine (P.out _).mono ?_
        rintro e w2 ⟨rfl, rfl⟩
        go_wp2_with fail
        refine (F.out _).mono ?_
        rintro e w2 ⟨rfl, rfl⟩
        go_wp2_with fail
        refine at_world (TailAt w ⟨xk, xn, xa, xb, xp⟩ 1 1 0 0) ?_ ?_
        · unfold TailAt
          refine ⟨?_, ?_, ?_, ?_, ?_, (((Below.refl w.heap.size w).alloc (Nat.le_refl _) _).alloc (by simp) _).alloc (by simp; omega) _ |>.alloc (by simp; omega) _⟩
          all_goals simp [go_sem]
        intro W hW
        have HT := Lib.hid hW
        obtain ⟨⟨c0, c1, c2, c3, c4⟩, ⟨r0, r1, f0, f1⟩, ⟨s0, s1, f2, f3⟩, ⟨g0, g1, f4, f5⟩, hsz, hb⟩ := hW
        have HB := Lib.hid hb
        clear hb
        have n0 : ¬ (w.heap.size = W.heap.size) := by omega
        have n1 : ¬ (w.heap.size + 1 = W.heap.size) := by omega
        have n2 : ¬ (w.heap.size + 1 + 1 = W.heap.size) := by omega
        have n3 : ¬ (w.heap.size + 1 + 1 + 1 = W.heap.size) := by omega
        have l2 : w.heap.size + 1 + 1 < W.heap.size := by omega
        simp only at c0 c1 c2 c3 c4
        have k0 := (HB.out.cell (p := ⟨bb, _, none⟩) hbb).trans m0
        have k1 := (HB.out.cell (p := ⟨bb, _, none⟩) hbb).trans m1
        refine wp_loop_rounds 3 ?_
        rw [rounds_succ]
        go_wp2_with fail
        rw [rounds_succ]
        refine at_world (TailAt w ⟨xk, xn, xa, xb, xp⟩ (1 + sm) (dm + 1) 0 m) ?_ ?_
        · exact HT.out.round1 _ _ _ _ _ _
        intro W2 hW
        clear c0 c1 c2 c3 c4 r0 r1 f0 f1 s0 s1 f2 f3 g0 g1 f4 f5 hsz HB n0 n1 n2 n3 l2 HT
        have HT := Lib.hid hW
        obtain ⟨⟨c0, c1, c2, c3, c4⟩, ⟨r0, r1, f0, f1⟩, ⟨s0, s1, f2, f3⟩, ⟨g0, g1, f4, f5⟩, hsz, hb⟩ := hW
        have HB := Lib.hid hb
        clear hb
        have n0 : ¬ (w.heap.size = W2.heap.size) := by omega
        have n1 : ¬ (w.heap.size + 1 = W2.heap.size) := by omega
        have n2 : ¬ (w.heap.size + 1 + 1 = W2.heap.size) := by omega
        have n3 : ¬ (w.heap.size + 1 + 1 + 1 = W2.heap.size) := by omega
        have l2 : w.heap.size + 1 + 1 < W2.heap.size := by omega
        simp only at c0 c1 c2 c3 c4
        clear k0 k1
        go_wp2_with fail
        refine bodyPost_ret (ret_shape rfl _ _ (w.heap.size + 1) 0 0 rfl (by simp [go_sem, r0]) (by simp [go_sem, r1])) rfl ?_
        refine ⟨0, 0, by rw [HV.out]; rfl, fun p hp => ?_, ?_⟩
        · rw [HV.out] at hp; cases hp
        · exact (HB.out.setCell (Nat.le_succ _) _).setCell (Nat.le_succ _) _
      · rw [if_neg hneg] at HV
        obtain ⟨f, hff⟩ : ∃ f, m - sm = f := ⟨_, rfl⟩
        rw [hff] at HV
        obtain ⟨sf, hsf⟩ : ∃ s, sz r f = s := ⟨_, rfl⟩
        obtain ⟨df, hdf⟩ : ∃ d, dp r f = d := ⟨_, rfl⟩
        have hb2 := HS.out f (by omega)
        rw [hsf, hdf] at hb2
        obtain ⟨q1, q2, q3, q4⟩ := hb2
        obtain ⟨_, _, _, hv, _, p0, p1⟩ := HR.out.at_ f (by omega)
        cases hv
        rw [hsf] at p0 HV
        rw [hdf] at p1 HV
        have hfi : (m : Int) - sm = f := by omega
        have hfm : f ≤ m := by omega
        clear hk hp hf h0 hsm hdm hsf hdf hl hneg hff
        by_cases hmx : dm < df
        · have hmx2 : max (1 + dm) (1 + df) = 1 + df := by omega
          rw [hmx2] at HV
          clear hmx2
          go_enter Tryz.func92, Tryz.ntmps92
          go_wp2_with fail
          refine (P.out _).mono ?_
          rintro e w2 ⟨rfl, rfl⟩
          go_wp2_with fail
          refine (F.out _).mono ?_
          rintro e w2 ⟨rfl, rfl⟩
          go_wp2_with fail
          refine at_world (TailAt w ⟨xk, xn, xa, xb, xp⟩ 1 1 0 0) ?_ ?_
          · unfold TailAt
            refine ⟨?_, ?_, ?_, ?_, ?_, (((Below.refl w.heap.size w).alloc (Nat.le_refl _) _).alloc (by simp) _).alloc (by simp; omega) _ |>.alloc (by simp; omega) _⟩
            all_goals simp [go_sem]
          intro W hW
          have HT := Lib.hid hW
          obtain ⟨⟨c0, c1, c2, c3, c4⟩, ⟨r0, r1, f0, f1⟩, ⟨s0, s1, f2, f3⟩, ⟨g0, g1, f4, f5⟩, hsz, hb⟩ := hW
          have HB := Lib.hid hb
          clear hb
          have n0 : ¬ (w.heap.size = W.heap.size) := by omega
          have n1 : ¬ (w.heap.size + 1 = W.heap.size) := by omega
          have n2 : ¬ (w.heap.size + 1 + 1 = W.heap.size) := by omega
          have n3 : ¬ (w.heap.size + 1 + 1 + 1 = W.heap.size) := by omega
          have l2 : w.heap.size + 1 + 1 < W.heap.size := by omega
          simp only at c0 c1 c2 c3 c4
          have k0 := (HB.out.cell (p := ⟨bb, _, none⟩) hbb).trans m0
          have k1 := (HB.out.cell (p := ⟨bb, _, none⟩) hbb).trans m1
          refine wp_loop_rounds 3 ?_
          rw [rounds_succ]
          go_wp2_with fail
          rw [rounds_succ]
          refine at_world (TailAt w ⟨xk, xn, xa, xb, xp⟩ (1 + sm) (dm + 1) 0 m) ?_ ?_
          · exact HT.out.round1 _ _ _ _ _ _
          intro W2 hW
          clear c0 c1 c2 c3 c4 r0 r1 f0 f1 s0 s1 f2 f3 g0 g1 f4 f5 hsz HB n0 n1 n2 n3 l2 HT
          have HT := Lib.hid hW
          obtain ⟨⟨c0, c1, c2, c3, c4⟩, ⟨r0, r1, f0, f1⟩, ⟨s0, s1, f2, f3⟩, ⟨g0, g1, f4, f5⟩, hsz, hb⟩ := hW
          have HB := Lib.hid hb
          clear hb
          have n0 : ¬ (w.heap.size = W2.heap.size) := by omega
          have n1 : ¬ (w.heap.size + 1 = W2.heap.size) := by omega
          have n2 : ¬ (w.heap.size + 1 + 1 = W2.heap.size) := by omega
          have n3 : ¬ (w.heap.size + 1 + 1 + 1 = W2.heap.size) := by omega
          have l2 : w.heap.size + 1 + 1 < W2.heap.size := by omega
          simp only at c0 c1 c2 c3 c4
          clear k0 k1
          have k0 := (HB.out.cell (p := ⟨bb, _, none⟩) hbb).trans p0
          have k1 := (HB.out.cell (p := ⟨bb, _, none⟩) hbb).trans p1
          go_wp2_with fail
          rw [rounds_succ]
          refine at_world (TailAt w ⟨xk, xn, xa, xb, xp⟩ (1 + sm + sf) (df + 1) f m) ?_ ?_
          · exact HT.out.round0 _ _ _ _ _ _
          intro W3 hW
          clear c0 c1 c2 c3 c4 r0 r1 f0 f1 s0 s1 f2 f3 g0 g1 f4 f5 hsz HB n0 n1 n2 n3 l2 HT
          have HT := Lib.hid hW
          obtain ⟨⟨c0, c1, c2, c3, c4⟩, ⟨r0, r1, f0, f1⟩, ⟨s0, s1, f2, f3⟩, ⟨g0, g1, f4, f5⟩, hsz, hb⟩ := hW
          have HB := Lib.hid hb
          clear hb
          have n0 : ¬ (w.heap.size = W3.heap.size) := by omega
          have n1 : ¬ (w.heap.size + 1 = W3.heap.size) := by omega
          have n2 : ¬ (w.heap.size + 1 + 1 = W3.heap.size) := by omega
          have n3 : ¬ (w.heap.size + 1 + 1 + 1 = W3.heap.size) := by omega
          have l2 : w.heap.size + 1 + 1 < W3.heap.size := by omega
          simp only at c0 c1 c2 c3 c4
          clear k0 k1
          go_wp2_with fail
          cases q1 : (xa == f)
          · skip
            have HW : Hid (step r ⟨xk, xn, xa, xb, xp⟩ = none) := Lib.hid (by rw [HV.out]; exact if_neg (by rw [HQ.out]; rw [beq_eq_false_iff_ne] at q1; simp; omega))
            go_region_held3 (fun w' => w'.cell? ⟨w.heap.size, 0, none⟩ = some (.int .u8 xk) ∧ w'.cell? ⟨w.heap.size, 1, none⟩ = some (.int .i64 xn) ∧ w'.cell? ⟨w.heap.size, 2, none⟩ = some (.int .i64 xa) ∧ w'.cell? ⟨w.heap.size, 3, none⟩ = some (.int .i64 xb) ∧ w'.cell? ⟨w.heap.size, 4, none⟩ = some (.int .i64 xp) ∧ w'.cell? ⟨w.heap.size + 1 + 1, 0, none⟩ = some (.int .i64 (1 + sm + sf)) ∧ w'.cell? ⟨w.heap.size + 1 + 1, 1, none⟩ = some (.int .i64 (df + 1)) ∧ w'.cell? ⟨w.heap.size + 1 + 1 + 1, 0, none⟩ = some (.int .i64 f) ∧ w'.cell? ⟨w.heap.size + 1 + 1 + 1, 1, none⟩ = some (.int .i64 m)) (go_keep) (fail)
            go_wp2_with fail
            refine bodyPost_ret (ret_shape rfl _ _ (w.heap.size + 1) (1 + sm + sf) (df + 1) rfl (by simp [go_sem, r0]) (by simp [go_sem, r1])) rfl ?_
            refine ⟨(1 + sm + sf), (df + 1), by rw [HW.out]; rfl, fun p hp => ?_, ?_⟩
            · rw [HW.out] at hp; cases hp
            · exact below_drewN (((HB.out.setCell (Nat.le_succ _) _).setCell (Nat.le_succ _) _)) 1
          cases q2 : (xb == m)
          · skip
            have HW : Hid (step r ⟨xk, xn, xa, xb, xp⟩ = none) := Lib.hid (by rw [HV.out]; exact if_neg (by rw [HQ.out]; rw [beq_eq_false_iff_ne] at q2; simp; omega))
            go_region_held3 (fun w' => w'.cell? ⟨w.heap.size, 0, none⟩ = some (.int .u8 xk) ∧ w'.cell? ⟨w.heap.size, 1, none⟩ = some (.int .i64 xn) ∧ w'.cell? ⟨w.heap.size, 2, none⟩ = some (.int .i64 xa) ∧ w'.cell? ⟨w.heap.size, 3, none⟩ = some (.int .i64 xb) ∧ w'.cell? ⟨w.heap.size, 4, none⟩ = some (.int .i64 xp) ∧ w'.cell? ⟨w.heap.size + 1 + 1, 0, none⟩ = some (.int .i64 (1 + sm + sf)) ∧ w'.cell? ⟨w.heap.size + 1 + 1, 1, none⟩ = some (.int .i64 (df + 1)) ∧ w'.cell? ⟨w.heap.size + 1 + 1 + 1, 0, none⟩ = some (.int .i64 f) ∧ w'.cell? ⟨w.heap.size + 1 + 1 + 1, 1, none⟩ = some (.int .i64 m)) (go_keep) (fail)
            go_wp2_with fail
            refine bodyPost_ret (ret_shape rfl _ _ (w.heap.size + 1) (1 + sm + sf) (df + 1) rfl (by simp [go_sem, r0]) (by simp [go_sem, r1])) rfl ?_
            refine ⟨(1 + sm + sf), (df + 1), by rw [HW.out]; rfl, fun p hp => ?_, ?_⟩
            · rw [HW.out] at hp; cases hp
            · exact below_drewN (((HB.out.setCell (Nat.le_succ _) _).setCell (Nat.le_succ _) _)) 1
          have HW : Hid (step r ⟨xk, xn, xa, xb, xp⟩ = some (1 + sm + sf, 1 + df)) := Lib.hid (by rw [HV.out]; rw [beq_iff_eq] at q1 q2; exact if_pos (by rw [HQ.out]; exact decide_eq_true ⟨q1, q2⟩))
          go_region_held3 (fun w' => w'.cell? ⟨w.heap.size, 0, none⟩ = some (.int .u8 xk) ∧ w'.cell? ⟨w.heap.size, 1, none⟩ = some (.int .i64 xn) ∧ w'.cell? ⟨w.heap.size, 2, none⟩ = some (.int .i64 xa) ∧ w'.cell? ⟨w.heap.size, 3, none⟩ = some (.int .i64 xb) ∧ w'.cell? ⟨w.heap.size, 4, none⟩ = some (.int .i64 xp) ∧ w'.cell? ⟨w.heap.size + 1 + 1, 0, none⟩ = some (.int .i64 (1 + sm + sf)) ∧ w'.cell? ⟨w.heap.size + 1 + 1, 1, none⟩ = some (.int .i64 (df + 1)) ∧ w'.cell? ⟨w.heap.size + 1 + 1 + 1, 0, none⟩ = some (.int .i64 f) ∧ w'.cell? ⟨w.heap.size + 1 + 1 + 1, 1, none⟩ = some (.int .i64 m)) (go_keep) (fail)
          go_wp2_with fail
          refine bodyPost_ret (ret_shape rfl _ _ (w.heap.size + 1) (1 + sm + sf) (df + 1) rfl (by simp [go_sem, r0]) (by simp [go_sem, r1])) rfl ?_
          refine ⟨(1 + sm + sf), (df + 1), by rw [HW.out]; rfl, fun p hp => ?_, ?_⟩
          · rw [HW.out] at hp; cases hp; exact ⟨(by first | rfl | (simp; done) | (simp; omega)), (by first | rfl | (simp; done) | (simp; omega))⟩
          · exact below_drewN (((HB.out.setCell (Nat.le_succ _) _).setCell (Nat.le_succ _) _)) 1
        · have hmx2 : max (1 + dm) (1 + df) = 1 + dm := by omega
          rw [hmx2] at HV
          clear hmx2
          go_enter Tryz.func92, Tryz.ntmps92
          go_wp2_with fail
          refine (P.out _).mono ?_
          rintro e w2 ⟨rfl, rfl⟩
          go_wp2_with fail
          refine (F.out _).mono ?_
          rintro e w2 ⟨rfl, rfl⟩
          go_wp2_with fail
          refine at_world (TailAt w ⟨xk, xn, xa, xb, xp⟩ 1 1 0 0) ?_ ?_
          · unfold TailAt
            refine ⟨?_, ?_, ?_, ?_, ?_, (((Below.refl w.heap.size w).alloc (Nat.le_refl _) _).alloc (by simp) _).alloc (by simp; omega) _ |>.alloc (by simp; omega) _⟩
            all_goals simp [go_sem]
          intro W hW
          have HT := Lib.hid hW
          obtain ⟨⟨c0, c1, c2, c3, c4⟩, ⟨r0, r1, f0, f1⟩, ⟨s0, s1, f2, f3⟩, ⟨g0, g1, f4, f5⟩, hsz, hb⟩ := hW
          have HB := Lib.hid hb
          clear hb
          have n0 : ¬ (w.heap.size = W.heap.size) := by omega
          have n1 : ¬ (w.heap.size + 1 = W.heap.size) := by omega
          have n2 : ¬ (w.heap.size + 1 + 1 = W.heap.size) := by omega
          have n3 : ¬ (w.heap.size + 1 + 1 + 1 = W.heap.size) := by omega
          have l2 : w.heap.size + 1 + 1 < W.heap.size := by omega
          simp only at c0 c1 c2 c3 c4
          have k0 := (HB.out.cell (p := ⟨bb, _, none⟩) hbb).trans m0
          have k1 := (HB.out.cell (p := ⟨bb, _, none⟩) hbb).trans m1
          refine wp_loop_rounds 3 ?_
          rw [rounds_succ]
          go_wp2_with fail
          rw [rounds_succ]
          refine at_world (TailAt w ⟨xk, xn, xa, xb, xp⟩ (1 + sm) (dm + 1) 0 m) ?_ ?_
          · exact HT.out.round1 _ _ _ _ _ _
          intro W2 hW
          clear c0 c1 c2 c3 c4 r0 r1 f0 f1 s0 s1 f2 f3 g0 g1 f4 f5 hsz HB n0 n1 n2 n3 l2 HT
          have HT := Lib.hid hW
          obtain ⟨⟨c0, c1, c2, c3, c4⟩, ⟨r0, r1, f0, f1⟩, ⟨s0, s1, f2, f3⟩, ⟨g0, g1, f4, f5⟩, hsz, hb⟩ := hW
          have HB := Lib.hid hb
          clear hb
          have n0 : ¬ (w.heap.size = W2.heap.size) := by omega
          have n1 : ¬ (w.heap.size + 1 = W2.heap.size) := by omega
          have n2 : ¬ (w.heap.size + 1 + 1 = W2.heap.size) := by omega
          have n3 : ¬ (w.heap.size + 1 + 1 + 1 = W2.heap.size) := by omega
          have l2 : w.heap.size + 1 + 1 < W2.heap.size := by omega
          simp only at c0 c1 c2 c3 c4
          clear k0 k1
          have k0 := (HB.out.cell (p := ⟨bb, _, none⟩) hbb).trans p0
          have k1 := (HB.out.cell (p := ⟨bb, _, none⟩) hbb).trans p1
          go_wp2_with fail
          rw [rounds_succ]
          refine at_world (TailAt w ⟨xk, xn, xa, xb, xp⟩ (1 + sm + sf) (dm + 1) f m) ?_ ?_
          · exact HT.out.round0 _ _ _ _ _ _
          intro W3 hW
          clear c0 c1 c2 c3 c4 r0 r1 f0 f1 s0 s1 f2 f3 g0 g1 f4 f5 hsz HB n0 n1 n2 n3 l2 HT
          have HT := Lib.hid hW
          obtain ⟨⟨c0, c1, c2, c3, c4⟩, ⟨r0, r1, f0, f1⟩, ⟨s0, s1, f2, f3⟩, ⟨g0, g1, f4, f5⟩, hsz, hb⟩ := hW
          have HB := Lib.hid hb
          clear hb
          have n0 : ¬ (w.heap.size = W3.heap.size) := by omega
          have n1 : ¬ (w.heap.size + 1 = W3.heap.size) := by omega
          have n2 : ¬ (w.heap.size + 1 + 1 = W3.heap.size) := by omega
          have n3 : ¬ (w.heap.size + 1 + 1 + 1 = W3.heap.size) := by omega
          have l2 : w.heap.size + 1 + 1 < W3.heap.size := by omega
          simp only at c0 c1 c2 c3 c4
          clear k0 k1
          go_wp2_with fail
          cases q1 : (xa == f)
          · skip
            have HW : Hid (step r ⟨xk, xn, xa, xb, xp⟩ = none) := Lib.hid (by rw [HV.out]; exact if_neg (by rw [HQ.out]; rw [beq_eq_false_iff_ne] at q1; simp; omega))
            go_region_held3 (fun w' => w'.cell? ⟨w.heap.size, 0, none⟩ = some (.int .u8 xk) ∧ w'.cell? ⟨w.heap.size, 1, none⟩ = some (.int .i64 xn) ∧ w'.cell? ⟨w.heap.size, 2, none⟩ = some (.int .i64 xa) ∧ w'.cell? ⟨w.heap.size, 3, none⟩ = some (.int .i64 xb) ∧ w'.cell? ⟨w.heap.size, 4, none⟩ = some (.int .i64 xp) ∧ w'.cell? ⟨w.heap.size + 1 + 1, 0, none⟩ = some (.int .i64 (1 + sm + sf)) ∧ w'.cell? ⟨w.heap.size + 1 + 1, 1, none⟩ = some (.int .i64 (dm + 1)) ∧ w'.cell? ⟨w.heap.size + 1 + 1 + 1, 0, none⟩ = some (.int .i64 f) ∧ w'.cell? ⟨w.heap.size + 1 + 1 + 1, 1, none⟩ = some (.int .i64 m)) (go_keep) (fail)
            go_wp2_with fail
            refine bodyPost_ret (ret_shape rfl _ _ (w.heap.size + 1) (1 + sm + sf) (dm + 1) rfl (by simp [go_sem, r0]) (by simp [go_sem, r1])) rfl ?_
            refine ⟨(1 + sm + sf), (dm + 1), by rw [HW.out]; rfl, fun p hp => ?_, ?_⟩
            · rw [HW.out] at hp; cases hp
            · exact below_drewN (((HB.out.setCell (Nat.le_succ _) _).setCell (Nat.le_succ _) _)) 1
          cases q2 : (xb == m)
          · skip
            have HW : Hid (step r ⟨xk, xn, xa, xb, xp⟩ = none) := Lib.hid (by rw [HV.out]; exact if_neg (by rw [HQ.out]; rw [beq_eq_false_iff_ne] at q2; simp; omega))
            go_region_held3 (fun w' => w'.cell? ⟨w.heap.size, 0, none⟩ = some (.int .u8 xk) ∧ w'.cell? ⟨w.heap.size, 1, none⟩ = some (.int .i64 xn) ∧ w'.cell? ⟨w.heap.size, 2, none⟩ = some (.int .i64 xa) ∧ w'.cell? ⟨w.heap.size, 3, none⟩ = some (.int .i64 xb) ∧ w'.cell? ⟨w.heap.size, 4, none⟩ = some (.int .i64 xp) ∧ w'.cell? ⟨w.heap.size + 1 + 1, 0, none⟩ = some (.int .i64 (1 + sm + sf)) ∧ w'.cell? ⟨w.heap.size + 1 + 1, 1, none⟩ = some (.int .i64 (dm + 1)) ∧ w'.cell? ⟨w.heap.size + 1 + 1 + 1, 0, none⟩ = some (.int .i64 f) ∧ w'.cell? ⟨w.heap.size + 1 + 1 + 1, 1, none⟩ = some (.int .i64 m)) (go_keep) (fail)
            go_wp2_with fail
            refine bodyPost_ret (ret_shape rfl _ _ (w.heap.size + 1) (1 + sm + sf) (dm + 1) rfl (by simp [go_sem, r0]) (by simp [go_sem, r1])) rfl ?_
            refine ⟨(1 + sm + sf), (dm + 1), by rw [HW.out]; rfl, fun p hp => ?_, ?_⟩
            · rw [HW.out] at hp; cases hp
            · exact below_drewN (((HB.out.setCell (Nat.le_succ _) _).setCell (Nat.le_succ _) _)) 1
          have HW : Hid (step r ⟨xk, xn, xa, xb, xp⟩ = some (1 + sm + sf, 1 + dm)) := Lib.hid (by rw [HV.out]; rw [beq_iff_eq] at q1 q2; exact if_pos (by rw [HQ.out]; exact decide_eq_true ⟨q1, q2⟩))
          go_region_held3 (fun w' => w'.cell? ⟨w.heap.size, 0, none⟩ = some (.int .u8 xk) ∧ w'.cell? ⟨w.heap.size, 1, none⟩ = some (.int .i64 xn) ∧ w'.cell? ⟨w.heap.size, 2, none⟩ = some (.int .i64 xa) ∧ w'.cell? ⟨w.heap.size, 3, none⟩ = some (.int .i64 xb) ∧ w'.cell? ⟨w.heap.size, 4, none⟩ = some (.int .i64 xp) ∧ w'.cell? ⟨w.heap.size + 1 + 1, 0, none⟩ = some (.int .i64 (1 + sm + sf)) ∧ w'.cell? ⟨w.heap.size + 1 + 1, 1, none⟩ = some (.int .i64 (dm + 1)) ∧ w'.cell? ⟨w.heap.size + 1 + 1 + 1, 0, none⟩ = some (.int .i64 f) ∧ w'.cell? ⟨w.heap.size + 1 + 1 + 1, 1, none⟩ = some (.int .i64 m)) (go_keep) (fail)
          go_wp2_with fail
          refine bodyPost_ret (ret_shape rfl _ _ (w.heap.size + 1) (1 + sm + sf) (dm + 1) rfl (by simp [go_sem, r0]) (by simp [go_sem, r1])) rfl ?_
          refine ⟨(1 + sm + sf), (dm + 1), by rw [HW.out]; rfl, fun p hp => ?_, ?_⟩
          · rw [HW.out] at hp; cases hp; exact ⟨(by first | rfl | (simp; done) | (simp; omega)), (by first | rfl | (simp; done) | (simp; omega))⟩
          · exact below_drewN (((HB.out.setCell (Nat.le_succ _) _).setCell (Nat.le_succ _) _)) 1
end Go.Proofs.YtdinaedknlkicaaGreatDoor.Nodes

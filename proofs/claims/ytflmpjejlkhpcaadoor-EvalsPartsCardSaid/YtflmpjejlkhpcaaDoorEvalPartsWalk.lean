/-
  Walk of the statement EvalsParts: the value of a node is that of its expression, and what its operator gives for the values of its parts.
-/
import Derived.Test.YtflmpjejlkhpcaaDoorEvalHelp
import Derived.Test.YtflmpjejlkhpcaaDoorNodeMoved
import Derived.Test.YtflmpjejlkhpcaaDoorNodeNode
import Derived.Test.YtflmpjejlkhpcaaDoorRefKindAll
import Derived.Deep.RegionHeld3
import Derived.Outline
namespace Go.Proofs.YtflmpjejlkhpcaaDoor.Nodes
open Go.ChangeShapes Go.WideShapes Go.ChangeAt Go.RowKit

theorem typed_parts {r : Rec} {l : List Nd} (h0 : (ofV l).2.2 = 0) {m : Nat} (hm : m < l.length) : (ofV (cutL l (sz (accV l) m) m)).2.2 = 0 ∧ ofE r (cutL l (sz (accV l) m) m) = nth (valsV r l) (m : Int) ∧ (cutL l (sz (accV l) m) m).length ≤ 60 := by
  obtain ⟨hc, hw⟩ := of_ok h0
  have pt := part_typed hc hm (by omega)
  have h : (ofV (cutL l (sz (accV l) m) m)).2.2 = 0 := by rw [pt]
  refine ⟨h, ?_, ?_⟩
  · unfold ofE; rw [if_pos h, cut_eval hc hm]
  · exact (check_acc (of_ok h).1).2.2.1
/-- A node in a block of its own. -/
theorem nd_cells (w : World) (x : Nd) : NdAt (w.alloc (.cells #[.int .u8 x.kind, .int .i64 x.n, .int .i64 x.a, .int .i64 x.b, .int .i64 x.at_] 31)) w.heap.size 0 x := by
  have e : (w.alloc (.cells #[.int .u8 x.kind, .int .i64 x.n, .int .i64 x.a, .int .i64 x.b, .int .i64 x.at_] 31)).heap[w.heap.size]? = some (.cells #[.int .u8 x.kind, .int .i64 x.n, .int .i64 x.a, .int .i64 x.b, .int .i64 x.at_] 31) := heap_alloc_new _ _
  unfold NdAt World.cell?
  simp only [e]
  exact ⟨rfl, rfl, rfl, rfl, rfl⟩
set_option maxRecDepth 100000 in
set_option maxHeartbeats 2000000 in
theorem parts_walk (r : Rec) (v : Value) (l : List Nd) (at_ : Int) (w : World) (hf : KindFix w) (hR : ReadsN w v l) (hn : l.length ≤ 9223372036854775807) (hat : at_ ≤ 9223372036854775807) :
    Calls Tryd.prog 5 #[v, .int .i64 at_, recVal r] w fun e w' => e = .returned (.bool true) ∧ Below w.heap.size w w' := by
  obtain ⟨W0, hW0⟩ : ∃ W0, w.alloc (recBox r) = W0 := ⟨_, rfl⟩
  have hb0 : Below w.heap.size w W0 := by rw [← hW0]; exact (Below.refl _ w).alloc (Nat.le_refl _) _
  have hsz : W0.heap.size = w.heap.size + 1 := by rw [← hW0]; simp
  have GG : Hid (Calls Tryd.prog 18 #[v] (w.alloc (recBox r)) fun e w' => e = .returned (.bool (decide (70 < l.length))) ∧ Below W0.heap.size W0 w') := Lib.hid (by rw [hW0]; exact (great_any v l W0 (hR.below hb0)).mono (by rintro e w' ⟨he, rfl⟩; exact ⟨he, Below.refl _ _⟩))
  have HR := Lib.hid (hR.below hb0)
  have F := Lib.hid (hf.below hb0)
  have HC0 : Hid (RecAt W0 w.heap.size r) := Lib.hid (by rw [← hW0]; exact rec_at w r)
  have FIN : Hid (∀ wx, Below W0.heap.size W0 wx → Below w.heap.size w wx) := Lib.hid fun wx h => by
    rw [← hW0] at h
    exact below_box (Below.refl _ w) h
  have HSZ := Lib.hid hsz
  have AL := Lib.hid (fun (W : World) (h : Below W0.heap.size W0 W) => alive7_any W (F.out.below h))
  have EA := Lib.hid (fun (W : World) (h : Below W0.heap.size W0 W) (h70 : l.length ≤ 70) => evalsAll_any r v l W (F.out.below h) (HR.out.below h) (by omega))
  have EO := Lib.hid (fun (W : World) (h : Below W0.heap.size W0 W) (h70 : l.length ≤ 70) => evalsOf_any r v l W (F.out.below h) (HR.out.below h) (by omega))
  have RK := Lib.hid (fun (W : World) (h : Below W0.heap.size W0 W) (h70 : l.length ≤ 70) => refAllKinds_any v l W (HR.out.below h) (by omega))
  have RO := Lib.hid (fun (W : World) (h : Below W0.heap.size W0 W) (h70 : l.length ≤ 70) => refOf_any v l W (HR.out.below h) (by omega))
  unfold AllKinds at RK
  unfold AllVals at EA
  obtain ⟨ad, cap, rfl⟩ := hR.shape
  clear hb0 hsz hW0 hf hR
  unfold recBox at GG
  unfold recVal at EA EO ⊢
  cases hg : decide (70 < l.length)
  · have h70 : l.length ≤ 70 := by rw [decide_eq_false_iff_not] at hg; omega
    rw [hg] at GG
    clear hg RK
    by_cases ha0 : at_ < 0
    · have hd : decide (at_ < 0) = true := decide_eq_true ha0
      clear EA EO RO
      go_enter Tryd.func5, Tryd.ntmps5
      go_wp2_with fail
      refine (GG.out).mono ?_
      rintro e w1 ⟨rfl, hb⟩
      have HB1 := Lib.hid hb
      clear hb
      go_wp2_with fail
      refine (AL.out _ HB1.out).mono ?_
      rintro e w2 ⟨rfl, hb⟩
      have HB2 := Lib.hid (below_then HB1.out hb)
      clear hb
      go_wp2_with fail
      go_ret
      exact ⟨rfl, FIN.out _ HB2.out⟩
    · have hd : decide (at_ < 0) = false := decide_eq_false ha0
      by_cases ha1 : (l.length : Int) ≤ at_
      · have hd2 : decide ((l.length : Int) ≤ at_) = true := decide_eq_true ha1
        clear EA EO RO
        go_enter Tryd.func5, Tryd.ntmps5
        go_wp2_with fail
        refine (GG.out).mono ?_
        rintro e w1 ⟨rfl, hb⟩
        have HB1 := Lib.hid hb
        clear hb
        go_wp2_with fail
        refine (AL.out _ HB1.out).mono ?_
        rintro e w2 ⟨rfl, hb⟩
        have HB2 := Lib.hid (below_then HB1.out hb)
        clear hb
        go_wp2_with fail
        go_ret
        exact ⟨rfl, FIN.out _ HB2.out⟩
      · have hd2 : decide ((l.length : Int) ≤ at_) = false := decide_eq_false ha1
        obtain ⟨m, rfl⟩ : ∃ m : Nat, at_ = m := ⟨at_.toNat, by omega⟩
        have hm : m < l.length := by omega
        by_cases h0 : (ofV l).2.2 = 0
        · obtain ⟨hc, _⟩ := of_ok h0
          have hpos := of_pos h0
          obtain ⟨tp0, tp1, tp2⟩ := typed_parts (r := r) h0 hm
          have hall : allE r l = valsV r l := by unfold allE; rw [if_pos h0]
          obtain ⟨z, hz⟩ : ∃ z, l.length - 1 = z := ⟨_, rfl⟩
          have hofE : ofE r l = nth (valsV r l) (z : Int) := by unfold ofE; rw [if_pos h0, eval_get hpos, hz]
          have hzl : z < l.length := by omega
          have hz1 : (l.length : Int) - 1 = z := by omega
          have hml : (m : Int) < l.length := by omega
          have PA := Lib.hid (fun (W : World) (h : Below W0.heap.size W0 W) => nodesPart_any (.slice ad l.length cap) l (m : Int) W (HR.out.below h) (by omega))
          rw [part_ok hc hm] at PA
          have OC := Lib.hid (fun vo (W : World) (h : Below W0.heap.size W0 W) (hr : ReadsN W vo (cutL l (sz (accV l) m) m)) => evalsOf_any r vo _ W (F.out.below h) hr (by omega))
          rw [tp0, tp1] at OC
          unfold recVal at OC
          have hvl := vals_len r l
          have hve := val_ok (r := r) hc hm
          rw [h0, hall, hvl] at EA
          rw [h0, hofE] at EO
          rw [h0] at RO
          obtain ⟨is, hs⟩ : ∃ is, (ofV l).1 = is := ⟨_, rfl⟩
          obtain ⟨atx, hax⟩ : ∃ atx, (ofV l).2.1 = atx := ⟨_, rfl⟩
          rw [hs, hax] at RO
          obtain ⟨k1, k2, _⟩ := node_facts hc hm
          have hfr := front_of hc hm
          obtain ⟨VS, hVS⟩ : ∃ VS, valsV r l = VS := ⟨_, rfl⟩
          rw [hVS] at EA EO OC hve hvl
          have HVL := Lib.hid hvl
          obtain ⟨x, hx⟩ : ∃ x, l[m] = x := ⟨_, rfl⟩
          rw [hx] at hve k1 k2 hfr
          have HXM : Hid (∃ h : m < l.length, l[m] = x) := Lib.hid ⟨hm, hx⟩
          have NP := Lib.hid (fun (W : World) => nodesParts_same x.kind W)
          rw [parts_ok k1 k2] at NP
          obtain ⟨yz, hyz⟩ : ∃ y, nth VS (z : Int) = y := ⟨_, rfl⟩
          obtain ⟨ym, hym⟩ : ∃ y, nth VS (m : Int) = y := ⟨_, rfl⟩
          rw [hyz] at EO
          rw [hym] at OC hve
          have HYZ := Lib.hid hyz
          have HYM := Lib.hid hym
          obtain ⟨kd, n, a, b, p_⟩ := x
          unfold valV at hve
          unfold Front at hfr
          simp only at hve k1 k2 hfr NP
          have qn : ((l.length : Int) != l.length) = false := by simp
          have qy : (ym == ym) = true := by simp
          have qz : (yz != yz) = false := by simp
          have qm : (ym != ym) = false := by simp
          clear hc h0 tp0 tp1 hall hofE hz hs hax hvl hVS hx hyz hym hpos
          rcases hfr with a0 | ⟨a1, p0, p1⟩ | ⟨a2, p0, p1, p2, p3⟩
          · have h4 := arity_leaf a0
            rw [a0] at NP
            have LV : Hid ((kd = 1 ∧ n = ym) ∨ (kd = 2 ∧ r.key = ym) ∨ (kd = 3 ∧ r.time = ym) ∨ (kd = 4 ∧ r.value = ym)) := Lib.hid (by
              rcases (show kd = 1 ∨ kd = 2 ∨ kd = 3 ∨ kd = 4 by omega) with rfl | rfl | rfl | rfl
              · exact .inl ⟨rfl, hve.symm⟩
              · exact .inr (.inl ⟨rfl, hve.symm⟩)
              · exact .inr (.inr (.inl ⟨rfl, hve.symm⟩))
              · exact .inr (.inr (.inr ⟨rfl, hve.symm⟩)))
            clear hve h4 a0
            rcases LV.out with ⟨rfl, e0⟩ | ⟨rfl, e0⟩ | ⟨rfl, e0⟩ | ⟨rfl, e0⟩
            · have HE := Lib.hid e0
              clear e0
              go_enter Tryd.func5, Tryd.ntmps5
              go_wp2_with fail
              refine (GG.out).mono ?_
              rintro e w1 ⟨rfl, hb⟩
              have HB1 := Lib.hid hb
              clear hb
              go_wp2_with fail
              refine (RO.out _ HB1.out h70).mono ?_
              rintro e w2 ⟨rfl, hb⟩
              have HB2 := Lib.hid (below_then HB1.out hb)
              clear hb
              obtain ⟨t0, t1, t2⟩ := HC0.out.below (by have := HSZ.out; omega) HB2.out
              go_wp2_with fail
              refine (EA.out _ HB2.out h70).mono ?_
              rintro e w3 ⟨va, rfl, ho, hb⟩
              have HB3 := Lib.hid (below_then HB2.out hb)
              have VQ3 := Lib.hid ho
              obtain ⟨ada, capa, hva⟩ := own_shape ho
              subst hva
              clear hb ho t0 t1 t2
              obtain ⟨t0, t1, t2⟩ := HC0.out.below (by have := HSZ.out; omega) HB3.out
              go_wp2_with fail
              refine (EO.out _ HB3.out h70).mono ?_
              rintro e w4 ⟨rfl, hb⟩
              have HB4 := Lib.hid (below_then HB3.out hb)
              have VQ4 := Lib.hid (own_below VQ3.out hb)
              clear hb t0 t1 t2
              go_wp2_with fail
              refine (PA.out _ HB4.out).mono ?_
              rintro e w5 ⟨vo, rfl, ho, hb⟩
              have HB5 := Lib.hid (below_then HB4.out hb)
              have VQ5 := Lib.hid (own_below VQ4.out hb)
              have OC1 := Lib.hid (OC.out vo _ HB5.out (own_readsN ho))
              obtain ⟨ado, capo, hvo⟩ := own_shape ho
              subst hvo
              clear hb ho
              obtain ⟨t0, t1, t2⟩ := HC0.out.below (by have := HSZ.out; omega) HB5.out
              go_wp2_with fail
              refine (OC1.out).mono ?_
              rintro e w6 ⟨rfl, hb⟩
              have HB6 := Lib.hid (below_then HB5.out hb)
              have VQ6 := Lib.hid (own_below VQ5.out hb)
              obtain ⟨b1, cp1, e1, _, c1⟩ := int_cell VQ6.out (Below.refl _ _) HVL.out hzl
              cases e1
              obtain ⟨b2, cp2, e2, _, c2⟩ := int_cell VQ6.out (Below.refl _ _) HVL.out hm
              cases e2
              rw [HYZ.out] at c1
              rw [HYM.out] at c2
              obtain ⟨hm2, hxm⟩ := HXM.out
              obtain ⟨bb, ob, cap', hv, hbw, d0, d1, d2, d3, d4⟩ := (HR.out.below HB6.out).nd m hm2
              cases hv
              rw [hxm] at d0 d1 d2 d3 d4
              simp only at d0 d1 d2 d3 d4
              clear hxm
              clear hb t0 t1 t2
              obtain ⟨t0, t1, t2⟩ := HC0.out.below (by have := HSZ.out; omega) HB6.out
              have hlt0 : w.heap.size < w6.heap.size := by have := HB6.out.size; have := HSZ.out; omega
              have s0 : ∀ o : Obj, (w6.alloc o).cell? ⟨w.heap.size, 0, none⟩ = some (.int .i64 r.key) := fun o => ((refl_alloc w6 o).cell (p := ⟨_, _, none⟩) hlt0).trans t0
              have s1 : ∀ o : Obj, (w6.alloc o).cell? ⟨w.heap.size, 1, none⟩ = some (.int .i64 r.time) := fun o => ((refl_alloc w6 o).cell (p := ⟨_, _, none⟩) hlt0).trans t1
              have s2 : ∀ o : Obj, (w6.alloc o).cell? ⟨w.heap.size, 2, none⟩ = some (.int .i64 r.value) := fun o => ((refl_alloc w6 o).cell (p := ⟨_, _, none⟩) hlt0).trans t2
              go_wp2_with fail
              refine (NP.out _).mono ?_
              rintro e w8 ⟨rfl, rfl⟩
              have qe : (ym == n) = true := by rw [HE.out]; simp
              have HBx : Hid (∀ o o2 : Obj, Below W0.heap.size W0 ((w6.alloc o).alloc o2)) := Lib.hid fun o o2 => (HB6.out.alloc HB6.out.size o).alloc (by have := HB6.out.size; simp; omega) o2
              go_wp2_with fail
              refine (AL.out _ (HBx.out _ _)).mono ?_
              rintro e w9 ⟨rfl, hb⟩
              have HB9 := Lib.hid (below_then (HBx.out _ _) hb)
              clear hb
              go_wp2_with fail
              go_ret
              exact ⟨rfl, FIN.out _ HB9.out⟩
            · have HE := Lib.hid e0
              clear e0
              go_enter Tryd.func5, Tryd.ntmps5
              go_wp2_with fail
              refine (GG.out).mono ?_
              rintro e w1 ⟨rfl, hb⟩
              have HB1 := Lib.hid hb
              clear hb
              go_wp2_with fail
              refine (RO.out _ HB1.out h70).mono ?_
              rintro e w2 ⟨rfl, hb⟩
              have HB2 := Lib.hid (below_then HB1.out hb)
              clear hb
              obtain ⟨t0, t1, t2⟩ := HC0.out.below (by have := HSZ.out; omega) HB2.out
              go_wp2_with fail
              refine (EA.out _ HB2.out h70).mono ?_
              rintro e w3 ⟨va, rfl, ho, hb⟩
              have HB3 := Lib.hid (below_then HB2.out hb)
              have VQ3 := Lib.hid ho
              obtain ⟨ada, capa, hva⟩ := own_shape ho
              subst hva
              clear hb ho t0 t1 t2
              obtain ⟨t0, t1, t2⟩ := HC0.out.below (by have := HSZ.out; omega) HB3.out
              go_wp2_with fail
              refine (EO.out _ HB3.out h70).mono ?_
              rintro e w4 ⟨rfl, hb⟩
              have HB4 := Lib.hid (below_then HB3.out hb)
              have VQ4 := Lib.hid (own_below VQ3.out hb)
              clear hb t0 t1 t2
              go_wp2_with fail
              refine (PA.out _ HB4.out).mono ?_
              rintro e w5 ⟨vo, rfl, ho, hb⟩
              have HB5 := Lib.hid (below_then HB4.out hb)
              have VQ5 := Lib.hid (own_below VQ4.out hb)
              have OC1 := Lib.hid (OC.out vo _ HB5.out (own_readsN ho))
              obtain ⟨ado, capo, hvo⟩ := own_shape ho
              subst hvo
              clear hb ho
              obtain ⟨t0, t1, t2⟩ := HC0.out.below (by have := HSZ.out; omega) HB5.out
              go_wp2_with fail
              refine (OC1.out).mono ?_
              rintro e w6 ⟨rfl, hb⟩
              have HB6 := Lib.hid (below_then HB5.out hb)
              have VQ6 := Lib.hid (own_below VQ5.out hb)
              obtain ⟨b1, cp1, e1, _, c1⟩ := int_cell VQ6.out (Below.refl _ _) HVL.out hzl
              cases e1
              obtain ⟨b2, cp2, e2, _, c2⟩ := int_cell VQ6.out (Below.refl _ _) HVL.out hm
              cases e2
              rw [HYZ.out] at c1
              rw [HYM.out] at c2
              obtain ⟨hm2, hxm⟩ := HXM.out
              obtain ⟨bb, ob, cap', hv, hbw, d0, d1, d2, d3, d4⟩ := (HR.out.below HB6.out).nd m hm2
              cases hv
              rw [hxm] at d0 d1 d2 d3 d4
              simp only at d0 d1 d2 d3 d4
              clear hxm
              clear hb t0 t1 t2
              obtain ⟨t0, t1, t2⟩ := HC0.out.below (by have := HSZ.out; omega) HB6.out
              have hlt0 : w.heap.size < w6.heap.size := by have := HB6.out.size; have := HSZ.out; omega
              have s0 : ∀ o : Obj, (w6.alloc o).cell? ⟨w.heap.size, 0, none⟩ = some (.int .i64 r.key) := fun o => ((refl_alloc w6 o).cell (p := ⟨_, _, none⟩) hlt0).trans t0
              have s1 : ∀ o : Obj, (w6.alloc o).cell? ⟨w.heap.size, 1, none⟩ = some (.int .i64 r.time) := fun o => ((refl_alloc w6 o).cell (p := ⟨_, _, none⟩) hlt0).trans t1
              have s2 : ∀ o : Obj, (w6.alloc o).cell? ⟨w.heap.size, 2, none⟩ = some (.int .i64 r.value) := fun o => ((refl_alloc w6 o).cell (p := ⟨_, _, none⟩) hlt0).trans t2
              go_wp2_with fail
              refine (NP.out _).mono ?_
              rintro e w8 ⟨rfl, rfl⟩
              have qe : (ym == r.key) = true := by rw [HE.out]; simp
              have HBx : Hid (∀ o o2 : Obj, Below W0.heap.size W0 ((w6.alloc o).alloc o2)) := Lib.hid fun o o2 => (HB6.out.alloc HB6.out.size o).alloc (by have := HB6.out.size; simp; omega) o2
              go_wp2_with fail
              refine (AL.out _ (HBx.out _ _)).mono ?_
              rintro e w9 ⟨rfl, hb⟩
              have HB9 := Lib.hid (below_then (HBx.out _ _) hb)
              clear hb
              go_wp2_with fail
              go_ret
              exact ⟨rfl, FIN.out _ HB9.out⟩
            · have HE := Lib.hid e0
              clear e0
              go_enter Tryd.func5, Tryd.ntmps5
              go_wp2_with fail
              refine (GG.out).mono ?_
              rintro e w1 ⟨rfl, hb⟩
              have HB1 := Lib.hid hb
              clear hb
              go_wp2_with fail
              refine (RO.out _ HB1.out h70).mono ?_
              rintro e w2 ⟨rfl, hb⟩
              have HB2 := Lib.hid (below_then HB1.out hb)
              clear hb
              obtain ⟨t0, t1, t2⟩ := HC0.out.below (by have := HSZ.out; omega) HB2.out
              go_wp2_with fail
              refine (EA.out _ HB2.out h70).mono ?_
              rintro e w3 ⟨va, rfl, ho, hb⟩
              have HB3 := Lib.hid (below_then HB2.out hb)
              have VQ3 := Lib.hid ho
              obtain ⟨ada, capa, hva⟩ := own_shape ho
              subst hva
              clear hb ho t0 t1 t2
              obtain ⟨t0, t1, t2⟩ := HC0.out.below (by have := HSZ.out; omega) HB3.out
              go_wp2_with fail
              refine (EO.out _ HB3.out h70).mono ?_
              rintro e w4 ⟨rfl, hb⟩
              have HB4 := Lib.hid (below_then HB3.out hb)
              have VQ4 := Lib.hid (own_below VQ3.out hb)
              clear hb t0 t1 t2
              go_wp2_with fail
              refine (PA.out _ HB4.out).mono ?_
              rintro e w5 ⟨vo, rfl, ho, hb⟩
              have HB5 := Lib.hid (below_then HB4.out hb)
              have VQ5 := Lib.hid (own_below VQ4.out hb)
              have OC1 := Lib.hid (OC.out vo _ HB5.out (own_readsN ho))
              obtain ⟨ado, capo, hvo⟩ := own_shape ho
              subst hvo
              clear hb ho
              obtain ⟨t0, t1, t2⟩ := HC0.out.below (by have := HSZ.out; omega) HB5.out
              go_wp2_with fail
              refine (OC1.out).mono ?_
              rintro e w6 ⟨rfl, hb⟩
              have HB6 := Lib.hid (below_then HB5.out hb)
              have VQ6 := Lib.hid (own_below VQ5.out hb)
              obtain ⟨b1, cp1, e1, _, c1⟩ := int_cell VQ6.out (Below.refl _ _) HVL.out hzl
              cases e1
              obtain ⟨b2, cp2, e2, _, c2⟩ := int_cell VQ6.out (Below.refl _ _) HVL.out hm
              cases e2
              rw [HYZ.out] at c1
              rw [HYM.out] at c2
              obtain ⟨hm2, hxm⟩ := HXM.out
              obtain ⟨bb, ob, cap', hv, hbw, d0, d1, d2, d3, d4⟩ := (HR.out.below HB6.out).nd m hm2
              cases hv
              rw [hxm] at d0 d1 d2 d3 d4
              simp only at d0 d1 d2 d3 d4
              clear hxm
              clear hb t0 t1 t2
              obtain ⟨t0, t1, t2⟩ := HC0.out.below (by have := HSZ.out; omega) HB6.out
              have hlt0 : w.heap.size < w6.heap.size := by have := HB6.out.size; have := HSZ.out; omega
              have s0 : ∀ o : Obj, (w6.alloc o).cell? ⟨w.heap.size, 0, none⟩ = some (.int .i64 r.key) := fun o => ((refl_alloc w6 o).cell (p := ⟨_, _, none⟩) hlt0).trans t0
              have s1 : ∀ o : Obj, (w6.alloc o).cell? ⟨w.heap.size, 1, none⟩ = some (.int .i64 r.time) := fun o => ((refl_alloc w6 o).cell (p := ⟨_, _, none⟩) hlt0).trans t1
              have s2 : ∀ o : Obj, (w6.alloc o).cell? ⟨w.heap.size, 2, none⟩ = some (.int .i64 r.value) := fun o => ((refl_alloc w6 o).cell (p := ⟨_, _, none⟩) hlt0).trans t2
              go_wp2_with fail
              refine (NP.out _).mono ?_
              rintro e w8 ⟨rfl, rfl⟩
              have qe : (ym == r.time) = true := by rw [HE.out]; simp
              have HBx : Hid (∀ o o2 : Obj, Below W0.heap.size W0 ((w6.alloc o).alloc o2)) := Lib.hid fun o o2 => (HB6.out.alloc HB6.out.size o).alloc (by have := HB6.out.size; simp; omega) o2
              go_wp2_with fail
              refine (AL.out _ (HBx.out _ _)).mono ?_
              rintro e w9 ⟨rfl, hb⟩
              have HB9 := Lib.hid (below_then (HBx.out _ _) hb)
              clear hb
              go_wp2_with fail
              go_ret
              exact ⟨rfl, FIN.out _ HB9.out⟩
            · have HE := Lib.hid e0
              clear e0
              go_enter Tryd.func5, Tryd.ntmps5
              go_wp2_with fail
              refine (GG.out).mono ?_
              rintro e w1 ⟨rfl, hb⟩
              have HB1 := Lib.hid hb
              clear hb
              go_wp2_with fail
              refine (RO.out _ HB1.out h70).mono ?_
              rintro e w2 ⟨rfl, hb⟩
              have HB2 := Lib.hid (below_then HB1.out hb)
              clear hb
              obtain ⟨t0, t1, t2⟩ := HC0.out.below (by have := HSZ.out; omega) HB2.out
              go_wp2_with fail
              refine (EA.out _ HB2.out h70).mono ?_
              rintro e w3 ⟨va, rfl, ho, hb⟩
              have HB3 := Lib.hid (below_then HB2.out hb)
              have VQ3 := Lib.hid ho
              obtain ⟨ada, capa, hva⟩ := own_shape ho
              subst hva
              clear hb ho t0 t1 t2
              obtain ⟨t0, t1, t2⟩ := HC0.out.below (by have := HSZ.out; omega) HB3.out
              go_wp2_with fail
              refine (EO.out _ HB3.out h70).mono ?_
              rintro e w4 ⟨rfl, hb⟩
              have HB4 := Lib.hid (below_then HB3.out hb)
              have VQ4 := Lib.hid (own_below VQ3.out hb)
              clear hb t0 t1 t2
              go_wp2_with fail
              refine (PA.out _ HB4.out).mono ?_
              rintro e w5 ⟨vo, rfl, ho, hb⟩
              have HB5 := Lib.hid (below_then HB4.out hb)
              have VQ5 := Lib.hid (own_below VQ4.out hb)
              have OC1 := Lib.hid (OC.out vo _ HB5.out (own_readsN ho))
              obtain ⟨ado, capo, hvo⟩ := own_shape ho
              subst hvo
              clear hb ho
              obtain ⟨t0, t1, t2⟩ := HC0.out.below (by have := HSZ.out; omega) HB5.out
              go_wp2_with fail
              refine (OC1.out).mono ?_
              rintro e w6 ⟨rfl, hb⟩
              have HB6 := Lib.hid (below_then HB5.out hb)
              have VQ6 := Lib.hid (own_below VQ5.out hb)
              obtain ⟨b1, cp1, e1, _, c1⟩ := int_cell VQ6.out (Below.refl _ _) HVL.out hzl
              cases e1
              obtain ⟨b2, cp2, e2, _, c2⟩ := int_cell VQ6.out (Below.refl _ _) HVL.out hm
              cases e2
              rw [HYZ.out] at c1
              rw [HYM.out] at c2
              obtain ⟨hm2, hxm⟩ := HXM.out
              obtain ⟨bb, ob, cap', hv, hbw, d0, d1, d2, d3, d4⟩ := (HR.out.below HB6.out).nd m hm2
              cases hv
              rw [hxm] at d0 d1 d2 d3 d4
              simp only at d0 d1 d2 d3 d4
              clear hxm
              clear hb t0 t1 t2
              obtain ⟨t0, t1, t2⟩ := HC0.out.below (by have := HSZ.out; omega) HB6.out
              have hlt0 : w.heap.size < w6.heap.size := by have := HB6.out.size; have := HSZ.out; omega
              have s0 : ∀ o : Obj, (w6.alloc o).cell? ⟨w.heap.size, 0, none⟩ = some (.int .i64 r.key) := fun o => ((refl_alloc w6 o).cell (p := ⟨_, _, none⟩) hlt0).trans t0
              have s1 : ∀ o : Obj, (w6.alloc o).cell? ⟨w.heap.size, 1, none⟩ = some (.int .i64 r.time) := fun o => ((refl_alloc w6 o).cell (p := ⟨_, _, none⟩) hlt0).trans t1
              have s2 : ∀ o : Obj, (w6.alloc o).cell? ⟨w.heap.size, 2, none⟩ = some (.int .i64 r.value) := fun o => ((refl_alloc w6 o).cell (p := ⟨_, _, none⟩) hlt0).trans t2
              go_wp2_with fail
              refine (NP.out _).mono ?_
              rintro e w8 ⟨rfl, rfl⟩
              have qe : (ym == r.value) = true := by rw [HE.out]; simp
              have HBx : Hid (∀ o o2 : Obj, Below W0.heap.size W0 ((w6.alloc o).alloc o2)) := Lib.hid fun o o2 => (HB6.out.alloc HB6.out.size o).alloc (by have := HB6.out.size; simp; omega) o2
              go_wp2_with fail
              refine (AL.out _ (HBx.out _ _)).mono ?_
              rintro e w9 ⟨rfl, hb⟩
              have HB9 := Lib.hid (below_then (HBx.out _ _) hb)
              clear hb
              go_wp2_with fail
              go_ret
              exact ⟨rfl, FIN.out _ HB9.out⟩
          · obtain ⟨q, rfl⟩ : ∃ q : Nat, a = q := ⟨a.toNat, by omega⟩
            have hq : q < l.length := by omega
            have hql : (q : Int) < l.length := by omega
            have h5 := arity_one a1
            rw [a1] at NP hve
            rw [if_neg (by omega), if_neg (by omega), if_neg (by omega), if_neg (by omega), if_neg (by omega)] at hve
            obtain ⟨A, hA⟩ : ∃ A, nth VS (q : Int) = A := ⟨_, rfl⟩
            rw [hA] at hve
            have HA := Lib.hid hA
            have DS := Lib.hid (do_still (a := A) (b := 0) (k := kd) (by omega) k2 hve.symm)
            clear hA hve h5 a1 p0 p1
            go_enter Tryd.func5, Tryd.ntmps5
            go_wp2_with fail
            refine (GG.out).mono ?_
            rintro e w1 ⟨rfl, hb⟩
            have HB1 := Lib.hid hb
            clear hb
            go_wp2_with fail
            refine (RO.out _ HB1.out h70).mono ?_
            rintro e w2 ⟨rfl, hb⟩
            have HB2 := Lib.hid (below_then HB1.out hb)
            clear hb
            obtain ⟨t0, t1, t2⟩ := HC0.out.below (by have := HSZ.out; omega) HB2.out
            go_wp2_with fail
            refine (EA.out _ HB2.out h70).mono ?_
            rintro e w3 ⟨va, rfl, ho, hb⟩
            have HB3 := Lib.hid (below_then HB2.out hb)
            have VQ3 := Lib.hid ho
            obtain ⟨ada, capa, hva⟩ := own_shape ho
            subst hva
            clear hb ho t0 t1 t2
            obtain ⟨t0, t1, t2⟩ := HC0.out.below (by have := HSZ.out; omega) HB3.out
            go_wp2_with fail
            refine (EO.out _ HB3.out h70).mono ?_
            rintro e w4 ⟨rfl, hb⟩
            have HB4 := Lib.hid (below_then HB3.out hb)
            have VQ4 := Lib.hid (own_below VQ3.out hb)
            clear hb t0 t1 t2
            go_wp2_with fail
            refine (PA.out _ HB4.out).mono ?_
            rintro e w5 ⟨vo, rfl, ho, hb⟩
            have HB5 := Lib.hid (below_then HB4.out hb)
            have VQ5 := Lib.hid (own_below VQ4.out hb)
            have OC1 := Lib.hid (OC.out vo _ HB5.out (own_readsN ho))
            obtain ⟨ado, capo, hvo⟩ := own_shape ho
            subst hvo
            clear hb ho
            obtain ⟨t0, t1, t2⟩ := HC0.out.below (by have := HSZ.out; omega) HB5.out
            go_wp2_with fail
            refine (OC1.out).mono ?_
            rintro e w6 ⟨rfl, hb⟩
            have HB6 := Lib.hid (below_then HB5.out hb)
            have VQ6 := Lib.hid (own_below VQ5.out hb)
            obtain ⟨b1, cp1, e1, _, c1⟩ := int_cell VQ6.out (Below.refl _ _) HVL.out hzl
            cases e1
            obtain ⟨b2, cp2, e2, _, c2⟩ := int_cell VQ6.out (Below.refl _ _) HVL.out hm
            cases e2
            rw [HYZ.out] at c1
            rw [HYM.out] at c2
            obtain ⟨hm2, hxm⟩ := HXM.out
            obtain ⟨bb, ob, cap', hv, hbw, d0, d1, d2, d3, d4⟩ := (HR.out.below HB6.out).nd m hm2
            cases hv
            rw [hxm] at d0 d1 d2 d3 d4
            simp only at d0 d1 d2 d3 d4
            clear hxm
            clear hb t0 t1 t2
            obtain ⟨b3, cp3, e3, hb3, c3⟩ := int_cell VQ6.out (Below.refl _ _) HVL.out hq
            cases e3
            rw [HA.out] at c3
            have s3 : ∀ o : Obj, (w6.alloc o).cell? ⟨b1, q, none⟩ = some (.int .i64 A) := fun o => ((refl_alloc w6 o).cell (p := ⟨_, _, none⟩) hb3).trans c3
            have HBx : Hid (∀ (o : Obj) (j : Nat), Below W0.heap.size W0 ((w6.alloc o).drewN j)) := Lib.hid fun o j => below_drewN (HB6.out.alloc HB6.out.size o) j
            go_wp2_with fail
            refine (NP.out _).mono ?_
            rintro e w8 ⟨rfl, rfl⟩
            go_wp2_with fail
            go_quiet ((go_at_call 26; with_reducible exact DS.out _ _))
            go_wp2_with fail
            refine (AL.out _ (HBx.out _ _)).mono ?_
            rintro e w9 ⟨rfl, hb⟩
            have HB9 := Lib.hid (below_then (HBx.out _ _) hb)
            clear hb
            go_wp2_with fail
            go_ret
            exact ⟨rfl, FIN.out _ HB9.out⟩
          · obtain ⟨q, rfl⟩ : ∃ q : Nat, a = q := ⟨a.toNat, by omega⟩
            obtain ⟨q2, rfl⟩ : ∃ q : Nat, b = q := ⟨b.toNat, by omega⟩
            have hq : q < l.length := by omega
            have hql : (q : Int) < l.length := by omega
            have hq2 : q2 < l.length := by omega
            have hql2 : (q2 : Int) < l.length := by omega
            have h5 := arity_two a2
            rw [a2] at NP hve
            rw [if_neg (by omega), if_neg (by omega), if_neg (by omega), if_neg (by omega), if_pos rfl] at hve
            obtain ⟨A, hA⟩ : ∃ A, nth VS (q : Int) = A := ⟨_, rfl⟩
            obtain ⟨A2, hA2⟩ : ∃ A, nth VS (q2 : Int) = A := ⟨_, rfl⟩
            rw [hA, hA2] at hve
            have HA := Lib.hid hA
            have HA2 := Lib.hid hA2
            have DS := Lib.hid (do_still (a := A) (b := A2) (k := kd) (by omega) k2 hve.symm)
            clear hA hA2 hve h5 a2 p0 p1 p2 p3
            go_enter Tryd.func5, Tryd.ntmps5
            go_wp2_with fail
            refine (GG.out).mono ?_
            rintro e w1 ⟨rfl, hb⟩
            have HB1 := Lib.hid hb
            clear hb
            go_wp2_with fail
            refine (RO.out _ HB1.out h70).mono ?_
            rintro e w2 ⟨rfl, hb⟩
            have HB2 := Lib.hid (below_then HB1.out hb)
            clear hb
            obtain ⟨t0, t1, t2⟩ := HC0.out.below (by have := HSZ.out; omega) HB2.out
            go_wp2_with fail
            refine (EA.out _ HB2.out h70).mono ?_
            rintro e w3 ⟨va, rfl, ho, hb⟩
            have HB3 := Lib.hid (below_then HB2.out hb)
            have VQ3 := Lib.hid ho
            obtain ⟨ada, capa, hva⟩ := own_shape ho
            subst hva
            clear hb ho t0 t1 t2
            obtain ⟨t0, t1, t2⟩ := HC0.out.below (by have := HSZ.out; omega) HB3.out
            go_wp2_with fail
            refine (EO.out _ HB3.out h70).mono ?_
            rintro e w4 ⟨rfl, hb⟩
            have HB4 := Lib.hid (below_then HB3.out hb)
            have VQ4 := Lib.hid (own_below VQ3.out hb)
            clear hb t0 t1 t2
            go_wp2_with fail
            refine (PA.out _ HB4.out).mono ?_
            rintro e w5 ⟨vo, rfl, ho, hb⟩
            have HB5 := Lib.hid (below_then HB4.out hb)
            have VQ5 := Lib.hid (own_below VQ4.out hb)
            have OC1 := Lib.hid (OC.out vo _ HB5.out (own_readsN ho))
            obtain ⟨ado, capo, hvo⟩ := own_shape ho
            subst hvo
            clear hb ho
            obtain ⟨t0, t1, t2⟩ := HC0.out.below (by have := HSZ.out; omega) HB5.out
            go_wp2_with fail
            refine (OC1.out).mono ?_
            rintro e w6 ⟨rfl, hb⟩
            have HB6 := Lib.hid (below_then HB5.out hb)
            have VQ6 := Lib.hid (own_below VQ5.out hb)
            obtain ⟨b1, cp1, e1, _, c1⟩ := int_cell VQ6.out (Below.refl _ _) HVL.out hzl
            cases e1
            obtain ⟨b2, cp2, e2, _, c2⟩ := int_cell VQ6.out (Below.refl _ _) HVL.out hm
            cases e2
            rw [HYZ.out] at c1
            rw [HYM.out] at c2
            obtain ⟨hm2, hxm⟩ := HXM.out
            obtain ⟨bb, ob, cap', hv, hbw, d0, d1, d2, d3, d4⟩ := (HR.out.below HB6.out).nd m hm2
            cases hv
            rw [hxm] at d0 d1 d2 d3 d4
            simp only at d0 d1 d2 d3 d4
            clear hxm
            clear hb t0 t1 t2
            obtain ⟨b3, cp3, e3, hb3, c3⟩ := int_cell VQ6.out (Below.refl _ _) HVL.out hq
            cases e3
            rw [HA.out] at c3
            have s3 : ∀ o : Obj, (w6.alloc o).cell? ⟨b1, q, none⟩ = some (.int .i64 A) := fun o => ((refl_alloc w6 o).cell (p := ⟨_, _, none⟩) hb3).trans c3
            obtain ⟨b4, cp4, e4, hb4, c4⟩ := int_cell VQ6.out (Below.refl _ _) HVL.out hq2
            cases e4
            rw [HA2.out] at c4
            have s4 : ∀ o : Obj, (w6.alloc o).cell? ⟨b1, q2, none⟩ = some (.int .i64 A2) := fun o => ((refl_alloc w6 o).cell (p := ⟨_, _, none⟩) hb3).trans c4
            have HBx : Hid (∀ (o : Obj) (j : Nat), Below W0.heap.size W0 ((w6.alloc o).drewN j)) := Lib.hid fun o j => below_drewN (HB6.out.alloc HB6.out.size o) j
            go_wp2_with fail
            refine (NP.out _).mono ?_
            rintro e w8 ⟨rfl, rfl⟩
            go_wp2_with fail
            go_quiet ((go_at_call 26; with_reducible exact DS.out _ _))
            go_wp2_with fail
            refine (AL.out _ (HBx.out _ _)).mono ?_
            rintro e w9 ⟨rfl, hb⟩
            have HB9 := Lib.hid (below_then (HBx.out _ _) hb)
            clear hb
            go_wp2_with fail
            go_ret
            exact ⟨rfl, FIN.out _ HB9.out⟩
        · obtain ⟨e0, he⟩ : ∃ e0, (ofV l).2.2 = e0 := ⟨_, rfl⟩
          obtain ⟨is, hs⟩ : ∃ is, (ofV l).1 = is := ⟨_, rfl⟩
          obtain ⟨atx, hax⟩ : ∃ atx, (ofV l).2.1 = atx := ⟨_, rfl⟩
          rw [hs, hax, he] at RO
          rw [he] at h0
          have q : (e0 != 0) = true := by rw [bne_iff_ne]; exact h0
          clear h0 he EA EO hs hax
          go_enter Tryd.func5, Tryd.ntmps5
          go_wp2_with fail
          refine (GG.out).mono ?_
          rintro e w1 ⟨rfl, hb⟩
          have HB1 := Lib.hid hb
          clear hb
          go_wp2_with fail
          refine (RO.out _ HB1.out h70).mono ?_
          rintro e w2 ⟨rfl, hb⟩
          have HB2 := Lib.hid (below_then HB1.out hb)
          clear hb
          go_wp2_with fail
          refine (AL.out _ HB2.out).mono ?_
          rintro e w3 ⟨rfl, hb⟩
          have HB3 := Lib.hid (below_then HB2.out hb)
          clear hb
          go_wp2_with fail
          go_ret
          exact ⟨rfl, FIN.out _ HB3.out⟩
  · rw [hg] at GG
    clear hg RK EA RO EO
    go_enter Tryd.func5, Tryd.ntmps5
    go_wp2_with fail
    refine (GG.out).mono ?_
    rintro e w1 ⟨rfl, hb⟩
    have HB1 := Lib.hid hb
    clear hb
    go_wp2_with fail
    refine (AL.out _ HB1.out).mono ?_
    rintro e w2 ⟨rfl, hb⟩
    have HB2 := Lib.hid (below_then HB1.out hb)
    clear hb
    go_wp2_with fail
    go_ret
    exact ⟨rfl, FIN.out _ HB2.out⟩
end Go.Proofs.YtflmpjejlkhpcaaDoor.Nodes

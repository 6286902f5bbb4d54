/-
  Walk of the statement EvalsTruth: a truth value is 0 or 1, and so is each node that gives one.
-/
import Derived.Test.YtflmpjejlkhpcaaDoorEvalHelp
import Derived.Test.YtflmpjejlkhpcaaDoorRefKindAll
import Derived.Outline
namespace Go.Proofs.YtflmpjejlkhpcaaDoor.Nodes
open Go.ChangeShapes Go.WideShapes Go.ChangeAt Go.RowKit

/-- A truth value of a row of them, in a later world. -/
theorem truth_cell {w0 w wx : World} {v : Value} {l : List Nd} (h : w.ownsRow w0.heap.size 4 1 v l.length (boolL l)) (hb : Below w.heap.size w wx) {i : Nat} (hi : i < l.length) : ∃ b cap, v = .slice (some ⟨b, 0, none⟩) l.length cap ∧ wx.cell? ⟨b, i, none⟩ = some (.bool (givesB l[i].kind)) := by
  rcases h.2 with ⟨_, h0⟩ | ⟨b, cap, cur, rfl, _, hg, _⟩
  · omega
  · refine ⟨b, cap, rfl, ?_⟩
    have := h.cellAt i (by omega)
    unfold boolL at this
    rw [List.getElem?_map, List.getElem?_eq_getElem hi] at this
    exact (hb.cell (p := ⟨b, i, none⟩) (Array.getElem?_eq_some_iff.1 hg).1).trans this
set_option maxRecDepth 100000 in
set_option maxHeartbeats 2000000 in
theorem truth_walk (r : Rec) (v : Value) (l : List Nd) (w : World) (hf : KindFix w) (hR : ReadsN w v l) (hn : l.length ≤ 9223372036854775807) :
    Calls Tryd.prog 6 #[v, recVal r] w fun e w' => e = .returned (.bool true) ∧ Below w.heap.size w w' := by
  obtain ⟨W0, hW0⟩ : ∃ W0, w.alloc (recBox r) = W0 := ⟨_, rfl⟩
  have hb0 : Below w.heap.size w W0 := by rw [← hW0]; exact (Below.refl _ w).alloc (Nat.le_refl _) _
  have hsz : W0.heap.size = w.heap.size + 1 := by rw [← hW0]; simp
  have GG : Hid (Calls Tryd.prog 18 #[v] (w.alloc (recBox r)) fun e w' => e = .returned (.bool (decide (70 < l.length))) ∧ Below W0.heap.size W0 w') := Lib.hid (by rw [hW0]; exact (great_any v l W0 (hR.below hb0)).mono (by rintro e w' ⟨he, rfl⟩; exact ⟨he, Below.refl _ _⟩))
  have HR := Lib.hid (hR.below hb0)
  have F := Lib.hid (hf.below hb0)
  have HC0 : Hid (RecAt W0 w.heap.size r) := Lib.hid (by rw [← hW0]; exact rec_at w r)
  have FIN : Hid (∀ wx, Below W0.heap.size W0 wx → Below w.heap.size w wx) := Lib.hid fun wx h => by
    rw [← hW0] at h
    exact below_box (Below.refl _ w) h
  have HSZ := Lib.hid hsz
  have AL := Lib.hid (fun (W : World) (h : Below W0.heap.size W0 W) => alive7_any W (F.out.below h))
  have EA := Lib.hid (fun (W : World) (h : Below W0.heap.size W0 W) (h70 : l.length ≤ 70) => evalsAll_any r v l W (F.out.below h) (HR.out.below h) (by omega))
  have EO := Lib.hid (fun (W : World) (h : Below W0.heap.size W0 W) (h70 : l.length ≤ 70) => evalsOf_any r v l W (F.out.below h) (HR.out.below h) (by omega))
  have RK := Lib.hid (fun (W : World) (h : Below W0.heap.size W0 W) (h70 : l.length ≤ 70) => refAllKinds_any v l W (HR.out.below h) (by omega))
  have RO := Lib.hid (fun (W : World) (h : Below W0.heap.size W0 W) (h70 : l.length ≤ 70) => refOf_any v l W (HR.out.below h) (by omega))
  unfold AllKinds at RK
  unfold AllVals at EA
  obtain ⟨ad, cap, rfl⟩ := hR.shape
  clear hb0 hsz hW0 hf hR
  unfold recBox at GG
  unfold recVal at EA EO ⊢
  cases hg : decide (70 < l.length)
  · have h70 : l.length ≤ 70 := by rw [decide_eq_false_iff_not] at hg; omega
    rw [hg] at GG
    clear hg RO EO
    by_cases h0 : (ofV l).2.2 = 0
    · obtain ⟨hc, _⟩ := of_ok h0
      obtain ⟨a1, a2⟩ := all_vals h0
      have hall : allE r l = valsV r l := by unfold allE; rw [if_pos h0]
      have HT := Lib.hid (fun i hi => @val_truth r l hc i hi)
      have hvl := vals_len r l
      rw [h0, a1, a2] at RK
      rw [h0, hall, hvl] at EA
      obtain ⟨VS, hVS⟩ : ∃ VS, valsV r l = VS := ⟨_, rfl⟩
      rw [hVS] at EA hvl HT
      have HVL := Lib.hid hvl
      have qn : ((l.length : Int) != l.length) = false := by simp
      clear hc a1 a2 hall h0 hVS hvl
      go_enter Tryd.func6, Tryd.ntmps6
      go_wp2_with fail
      refine (GG.out).mono ?_
      rintro e w1 ⟨rfl, hb⟩
      have HB1 := Lib.hid hb
      clear hb
      go_wp2_with fail
      refine (RK.out _ HB1.out h70).mono ?_
      rintro e w2 ⟨va, rfl, ho, hb⟩
      have HB2 := Lib.hid (below_then HB1.out hb)
      have KQ := Lib.hid ho
      have DB := Lib.hid (Below.refl w2.heap.size w2)
      obtain ⟨ada, capa, hva⟩ := own_shape ho
      subst hva
      clear hb ho
      obtain ⟨t0, t1, t2⟩ := HC0.out.below (by have := HSZ.out; omega) HB2.out
      go_wp2_with fail
      refine (EA.out _ HB2.out h70).mono ?_
      rintro e w3 ⟨vb, rfl, ho, hb⟩
      have HB3 := Lib.hid (below_then HB2.out hb)
      have VQ := Lib.hid ho
      have DB3 := Lib.hid hb
      obtain ⟨adb, capb, hvb⟩ := own_shape ho
      subst hvb
      clear hb ho t0 t1 t2
      go_wp2_with fail
      go_loopg [9] l.length (fun g s9 wx => ∃ i : Nat, i + g = l.length ∧ s9 = .int .i64 i ∧ Hid (Below w3.heap.size w3 wx))
      case atStart => exact ⟨0, by omega, rfl, Lib.hid (Below.refl _ _)⟩
      case round =>
        obtain ⟨i, hig, rfl, HX⟩ := hrel
        have HB4 := Lib.hid (below_then HB3.out HX.out)
        cases gk with
        | zero =>
          obtain rfl : i = l.length := by omega
          clear hig
          go_wp2_with fail
          refine (AL.out _ HB4.out).mono ?_
          rintro e w5 ⟨rfl, hb⟩
          have HB5 := Lib.hid (below_then HB4.out hb)
          clear hb
          go_wp2_with fail
          go_ret
          exact ⟨rfl, FIN.out _ HB5.out⟩
        | succ g =>
          have hlt : i < l.length := by omega
          obtain ⟨b1, cp1, e1, c1⟩ := truth_cell KQ.out (below_then DB3.out HX.out) hlt
          obtain ⟨b2, cp2, e2, _, c2⟩ := int_cell VQ.out HX.out HVL.out hlt
          cases e1
          cases e2
          have ht := HT.out i hlt
          obtain ⟨y, hy⟩ : ∃ y, nth VS (i : Int) = y := ⟨_, rfl⟩
          rw [hy] at c2 ht
          obtain ⟨gm, hgm⟩ : ∃ gm, givesB l[i].kind = gm := ⟨_, rfl⟩
          rw [hgm] at c1 ht
          clear hy hgm
          cases gm
          · clear ht
            go_wp2_with fail
            go_roundg g
            case measure => omega
            case rel => exact ⟨i + 1, by omega, by go_num, HX⟩
          · rcases ht rfl with rfl | rfl
            · clear ht
              go_wp2_with fail
              go_roundg g
              case measure => omega
              case rel => exact ⟨i + 1, by omega, by go_num, HX⟩
            · clear ht
              go_wp2_with fail
              go_roundg g
              case measure => omega
              case rel => exact ⟨i + 1, by omega, by go_num, HX⟩
    · obtain ⟨e0, he⟩ : ∃ e0, (ofV l).2.2 = e0 := ⟨_, rfl⟩
      rw [all_none h0] at RK
      rw [he] at RK h0
      have q : (e0 != 0) = true := by rw [bne_iff_ne]; exact h0
      clear h0 he EA
      go_enter Tryd.func6, Tryd.ntmps6
      go_wp2_with fail
      refine (GG.out).mono ?_
      rintro e w1 ⟨rfl, hb⟩
      have HB1 := Lib.hid hb
      clear hb
      go_wp2_with fail
      refine (RK.out _ HB1.out h70).mono ?_
      rintro e w2 ⟨va, rfl, ho, hb⟩
      have HB2 := Lib.hid (below_then HB1.out hb)
      obtain ⟨ada, capa, hva⟩ := own_shape ho
      subst hva
      clear hb ho
      go_wp2_with fail
      refine (AL.out _ HB2.out).mono ?_
      rintro e w3 ⟨rfl, hb⟩
      have HB3 := Lib.hid (below_then HB2.out hb)
      clear hb
      go_wp2_with fail
      go_ret
      exact ⟨rfl, FIN.out _ HB3.out⟩
  · rw [hg] at GG
    clear hg RK EA RO EO
    go_enter Tryd.func6, Tryd.ntmps6
    go_wp2_with fail
    refine (GG.out).mono ?_
    rintro e w1 ⟨rfl, hb⟩
    have HB1 := Lib.hid hb
    clear hb
    go_wp2_with fail
    refine (AL.out _ HB1.out).mono ?_
    rintro e w2 ⟨rfl, hb⟩
    have HB2 := Lib.hid (below_then HB1.out hb)
    clear hb
    go_wp2_with fail
    go_ret
    exact ⟨rfl, FIN.out _ HB2.out⟩
end Go.Proofs.YtflmpjejlkhpcaaDoor.Nodes

/-
  Walk of the statement KindsOne: an expression that is typed is a number or a truth value, never both, and so is each of its parts.
-/
import Derived.Test.YtgmfelikmjclbaaDoorKindHelp
import Derived.Test.YtgmfelikmjclbaaDoorNodeMoved
import Derived.Outline
namespace Go.Proofs.YtgmfelikmjclbaaDoor.Nodes
open Go.ChangeShapes Go.WideShapes Go.ChangeAt Go.RowKit

theorem ofV_cases {l : List Nd} (h : checkV l = 0) : (∃ u : Nat, wrongV l = u ∧ u < l.length ∧ ofV l = (false, (u : Int), 42)) ∨ (wrongV l = l.length ∧ ofV l = (givesB (kindAt l (l.length - 1)), ((l.length - 1 : Nat) : Int), 0)) := by
  by_cases hw : wrongV l < l.length
  · exact .inl ⟨_, rfl, hw, of_wrong h hw⟩
  · have := wrong_le l
    exact .inr ⟨by omega, of_typed h (by omega)⟩
/-- A truth value of those that All tells. -/
theorem all_cell {w0 w wx : World} {v : Value} {l : List Nd} (h : w.ownsRow w0.heap.size 4 1 v l.length (boolL l)) (hb : Below w.heap.size w wx) {i : Nat} (hi : i < l.length) : ∃ b cap, v = .slice (some ⟨b, 0, none⟩) l.length cap ∧ wx.cell? ⟨b, i, none⟩ = some (.bool (givesB l[i].kind)) := by
  rcases h.2 with ⟨_, h0⟩ | ⟨b, cap, cur, rfl, _, hg, _⟩
  · omega
  · refine ⟨b, cap, rfl, ?_⟩
    have := h.cellAt i (by omega)
    unfold boolL at this
    rw [List.getElem?_map, List.getElem?_eq_getElem hi] at this
    exact (hb.cell (p := ⟨b, i, none⟩) (Array.getElem?_eq_some_iff.1 hg).1).trans this
set_option maxRecDepth 100000 in
set_option maxHeartbeats 2000000 in
theorem one_walk (v : Value) (l : List Nd) (at_ : Int) (w : World) (hf : KindFix w) (hR : ReadsN w v l) (hn : l.length ≤ 9223372036854775807) (hat : at_ ≤ 9223372036854775807) :
    Calls Tryd.prog 5 #[v, .int .i64 at_] w fun e w' => e = .returned (.bool true) ∧ Below w.heap.size w w' := by
  have AL := Lib.hid (fun (W : World) (h : Below w.heap.size w W) => alive6_any W (hf.below h))
  have GG := Lib.hid (fun (W : World) (h : Below w.heap.size w W) => great_any v l W (hR.below h))
  have OF := Lib.hid (fun (W : World) (h : Below w.heap.size w W) (h70 : l.length ≤ 70) => kindsOf_any v l W (hf.below h) (hR.below h) (by omega))
  have CK := Lib.hid (fun (W : World) (h : Below w.heap.size w W) (h70 : l.length ≤ 70) => refCheck_any v l W (hR.below h) (by omega))
  have F := Lib.hid hf
  have HR := Lib.hid hR
  obtain ⟨ad, cap, rfl⟩ := hR.shape
  have HB0 := Lib.hid (Below.refl w.heap.size w)
  cases hg : decide (70 < l.length)
  · have h70 : l.length ≤ 70 := by rw [decide_eq_false_iff_not] at hg; omega
    rw [hg] at GG
    clear hg
    by_cases hc : checkV l = 0
    · have q : (checkV l != 0) = false := by rw [hc]; rfl
      have HC := Lib.hid hc
      by_cases h0 : at_ < 0
      · have hd : decide (at_ < 0) = true := decide_eq_true h0
        clear hc hf hR
        go_enter Tryd.func5, Tryd.ntmps5
        go_wp2_with fail
        refine (GG.out _ HB0.out).mono ?_
        rintro e w1 ⟨rfl, rfl⟩
        have HB1 := HB0
        go_wp2_with fail
        refine (CK.out _ HB1.out h70).mono ?_
        rintro e w2 ⟨rfl, hb⟩
        have HB2 := Lib.hid (below_then HB1.out hb)
        clear hb
        go_wp2_with fail
        refine (AL.out _ HB2.out).mono ?_
        rintro e w3 ⟨rfl, hb⟩
        have HB3 := Lib.hid (below_then HB2.out hb)
        clear hb
        go_wp2_with fail
        go_ret
        exact ⟨rfl, HB3.out⟩
      · have hd : decide (at_ < 0) = false := decide_eq_false h0
        by_cases h1 : (l.length : Int) ≤ at_
        · have hd2 : decide ((l.length : Int) ≤ at_) = true := decide_eq_true h1
          clear hc hf hR
          go_enter Tryd.func5, Tryd.ntmps5
          go_wp2_with fail
          refine (GG.out _ HB0.out).mono ?_
          rintro e w1 ⟨rfl, rfl⟩
          have HB1 := HB0
          go_wp2_with fail
          refine (CK.out _ HB1.out h70).mono ?_
          rintro e w2 ⟨rfl, hb⟩
          have HB2 := Lib.hid (below_then HB1.out hb)
          clear hb
          go_wp2_with fail
          refine (AL.out _ HB2.out).mono ?_
          rintro e w3 ⟨rfl, hb⟩
          have HB3 := Lib.hid (below_then HB2.out hb)
          clear hb
          go_wp2_with fail
          go_ret
          exact ⟨rfl, HB3.out⟩
        · have hd2 : decide ((l.length : Int) ≤ at_) = false := decide_eq_false h1
          obtain ⟨m, rfl⟩ : ∃ m : Nat, at_ = m := ⟨at_.toNat, by omega⟩
          have hm : m < l.length := by omega
          have NU := Lib.hid (fun (W : World) (h : Below w.heap.size w W) => kindsNumber_any (.slice ad l.length cap) l W (F.out.below h) (HR.out.below h) (by omega))
          have TR := Lib.hid (fun (W : World) (h : Below w.heap.size w W) => kindsTruth_any (.slice ad l.length cap) l W (F.out.below h) (HR.out.below h) (by omega))
          have KA := Lib.hid (fun (W : World) (h : Below w.heap.size w W) => kindsAll_any (.slice ad l.length cap) l W (F.out.below h) (HR.out.below h) (by omega))
          rcases ofV_cases hc with ⟨u, hu, hul, ho⟩ | ⟨hw, ho⟩
          · have e1 : wantV l false = ((u : Int), 42) := by unfold wantV; rw [ho]; rfl
            have e2 : wantV l true = ((u : Int), 42) := by unfold wantV; rw [ho]; rfl
            have e3 : (allOfV l).1 = [] := all_none (by rw [ho]; show (42 : Int) ≠ 0; decide)
            unfold AllKinds at KA
            rw [e1] at NU
            rw [e2] at TR
            rw [ho] at OF KA
            rw [e3] at KA
            have hu1 : (u : Int) < l.length := by omega
            have hu2 : (0 : Int) ≤ u := by omega
            have hd3 : decide ((u : Int) < l.length) = true := decide_eq_true hu1
            have hd4 : decide ((0 : Int) ≤ u) = true := decide_eq_true hu2
            have hq : ((u : Int) != u) = false := by simp
            clear hc hf hR ho hu e1 e2 e3
            go_enter Tryd.func5, Tryd.ntmps5
            go_wp2_with fail
            refine (GG.out _ HB0.out).mono ?_
            rintro e w1 ⟨rfl, rfl⟩
            have HB1 := HB0
            go_wp2_with fail
            refine (CK.out _ HB1.out h70).mono ?_
            rintro e w2 ⟨rfl, hb⟩
            have HB2 := Lib.hid (below_then HB1.out hb)
            clear hb
            go_wp2_with fail
            refine (OF.out _ HB2.out h70).mono ?_
            rintro e w3 ⟨rfl, hb⟩
            have HB3 := Lib.hid (below_then HB2.out hb)
            clear hb
            go_wp2_with fail
            refine (NU.out _ HB3.out).mono ?_
            rintro e w4 ⟨rfl, hb⟩
            have HB4 := Lib.hid (below_then HB3.out hb)
            clear hb
            go_wp2_with fail
            refine (TR.out _ HB4.out).mono ?_
            rintro e w5 ⟨rfl, hb⟩
            have HB5 := Lib.hid (below_then HB4.out hb)
            clear hb
            go_wp2_with fail
            refine (KA.out _ HB5.out).mono ?_
            rintro e w6 ⟨va, rfl, ho, hb⟩
            have HB6 := Lib.hid (below_then HB5.out hb)
            obtain ⟨ad3, cap3, rfl⟩ := own_shape ho
            clear ho
            clear hb
            go_wp2_with fail
            refine (AL.out _ HB6.out).mono ?_
            rintro e w7 ⟨rfl, hb⟩
            have HB7 := Lib.hid (below_then HB6.out hb)
            clear hb
            go_wp2_with fail
            go_ret
            exact ⟨rfl, HB7.out⟩
          · obtain ⟨gb, hgb⟩ : ∃ gb, givesB (kindAt l (l.length - 1)) = gb := ⟨_, rfl⟩
            obtain ⟨z, hz⟩ : ∃ z, l.length - 1 = z := ⟨_, rfl⟩
            have hzl : z < l.length := by omega
            have hgb2 : givesB l[z].kind = gb := by rw [← hgb, hz, kindAt_get hzl]
            rw [hgb, hz] at ho
            have pt := part_typed HC.out hm (by omega)
            obtain ⟨c1, c2, _⟩ := cut_ok HC.out hm
            have hsz := (good_sz (check_acc HC.out).1 m hm).2.1
            have PA := Lib.hid (fun (W : World) (h : Below w.heap.size w W) => nodesPart_any (.slice ad l.length cap) l (m : Int) W (HR.out.below h) (by omega))
            rw [part_ok HC.out hm] at PA
            have OC := Lib.hid (fun vo (W : World) (h : Below w.heap.size w W) (hr : ReadsN W vo (cutL l (sz (accV l) m) m)) => kindsOf_any vo _ W (F.out.below h) hr (by rw [c2]; omega))
            rw [pt] at OC
            have e3 := all_vals (l := l) (by rw [ho])
            unfold AllKinds at KA
            rw [ho] at OF KA
            rw [e3.1, e3.2] at KA
            obtain ⟨gm, hgm⟩ : ∃ gm, givesB l[m].kind = gm := ⟨_, rfl⟩
            rw [hgm] at OC
            have HGM := Lib.hid (And.intro hgb2 hgm)
            have e1 : wantV l false = ((z : Int), if gb = true then 42 else 0) := by unfold wantV; rw [ho]; cases gb <;> rfl
            have e2 : wantV l true = ((z : Int), if gb = true then 0 else 42) := by unfold wantV; rw [ho]; cases gb <;> rfl
            rw [e1] at NU
            rw [e2] at TR
            have hz1 : (l.length : Int) - 1 = z := by omega
            have hz2 : (z : Int) < l.length := by omega
            have hm2 : (m : Int) < l.length := by omega
            have hqm : (gm == gm) = true := by simp
            have hll : ((l.length : Int) != l.length) = false := by simp
            have hzz : ((z : Int) != z) = false := by simp
            clear hc hf hR ho hw e1 e2 e3 pt c1 hgb hgb2 hgm hz
            cases gb
            · go_enter Tryd.func5, Tryd.ntmps5
              go_wp2_with fail
              refine (GG.out _ HB0.out).mono ?_
              rintro e w1 ⟨rfl, rfl⟩
              have HB1 := HB0
              go_wp2_with fail
              refine (CK.out _ HB1.out h70).mono ?_
              rintro e w2 ⟨rfl, hb⟩
              have HB2 := Lib.hid (below_then HB1.out hb)
              clear hb
              go_wp2_with fail
              refine (OF.out _ HB2.out h70).mono ?_
              rintro e w3 ⟨rfl, hb⟩
              have HB3 := Lib.hid (below_then HB2.out hb)
              clear hb
              go_wp2_with fail
              refine (NU.out _ HB3.out).mono ?_
              rintro e w4 ⟨rfl, hb⟩
              have HB4 := Lib.hid (below_then HB3.out hb)
              clear hb
              go_wp2_with fail
              refine (TR.out _ HB4.out).mono ?_
              rintro e w5 ⟨rfl, hb⟩
              have HB5 := Lib.hid (below_then HB4.out hb)
              clear hb
              go_wp2_with fail
              refine (KA.out _ HB5.out).mono ?_
              rintro e w6 ⟨va, rfl, ho, hb⟩
              have HB6 := Lib.hid (below_then HB5.out hb)
              have HO := Lib.hid ho
              obtain ⟨b3, cap3, rfl, cz⟩ := all_cell ho (Below.refl _ _) hzl
              rw [HGM.out.1] at cz
              clear ho
              clear hb
              go_wp2_with fail
              refine (PA.out _ HB6.out).mono ?_
              rintro e w7 ⟨vo, rfl, ho, hb⟩
              have HB7 := Lib.hid (below_then HB6.out hb)
              have OC1 := Lib.hid (OC.out vo _ HB7.out (own_readsN ho))
              have hb6 := Lib.hid hb
              clear ho
              clear hb
              go_wp2_with fail
              refine (OC1.out).mono ?_
              rintro e w8 ⟨rfl, hb⟩
              have HB8 := Lib.hid (below_then HB7.out hb)
              obtain ⟨b4, cap4, e4, cm⟩ := all_cell HO.out (below_then hb6.out hb) hm
              cases e4
              rw [HGM.out.2] at cm
              clear hb
              go_wp2_with fail
              refine (AL.out _ HB8.out).mono ?_
              rintro e w9 ⟨rfl, hb⟩
              have HB9 := Lib.hid (below_then HB8.out hb)
              clear hb
              go_wp2_with fail
              go_ret
              exact ⟨rfl, HB9.out⟩
            · go_enter Tryd.func5, Tryd.ntmps5
              go_wp2_with fail
              refine (GG.out _ HB0.out).mono ?_
              rintro e w1 ⟨rfl, rfl⟩
              have HB1 := HB0
              go_wp2_with fail
              refine (CK.out _ HB1.out h70).mono ?_
              rintro e w2 ⟨rfl, hb⟩
              have HB2 := Lib.hid (below_then HB1.out hb)
              clear hb
              go_wp2_with fail
              refine (OF.out _ HB2.out h70).mono ?_
              rintro e w3 ⟨rfl, hb⟩
              have HB3 := Lib.hid (below_then HB2.out hb)
              clear hb
              go_wp2_with fail
              refine (NU.out _ HB3.out).mono ?_
              rintro e w4 ⟨rfl, hb⟩
              have HB4 := Lib.hid (below_then HB3.out hb)
              clear hb
              go_wp2_with fail
              refine (TR.out _ HB4.out).mono ?_
              rintro e w5 ⟨rfl, hb⟩
              have HB5 := Lib.hid (below_then HB4.out hb)
              clear hb
              go_wp2_with fail
              refine (KA.out _ HB5.out).mono ?_
              rintro e w6 ⟨va, rfl, ho, hb⟩
              have HB6 := Lib.hid (below_then HB5.out hb)
              have HO := Lib.hid ho
              obtain ⟨b3, cap3, rfl, cz⟩ := all_cell ho (Below.refl _ _) hzl
              rw [HGM.out.1] at cz
              clear ho
              clear hb
              go_wp2_with fail
              refine (PA.out _ HB6.out).mono ?_
              rintro e w7 ⟨vo, rfl, ho, hb⟩
              have HB7 := Lib.hid (below_then HB6.out hb)
              have OC1 := Lib.hid (OC.out vo _ HB7.out (own_readsN ho))
              have hb6 := Lib.hid hb
              clear ho
              clear hb
              go_wp2_with fail
              refine (OC1.out).mono ?_
              rintro e w8 ⟨rfl, hb⟩
              have HB8 := Lib.hid (below_then HB7.out hb)
              obtain ⟨b4, cap4, e4, cm⟩ := all_cell HO.out (below_then hb6.out hb) hm
              cases e4
              rw [HGM.out.2] at cm
              clear hb
              go_wp2_with fail
              refine (AL.out _ HB8.out).mono ?_
              rintro e w9 ⟨rfl, hb⟩
              have HB9 := Lib.hid (below_then HB8.out hb)
              clear hb
              go_wp2_with fail
              go_ret
              exact ⟨rfl, HB9.out⟩
    · have q : (checkV l != 0) = true := by rw [bne_iff_ne]; exact hc
      clear hc hf hR
      go_enter Tryd.func5, Tryd.ntmps5
      go_wp2_with fail
      refine (GG.out _ HB0.out).mono ?_
      rintro e w1 ⟨rfl, rfl⟩
      have HB1 := HB0
      go_wp2_with fail
      refine (CK.out _ HB1.out h70).mono ?_
      rintro e w2 ⟨rfl, hb⟩
      have HB2 := Lib.hid (below_then HB1.out hb)
      clear hb
      go_wp2_with fail
      refine (AL.out _ HB2.out).mono ?_
      rintro e w3 ⟨rfl, hb⟩
      have HB3 := Lib.hid (below_then HB2.out hb)
      clear hb
      go_wp2_with fail
      go_ret
      exact ⟨rfl, HB3.out⟩
  · rw [hg] at GG
    clear hg hf hR
    go_enter Tryd.func5, Tryd.ntmps5
    go_wp2_with fail
    refine (GG.out _ HB0.out).mono ?_
    rintro e w1 ⟨rfl, rfl⟩
    have HB1 := HB0
    go_wp2_with fail
    refine (AL.out _ HB1.out).mono ?_
    rintro e w2 ⟨rfl, hb⟩
    have HB2 := Lib.hid (below_then HB1.out hb)
    clear hb
    go_wp2_with fail
    go_ret
    exact ⟨rfl, HB2.out⟩
end Go.Proofs.YtgmfelikmjclbaaDoor.Nodes

/-
  Walk of the statement KindsFirst: the node that is told is the first one that does not fit.
-/
import Derived.Test.YtgmfelikmjclbaaDoorKindHelp
import Derived.Test.YtgmfelikmjclbaaDoorKindOneWalk
import Derived.Outline
namespace Go.Proofs.YtgmfelikmjclbaaDoor.Nodes
open Go.ChangeShapes Go.WideShapes Go.ChangeAt Go.RowKit

set_option maxRecDepth 100000 in
set_option maxHeartbeats 2000000 in
theorem first_walk (v : Value) (l : List Nd) (w : World) (hf : KindFix w) (hR : ReadsN w v l) (hn : l.length ≤ 9223372036854775807) :
    Calls Tryd.prog 6 #[v] w fun e w' => e = .returned (.bool true) ∧ Below w.heap.size w w' := by
  have AL := Lib.hid (fun (W : World) (h : Below w.heap.size w W) => alive6_any W (hf.below h))
  have GG := Lib.hid (fun (W : World) (h : Below w.heap.size w W) => great_any v l W (hR.below h))
  have OF := Lib.hid (fun (W : World) (h : Below w.heap.size w W) (h70 : l.length ≤ 70) => kindsOf_any v l W (hf.below h) (hR.below h) (by omega))
  have CK := Lib.hid (fun (W : World) (h : Below w.heap.size w W) (h70 : l.length ≤ 70) => refCheck_any v l W (hR.below h) (by omega))
  have F := Lib.hid hf
  have HR := Lib.hid hR
  obtain ⟨ad, cap, rfl⟩ := hR.shape
  have HB0 := Lib.hid (Below.refl w.heap.size w)
  cases hg : decide (70 < l.length)
  · have h70 : l.length ≤ 70 := by rw [decide_eq_false_iff_not] at hg; omega
    rw [hg] at GG
    clear hg
    by_cases hc : checkV l = 0
    · have q : (checkV l != 0) = false := by rw [hc]; rfl
      have HC := Lib.hid hc
      rcases ofV_cases hc with ⟨u, hu, hul, ho⟩ | ⟨hw, ho⟩
      · rw [ho] at OF
        have PA := Lib.hid (fun (i : Nat) (W : World) (h : Below w.heap.size w W) (hi : i < l.length) => nodesPart_any (.slice ad l.length cap) l (i : Int) W (HR.out.below h) (by omega))
        have OC := Lib.hid (fun (i : Nat) vo (W : World) (h : Below w.heap.size w W) (hr : ReadsN W vo (cutL l (sz (accV l) i) i)) (hl : (cutL l (sz (accV l) i) i).length ≤ 1000000) => kindsOf_any vo _ W (F.out.below h) hr hl)
        have hu1 : (u : Int) < l.length := by omega
        have hu2 : (0 : Int) ≤ u := by omega
        have hd3 : decide ((l.length : Int) ≤ u) = false := decide_eq_false (by omega)
        have hd4 : decide ((u : Int) < 0) = false := decide_eq_false (by omega)
        have hd5 : decide (l.length ≤ u) = false := decide_eq_false (by omega)
        have HU := Lib.hid hu
        clear hc hf hR ho hu
        go_enter Tryd.func6, Tryd.ntmps6
        go_wp2_with fail
        refine (GG.out _ HB0.out).mono ?_
        rintro e w1 ⟨rfl, rfl⟩
        have HB1 := HB0
        go_wp2_with fail
        refine (CK.out _ HB1.out h70).mono ?_
        rintro e w2 ⟨rfl, hb⟩
        have HB2 := Lib.hid (below_then HB1.out hb)
        clear hb
        go_wp2_with fail
        refine (OF.out _ HB2.out h70).mono ?_
        rintro e w3 ⟨rfl, hb⟩
        have HB3 := Lib.hid (below_then HB2.out hb)
        clear hb
        go_wp2_with fail
        go_loopg [6] (u + 1) (fun g s6 wx => ∃ i : Nat, i + g = u + 1 ∧ s6 = .int .i64 i ∧ Hid (Below w.heap.size w wx))
        case atStart => exact ⟨0, by omega, rfl, HB3⟩
        case round =>
          obtain ⟨i, hig, rfl, HB0⟩ := hrel
          cases gk with
          | zero =>
            obtain rfl : i = u + 1 := by omega
            have hle : ¬ (((u + 1 : Nat) : Int) ≤ u) := by omega
            clear hig
            go_wp2_with fail
            refine (AL.out _ HB0.out).mono ?_
            rintro e w1 ⟨rfl, hb⟩
            have HB1 := Lib.hid (below_then HB0.out hb)
            clear hb
            go_wp2_with fail
            go_ret
            exact ⟨rfl, HB1.out⟩
          | succ g =>
            have hil : i < l.length := by omega
            have hle : (i : Int) ≤ u := by omega
            have PA1 := Lib.hid (PA.out i)
            rw [part_ok HC.out hil] at PA1
            have OC1 := Lib.hid (OC.out i)
            obtain ⟨c1, c2, _⟩ := cut_ok HC.out hil
            have hsz := good_sz (check_acc HC.out).1 i hil
            have HCL := Lib.hid c2
            obtain ⟨s, hs⟩ : ∃ s, sz (accV l) i = s := ⟨_, rfl⟩
            rw [hs] at hsz HCL
            by_cases hiu : i = u
            · have pw := part_wrong HC.out (by rw [HU.out]; exact hul)
              rw [HU.out, ← hiu] at pw
              rw [pw] at OC1
              rw [hs] at PA1 OC1
              have e1 : ((i : Int) == u) = true := by rw [beq_iff_eq]; omega
              have e2 : decide ((i : Int) < u) = false := decide_eq_false (by omega)
              have e5 : (i == u) = true := by rw [beq_iff_eq]; exact hiu
              have e6 : decide (i < u) = false := decide_eq_false (by omega)
              have e3 : ((s - 1 : Nat) : Int) = (s : Int) - 1 := by omega
              rw [e3] at OC1
              have e4 : ((s : Int) - 1 != (s : Int) - 1) = false := by simp
              have hs3 : (1 : Int) ≤ s := by omega
              have hs4 : (s : Int) ≤ 70 := by omega
              clear pw c1 c2 hs e3 hiu
              go_wp2_with fail
              refine (PA1.out _ HB0.out hil).mono ?_
              rintro e w1 ⟨vo, rfl, ho, hb⟩
              have HB1 := Lib.hid (below_then HB0.out hb)
              have OC2 := Lib.hid (OC1.out vo _ HB1.out (own_readsN ho) (by rw [HCL.out]; omega))
              obtain ⟨ad5, cap5, hv5⟩ := own_shape ho
              rw [HCL.out] at hv5
              subst hv5
              clear ho
              clear hb
              go_wp2_with fail
              refine (OC2.out).mono ?_
              rintro e w2 ⟨rfl, hb⟩
              have HB2 := Lib.hid (below_then HB1.out hb)
              clear hb
              go_wp2_with fail
              go_roundg g
              case measure => omega
              case rel => exact ⟨i + 1, by omega, by go_num, HB2⟩
            · have pt := part_typed HC.out hil (by rw [HU.out]; omega)
              rw [pt] at OC1
              rw [hs] at PA1 OC1
              have e1 : ((i : Int) == u) = false := by rw [beq_eq_false_iff_ne]; omega
              have e2 : decide ((i : Int) < u) = true := decide_eq_true (by omega)
              have e5 : (i == u) = false := by rw [beq_eq_false_iff_ne]; exact hiu
              have e6 : decide (i < u) = true := decide_eq_true (by omega)
              have hs3 : (1 : Int) ≤ s := by omega
              have hs4 : (s : Int) ≤ 70 := by omega
              clear pt c1 c2 hs
              go_wp2_with fail
              refine (PA1.out _ HB0.out hil).mono ?_
              rintro e w1 ⟨vo, rfl, ho, hb⟩
              have HB1 := Lib.hid (below_then HB0.out hb)
              have OC2 := Lib.hid (OC1.out vo _ HB1.out (own_readsN ho) (by rw [HCL.out]; omega))
              obtain ⟨ad5, cap5, hv5⟩ := own_shape ho
              rw [HCL.out] at hv5
              subst hv5
              clear ho
              clear hb
              go_wp2_with fail
              refine (OC2.out).mono ?_
              rintro e w2 ⟨rfl, hb⟩
              have HB2 := Lib.hid (below_then HB1.out hb)
              clear hb
              go_wp2_with fail
              go_roundg g
              case measure => omega
              case rel => exact ⟨i + 1, by omega, by go_num, HB2⟩
      · rw [ho] at OF
        obtain ⟨z, hz⟩ : ∃ z, l.length - 1 = z := ⟨_, rfl⟩
        rw [hz] at OF
        have hpos := (check_acc hc).2.1
        have hz1 : (l.length : Int) - 1 = z := by omega
        have hzz : ((z : Int) == z) = true := by simp
        clear hc hf hR ho hw hz
        go_enter Tryd.func6, Tryd.ntmps6
        go_wp2_with fail
        refine (GG.out _ HB0.out).mono ?_
        rintro e w1 ⟨rfl, rfl⟩
        have HB1 := HB0
        go_wp2_with fail
        refine (CK.out _ HB1.out h70).mono ?_
        rintro e w2 ⟨rfl, hb⟩
        have HB2 := Lib.hid (below_then HB1.out hb)
        clear hb
        go_wp2_with fail
        refine (OF.out _ HB2.out h70).mono ?_
        rintro e w3 ⟨rfl, hb⟩
        have HB3 := Lib.hid (below_then HB2.out hb)
        clear hb
        go_wp2_with fail
        refine (AL.out _ HB3.out).mono ?_
        rintro e w4 ⟨rfl, hb⟩
        have HB4 := Lib.hid (below_then HB3.out hb)
        clear hb
        go_wp2_with fail
        go_ret
        exact ⟨rfl, HB4.out⟩
    · have q : (checkV l != 0) = true := by rw [bne_iff_ne]; exact hc
      clear hc hf hR
      go_enter Tryd.func6, Tryd.ntmps6
      go_wp2_with fail
      refine (GG.out _ HB0.out).mono ?_
      rintro e w1 ⟨rfl, rfl⟩
      have HB1 := HB0
      go_wp2_with fail
      refine (CK.out _ HB1.out h70).mono ?_
      rintro e w2 ⟨rfl, hb⟩
      have HB2 := Lib.hid (below_then HB1.out hb)
      clear hb
      go_wp2_with fail
      refine (AL.out _ HB2.out).mono ?_
      rintro e w3 ⟨rfl, hb⟩
      have HB3 := Lib.hid (below_then HB2.out hb)
      clear hb
      go_wp2_with fail
      go_ret
      exact ⟨rfl, HB3.out⟩
  · rw [hg] at GG
    clear hg hf hR
    go_enter Tryd.func6, Tryd.ntmps6
    go_wp2_with fail
    refine (GG.out _ HB0.out).mono ?_
    rintro e w1 ⟨rfl, rfl⟩
    have HB1 := HB0
    go_wp2_with fail
    refine (AL.out _ HB1.out).mono ?_
    rintro e w2 ⟨rfl, hb⟩
    have HB2 := Lib.hid (below_then HB1.out hb)
    clear hb
    go_wp2_with fail
    go_ret
    exact ⟨rfl, HB2.out⟩
end Go.Proofs.YtgmfelikmjclbaaDoor.Nodes

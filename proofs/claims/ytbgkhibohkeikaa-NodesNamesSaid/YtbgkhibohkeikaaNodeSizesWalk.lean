/-
  Walk of the statement NodesSizes: sizes add up, the depth is at most the size, the whole is the expression itself.
-/
import Derived.Test.YtbgkhibohkeikaaNodeMadeWalk
import Derived.Outline
namespace Go.Proofs.Ytbgkhibohkeikaa.Nodes
open Go.ChangeShapes Go.WideShapes Go.ChangeAt Go.RowKit

theorem size_last {l : List Nd} (h : checkV l = 0) : sizeV l ((l.length : Int) - 1) = ((l.length : Int), 0) := by
  obtain ⟨_, h0, _, hs, _⟩ := check_acc h
  have := size_ok h (i := l.length - 1) (by omega)
  rw [hs] at this
  rwa [show ((l.length : Int) - 1) = ((l.length - 1 : Nat) : Int) by omega]
theorem part_last {l : List Nd} (h : checkV l = 0) : partV l ((l.length : Int) - 1) = (l, 0) := by
  obtain ⟨_, h0, _, hs, _⟩ := check_acc h
  have := part_ok h (i := l.length - 1) (by omega)
  rw [hs, cut_whole h0] at this
  rwa [show ((l.length : Int) - 1) = ((l.length - 1 : Nat) : Int) by omega]
theorem depth_is {l : List Nd} (h : checkV l = 0) : ∃ d : Nat, depthV l = ((d : Int), 0) ∧ 1 ≤ d ∧ d ≤ l.length ∧ ∀ m, m < l.length → ∃ d2 : Nat, depthV (cutL l (sz (accV l) m) m) = ((d2 : Int), 0) ∧ d2 ≤ d := by
  obtain ⟨hr, h0, _, hs, _⟩ := check_acc h
  have hb := good_sz hr (l.length - 1) (by omega)
  refine ⟨_, depth_ok h, hb.2.2.1, by rw [hs] at hb; exact hb.2.2.2, fun m hm => ?_⟩
  obtain ⟨c1, c2, c3, c4⟩ := cut_ok h hm
  refine ⟨_, depth_ok c1, ?_⟩
  rw [c2, c3]
  exact c4
set_option maxRecDepth 100000 in
set_option maxHeartbeats 1000000 in
theorem sizes_walk (v : Value) (l : List Nd) (at_ : Int) (w : World) (hR : ReadsN w v l) (hn : l.length ≤ 9223372036854775807) (hat : at_ ≤ 9223372036854775807) :
    Calls Try.prog 6 #[v, .int .i64 at_] w fun e w' => e = .returned (.bool true) ∧ Below w.heap.size w w' := by
  have G := Lib.hid (great_any v l w hR)
  obtain ⟨ad, cap, rfl⟩ := hR.shape
  have HR := Lib.hid hR
  clear hR
  cases hg : decide (70 < l.length)
  · have h70 : l.length ≤ 70 := by rw [decide_eq_false_iff_not] at hg; omega
    have C := Lib.hid (fun (W : World) h => refCheck_any (.slice ad l.length cap) l W h (by omega))
    rw [hg] at G
    clear hg
    by_cases hc : checkV l = 0
    · have q1 : (checkV l != 0) = false := by rw [hc]; rfl
      have HC := Lib.hid hc
      by_cases h0 : at_ < 0
      · clear hc
        go_enter Try.func6, Try.ntmps6
        go_wp2_with fail
        refine G.out.mono ?_
        rintro e w1 ⟨rfl, rfl⟩
        go_wp2_with fail
        refine (C.out _ HR.out).mono ?_
        rintro e w1 ⟨rfl, hb⟩
        have HB := Lib.hid hb
        clear hb
        go_wp2_with fail
        refine (alive_any _).mono ?_
        rintro e w2 ⟨rfl, hb⟩
        have HB2 := Lib.hid (below_then HB.out hb)
        clear hb
        go_wp2_with fail
        go_ret
        exact ⟨rfl, HB2.out⟩
      · by_cases h1 : (l.length : Int) ≤ at_
        · clear hc
          go_enter Try.func6, Try.ntmps6
          go_wp2_with fail
          refine G.out.mono ?_
          rintro e w1 ⟨rfl, rfl⟩
          go_wp2_with fail
          refine (C.out _ HR.out).mono ?_
          rintro e w1 ⟨rfl, hb⟩
          have HB := Lib.hid hb
          clear hb
          go_wp2_with fail
          refine (alive_any _).mono ?_
          rintro e w2 ⟨rfl, hb⟩
          have HB2 := Lib.hid (below_then HB.out hb)
          clear hb
          go_wp2_with fail
          go_ret
          exact ⟨rfl, HB2.out⟩
        · obtain ⟨m, rfl⟩ : ∃ m : Nat, at_ = m := ⟨at_.toNat, by omega⟩
          have hm : m < l.length := by omega
          have HM := Lib.hid hm
          clear hc
          go_enter Try.func6, Try.ntmps6
          go_wp2_with fail
          refine G.out.mono ?_
          rintro e w1 ⟨rfl, rfl⟩
          go_wp2_with fail
          refine (C.out _ HR.out).mono ?_
          rintro e w1 ⟨rfl, hb⟩
          have HB := Lib.hid hb
          have HR1 := Lib.hid (HR.out.below hb)
          clear hb
          go_wp2_with fail
          have h60 := (check_acc HC.out).2.2.1
          refine (nodesSize_any _ _ _ _ HR1.out (by omega)).mono ?_
          rintro e w2 ⟨rfl, hb⟩
          rw [size_ok HC.out HM.out]
          have HB2 := Lib.hid (below_then HB.out hb)
          have HR2 := Lib.hid (HR1.out.below hb)
          clear hb
          obtain ⟨b, o, cap', hv, hbs, hnd⟩ := HR2.out.nd m HM.out
          cases hv
          have hfx := node_facts HC.out HM.out
          obtain ⟨c1, c2, c3, c4⟩ := cut_ok HC.out HM.out
          obtain ⟨x, hx⟩ : ∃ x, l[m]'(HM.out) = x := ⟨_, rfl⟩
          rw [hx] at hnd hfx
          obtain ⟨xk, xn, xa, xb, xp⟩ := x
          have HN2 := Lib.hid hnd
          obtain ⟨d0, d1, d2, d3, d4⟩ := hnd
          simp only at d0 d1 d2 d3 d4 hfx
          obtain ⟨k1, k2, k3, k4, k5, k6, hcase⟩ := hfx
          have PT := Lib.hid (fun W => nodesParts_any xk (by omega) (by omega) W)
          rw [parts_ok k1 k2] at PT
          have HCL : Hid ((cutL l (sz (accV l) m) m).length = sz (accV l) m) := Lib.hid c2
          have HSL := Lib.hid (size_last HC.out)
          have HPL := Lib.hid (part_last HC.out)
          obtain ⟨d, hd1, hd2, hd3, hd4⟩ := depth_is HC.out
          obtain ⟨dd, he1, he2⟩ := hd4 m HM.out
          have HD := Lib.hid hd1
          have HE := Lib.hid he1
          obtain ⟨s, hs⟩ : ∃ s, sz (accV l) m = s := ⟨_, rfl⟩
          have hs60 : s ≤ 60 := by have := (good_sz (check_acc HC.out).1 m HM.out).2.1; omega
          have HS := Lib.hid hs
          have HCL2 : Hid ((cutL l (sz (accV l) m) m).length = s) := Lib.hid (by rw [HCL.out, hs])
          rw [hs]
          clear hx c1 c2 c3 c4 k4 hd1 hd4 he1
          go_wp2_with fail
          refine (PT.out _).mono ?_
          rintro e w3 ⟨rfl, hb⟩
          have HB3 := Lib.hid (below_then HB2.out hb)
          have HR3 := Lib.hid (HR2.out.below hb)
          have HK3 := Lib.hid hb
          clear hb d0 d1 d2 d3 d4
          go_wp2_with fail
          refine (nodesSize_any _ _ _ _ HR3.out (by omega)).mono ?_
          rintro e w4 ⟨rfl, hb⟩
          rw [HSL.out]
          have HB4 := Lib.hid (below_then HB3.out hb)
          have HR4 := Lib.hid (HR3.out.below hb)
          have HK4 := Lib.hid (below_then HK3.out hb)
          clear hb
          go_wp2_with fail
          refine (nodesDepth_any _ _ _ HR4.out (by omega)).mono ?_
          rintro e w5 ⟨rfl, hb⟩
          rw [HD.out]
          have HB5 := Lib.hid (below_then HB4.out hb)
          have HR5 := Lib.hid (HR4.out.below hb)
          have HK5 := Lib.hid (below_then HK4.out hb)
          clear hb
          go_wp2_with fail
          refine (nodesPart_any _ _ _ _ HR5.out (by omega)).mono ?_
          rintro e w6 ⟨vw, rfl, ho, hb⟩
          rw [HPL.out] at ho ⊢
          have HB6 := Lib.hid (below_then HB5.out hb)
          have HR6 := Lib.hid (HR5.out.below hb)
          have HK6 := Lib.hid (below_then HK5.out hb)
          have HW6 := Lib.hid (own_readsN ho)
          clear hb ho
          go_wp2_with fail
          refine (refEqual_any _ _ _ _ _ HW6.out HR6.out (by omega)).mono ?_
          rintro e w7 ⟨rfl, hdr⟩
          rw [equal_refl]
          have HB7 := Lib.hid (HB6.out.trans (hdr.below _))
          have HR7 := Lib.hid (HR6.out.below (hdr.below _))
          have hdr7 := hdr
          clear hdr
          have HK7 := Lib.hid (HK6.out.trans (hdr7.below _))
          rcases hcase with ⟨a0, e1, e2, e3⟩ | ⟨a0, e0, e1, e2, e3⟩ | ⟨a0, e0, ez, e1, e2, e3⟩
          · have han : ((arity xk : Nat) : Int) = 0 := by rw [a0]; rfl
            have hsum : (s : Int) = 1 := by rw [hs] at e3; omega
            clear a0 e1 e2 e3 hs
            go_wp2_with fail
            refine (nodesPart_any _ _ _ _ HR7.out (by omega)).mono ?_
            rintro e wp ⟨vo, rfl, ho, hb⟩
            rw [part_ok HC.out HM.out] at ho ⊢
            have HBp := Lib.hid (below_then HB7.out hb)
            have HOp := Lib.hid (own_readsN ho)
            obtain ⟨adp, cpp, hsh⟩ := own_shape ho
            rw [HCL2.out] at hsh
            subst hsh
            clear hb ho
            go_wp2_with fail
            refine (nodesDepth_any _ _ _ HOp.out (by rw [HCL2.out]; omega)).mono ?_
            rintro e wq ⟨rfl, hb⟩
            rw [HE.out]
            have HBq := Lib.hid (below_then HBp.out hb)
            clear hb
            go_wp2_with fail
            refine (alive_any _).mono ?_
            rintro e wr2 ⟨rfl, hb⟩
            have HBr := Lib.hid (below_then HBq.out hb)
            clear hb
            go_wp2_with fail
            go_ret
            exact ⟨rfl, HBr.out⟩
          · obtain ⟨sa, hsa⟩ : ∃ sa, sz (accV l) (m - 1) = sa := ⟨_, rfl⟩
            have han : ((arity xk : Nat) : Int) = 1 := by rw [a0]; rfl
            have hsum : (s : Int) = 1 + sa := by rw [hs, hsa] at e3; omega
            have hA : sizeV l xa = ((sa : Int), 0) := by rw [e1, size_ok HC.out (i := m - 1) (by omega), hsa]
            have HA := Lib.hid hA
            clear a0 e1 e2 e3 hs hsa hA
            obtain ⟨d0, d1, d2, d3, d4⟩ := HN2.out.below hbs HK7.out
            simp only at d0 d1 d2 d3 d4
            go_wp2_with fail
            refine (nodesSize_any _ _ _ _ HR7.out (by omega)).mono ?_
            rintro e w8 ⟨rfl, hb⟩
            rw [HA.out]
            have HB8 := Lib.hid (below_then HB7.out hb)
            have HR8 := Lib.hid (HR7.out.below hb)
            have HK8 := Lib.hid (below_then HK7.out hb)
            clear hb
            clear d0 d1 d2 d3 d4
            go_wp2_with fail
            refine (nodesPart_any _ _ _ _ HR8.out (by omega)).mono ?_
            rintro e wp ⟨vo, rfl, ho, hb⟩
            rw [part_ok HC.out HM.out] at ho ⊢
            have HBp := Lib.hid (below_then HB8.out hb)
            have HOp := Lib.hid (own_readsN ho)
            obtain ⟨adp, cpp, hsh⟩ := own_shape ho
            rw [HCL2.out] at hsh
            subst hsh
            clear hb ho
            go_wp2_with fail
            refine (nodesDepth_any _ _ _ HOp.out (by rw [HCL2.out]; omega)).mono ?_
            rintro e wq ⟨rfl, hb⟩
            rw [HE.out]
            have HBq := Lib.hid (below_then HBp.out hb)
            clear hb
            go_wp2_with fail
            refine (alive_any _).mono ?_
            rintro e wr2 ⟨rfl, hb⟩
            have HBr := Lib.hid (below_then HBq.out hb)
            clear hb
            go_wp2_with fail
            go_ret
            exact ⟨rfl, HBr.out⟩
          · obtain ⟨sa, hsa⟩ : ∃ sa, sz (accV l) (m - 1) = sa := ⟨_, rfl⟩
            rw [hsa] at e1 e3 ez
            obtain ⟨sb, hsb⟩ : ∃ sb, sz (accV l) (m - 1 - sa) = sb := ⟨_, rfl⟩
            have han : ((arity xk : Nat) : Int) = 2 := by rw [a0]; rfl
            have hsum : (s : Int) = 1 + sb + sa := by rw [hs, hsb] at e3; omega
            have hA : sizeV l xa = ((sb : Int), 0) := by rw [e1, size_ok HC.out (i := m - 1 - sa) (by omega), hsb]
            have hB : sizeV l xb = ((sa : Int), 0) := by rw [e2, size_ok HC.out (i := m - 1) (by omega), hsa]
            have HA := Lib.hid hA
            have HBB := Lib.hid hB
            clear a0 e1 e2 e3 hs hsa hA hB hsb
            obtain ⟨d0, d1, d2, d3, d4⟩ := HN2.out.below hbs HK7.out
            simp only at d0 d1 d2 d3 d4
            go_wp2_with fail
            refine (nodesSize_any _ _ _ _ HR7.out (by omega)).mono ?_
            rintro e w8 ⟨rfl, hb⟩
            rw [HA.out]
            have HB8 := Lib.hid (below_then HB7.out hb)
            have HR8 := Lib.hid (HR7.out.below hb)
            have HK8 := Lib.hid (below_then HK7.out hb)
            clear hb
            clear d0 d1 d2 d3 d4
            obtain ⟨d0, d1, d2, d3, d4⟩ := HN2.out.below hbs HK8.out
            simp only at d0 d1 d2 d3 d4
            go_wp2_with fail
            refine (nodesSize_any _ _ _ _ HR8.out (by omega)).mono ?_
            rintro e w9 ⟨rfl, hb⟩
            rw [HBB.out]
            have HB9 := Lib.hid (below_then HB8.out hb)
            have HR9 := Lib.hid (HR8.out.below hb)
            have HK9 := Lib.hid (below_then HK8.out hb)
            clear hb
            clear d0 d1 d2 d3 d4
            go_wp2_with fail
            refine (nodesPart_any _ _ _ _ HR9.out (by omega)).mono ?_
            rintro e wp ⟨vo, rfl, ho, hb⟩
            rw [part_ok HC.out HM.out] at ho ⊢
            have HBp := Lib.hid (below_then HB9.out hb)
            have HOp := Lib.hid (own_readsN ho)
            obtain ⟨adp, cpp, hsh⟩ := own_shape ho
            rw [HCL2.out] at hsh
            subst hsh
            clear hb ho
            go_wp2_with fail
            refine (nodesDepth_any _ _ _ HOp.out (by rw [HCL2.out]; omega)).mono ?_
            rintro e wq ⟨rfl, hb⟩
            rw [HE.out]
            have HBq := Lib.hid (below_then HBp.out hb)
            clear hb
            go_wp2_with fail
            refine (alive_any _).mono ?_
            rintro e wr2 ⟨rfl, hb⟩
            have HBr := Lib.hid (below_then HBq.out hb)
            clear hb
            go_wp2_with fail
            go_ret
            exact ⟨rfl, HBr.out⟩
    · have q1 : (checkV l != 0) = true := by rw [bne_iff_ne]; exact hc
      clear hc
      go_enter Try.func6, Try.ntmps6
      go_wp2_with fail
      refine G.out.mono ?_
      rintro e w1 ⟨rfl, rfl⟩
      go_wp2_with fail
      refine (C.out _ HR.out).mono ?_
      rintro e w1 ⟨rfl, hb⟩
      have HB := Lib.hid hb
      clear hb
      go_wp2_with fail
      refine (alive_any _).mono ?_
      rintro e w2 ⟨rfl, hb⟩
      have HB2 := Lib.hid (below_then HB.out hb)
      clear hb
      go_wp2_with fail
      go_ret
      exact ⟨rfl, HB2.out⟩
  · rw [hg] at G
    clear hg
    go_enter Try.func6, Try.ntmps6
    go_wp2_with fail
    refine G.out.mono ?_
    rintro e w1 ⟨rfl, rfl⟩
    go_wp2_with fail
    refine (alive_any _).mono ?_
    rintro e w2 ⟨rfl, hb⟩
    go_wp2_with fail
    go_ret
    exact ⟨rfl, hb⟩
end Go.Proofs.Ytbgkhibohkeikaa.Nodes

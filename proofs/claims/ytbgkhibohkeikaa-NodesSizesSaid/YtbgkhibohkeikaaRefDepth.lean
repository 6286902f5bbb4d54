/-
  Contracts of the reference of layer 4: Depth, Size.
-/
import Derived.Test.YtbgkhibohkeikaaRefCheck
import Derived.Outline
namespace Go.Proofs.Ytbgkhibohkeikaa.Nodes
open Go.ChangeShapes Go.WideShapes Go.ChangeAt Go.RowKit

set_option maxRecDepth 100000 in
set_option maxHeartbeats 1000000 in
theorem refDepth_any (v : Value) (l : List Nd) (w : World) (hR : ReadsN w v l) (hn : l.length ≤ 1000000) :
    Calls Try.prog 19 #[v] w fun e w' => e = .returned (.tuple #[.int .i64 (depthV l).1, .int .i64 (depthV l).2]) ∧ Below w.heap.size w w' := by
  have C := Lib.hid (fun (W : World) h => refCheck_any v l W h hn)
  have S := Lib.hid (fun (W : World) h => refSizes_any v l W h hn)
  obtain ⟨ad, cap, rfl⟩ := hR.shape
  have HR := Lib.hid hR
  clear hR
  by_cases hc : checkV l = 0
  · have HV := Lib.hid (depth_ok hc)
    have HC := Lib.hid (check_acc hc)
    have q1 : (checkV l != 0) = false := by rw [hc]; rfl
    clear hc
    go_enter Try.func19, Try.ntmps19
    go_wp2_with fail
    refine (C.out _ HR.out).mono ?_
    rintro e w2 ⟨rfl, hb⟩
    have HB := Lib.hid hb
    have HR2 := Lib.hid (HR.out.below hb)
    clear hb
    go_wp2_with fail
    refine (S.out _ HR2.out).mono ?_
    rintro e w3 (⟨hr, rfl, hb⟩ | ⟨r, vs, vd, hr, rfl, hs, hd, hb⟩)
    · rw [HC.out.1] at hr; cases hr
    · have hra := acc_is hr
      have HB2 := Lib.hid (below_then HB.out hb)
      have hpos := HC.out.2.1
      have hlen := (run_good.1 hr).1
      obtain ⟨m, hm⟩ : ∃ m, l.length - 1 = m := ⟨_, rfl⟩
      obtain ⟨d, hdd⟩ : ∃ d, dp r m = d := ⟨_, rfl⟩
      obtain ⟨gD, cD, e1, eD⟩ := own_num hd (j := m) (by omega)
      subst e1
      rw [accB_get (by omega), hdd] at eD
      have HV2 : Hid (depthV l = ((d : Int), 0)) := Lib.hid (by rw [HV.out, hra, hm, hdd])
      have hm1 : (l.length : Int) - 1 = m := by omega
      have hm2 : (m : Int) < l.length := by omega
      clear hb hd hs hr hra hlen hm hdd hpos
      go_wp2_with fail
      go_ret2
      exact ⟨by rw [HV2.out]; rfl, HB2.out⟩
  · have HV : Hid (depthV l = (0, checkV l)) := Lib.hid (by unfold depthV; rw [if_neg hc])
    have q1 : (checkV l != 0) = true := by rw [bne_iff_ne]; exact hc
    clear hc
    go_enter Try.func19, Try.ntmps19
    go_wp2_with fail
    refine (C.out _ HR.out).mono ?_
    rintro e w2 ⟨rfl, hb⟩
    have HB := Lib.hid hb
    have HR2 := Lib.hid (HR.out.below hb)
    clear hb
    go_wp2_with fail
    refine (C.out _ HR2.out).mono ?_
    rintro e w3 ⟨rfl, hb⟩
    have HB2 := Lib.hid (below_then HB.out hb)
    clear hb
    go_wp2_with fail
    go_ret2
    exact ⟨by rw [HV.out]; rfl, HB2.out⟩

set_option maxRecDepth 100000 in
set_option maxHeartbeats 1000000 in
theorem refSize_any (v : Value) (l : List Nd) (at_ : Int) (w : World) (hR : ReadsN w v l) (hn : l.length ≤ 1000000) :
    Calls Try.prog 20 #[v, .int .i64 at_] w fun e w' => e = .returned (.tuple #[.int .i64 (sizeV l at_).1, .int .i64 (sizeV l at_).2]) ∧ Below w.heap.size w w' := by
  have C := Lib.hid (fun (W : World) h => refCheck_any v l W h hn)
  have S := Lib.hid (fun (W : World) h => refSizes_any v l W h hn)
  obtain ⟨ad, cap, rfl⟩ := hR.shape
  have HR := Lib.hid hR
  clear hR
  by_cases hc : checkV l = 0
  · have HC := Lib.hid (check_acc hc)
    have q1 : (checkV l != 0) = false := by rw [hc]; rfl
    by_cases hin : 0 ≤ at_ ∧ at_ < l.length
    · obtain ⟨m, rfl⟩ : ∃ m : Nat, at_ = m := ⟨at_.toNat, by omega⟩
      have hm2 : (m : Int) < l.length := hin.2
      have HV := Lib.hid (size_ok hc (i := m) (by omega))
      clear hc hin
      go_enter Try.func20, Try.ntmps20
      go_wp2_with fail
      refine (C.out _ HR.out).mono ?_
      rintro e w2 ⟨rfl, hb⟩
      have HB := Lib.hid hb
      have HR2 := Lib.hid (HR.out.below hb)
      clear hb
      go_wp2_with fail
      refine (S.out _ HR2.out).mono ?_
      rintro e w3 (⟨hr, rfl, hb⟩ | ⟨r, vs, vd, hr, rfl, hs, hd, hb⟩)
      · rw [HC.out.1] at hr; cases hr
      · have hra := acc_is hr
        have HB2 := Lib.hid (below_then HB.out hb)
        have hlen := (run_good.1 hr).1
        obtain ⟨d, hdd⟩ : ∃ d, sz r m = d := ⟨_, rfl⟩
        obtain ⟨gD, cD, e1, eD⟩ := own_num hs (j := m) (by omega)
        subst e1
        rw [accA_get (by omega), hdd] at eD
        have HV2 : Hid (sizeV l (m : Int) = ((d : Int), 0)) := Lib.hid (by rw [HV.out, hra, hdd])
        clear hb hd hs hr hra hlen hdd
        go_wp2_with fail
        go_ret2
        exact ⟨by rw [HV2.out]; rfl, HB2.out⟩
    · have HV : Hid (sizeV l at_ = (0, 2)) := Lib.hid (by unfold sizeV; rw [if_pos hc, if_neg hin])
      clear hc
      by_cases h0 : at_ < 0
      · clear hin
        go_enter Try.func20, Try.ntmps20
        go_wp2_with fail
        refine (C.out _ HR.out).mono ?_
        rintro e w2 ⟨rfl, hb⟩
        have HB := Lib.hid hb
        clear hb
        go_wp2_with fail
        go_ret2
        exact ⟨by rw [HV.out]; rfl, HB.out⟩
      · have h1 : (l.length : Int) ≤ at_ := by omega
        clear hin
        go_enter Try.func20, Try.ntmps20
        go_wp2_with fail
        refine (C.out _ HR.out).mono ?_
        rintro e w2 ⟨rfl, hb⟩
        have HB := Lib.hid hb
        clear hb
        go_wp2_with fail
        go_ret2
        exact ⟨by rw [HV.out]; rfl, HB.out⟩
  · have HV : Hid (sizeV l at_ = (0, checkV l)) := Lib.hid (by unfold sizeV; rw [if_neg hc])
    have q1 : (checkV l != 0) = true := by rw [bne_iff_ne]; exact hc
    clear hc
    go_enter Try.func20, Try.ntmps20
    go_wp2_with fail
    refine (C.out _ HR.out).mono ?_
    rintro e w2 ⟨rfl, hb⟩
    have HB := Lib.hid hb
    have HR2 := Lib.hid (HR.out.below hb)
    clear hb
    go_wp2_with fail
    refine (C.out _ HR2.out).mono ?_
    rintro e w3 ⟨rfl, hb⟩
    have HB2 := Lib.hid (below_then HB.out hb)
    clear hb
    go_wp2_with fail
    go_ret2
    exact ⟨by rw [HV.out]; rfl, HB2.out⟩
end Go.Proofs.Ytbgkhibohkeikaa.Nodes

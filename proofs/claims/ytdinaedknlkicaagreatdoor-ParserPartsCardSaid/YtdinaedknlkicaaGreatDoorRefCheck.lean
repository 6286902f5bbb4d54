/-
  Contract of the reference of layer 4: Check.
-/
import Derived.Test.YtdinaedknlkicaaGreatDoorRefSizes
import Derived.Outline
namespace Go.Proofs.YtdinaedknlkicaaGreatDoor.Nodes
open Go.ChangeShapes Go.WideShapes Go.ChangeAt Go.RowKit

theorem checkV_many {l : List Nd} (h : 60 < l.length) : checkV l = 4 := by unfold checkV; rw [if_pos h]
theorem checkV_none {l : List Nd} (h : ¬ 60 < l.length) (hr : run [] l = none) : checkV l = 8 := by unfold checkV; rw [if_neg h, hr]
theorem checkV_some {l : List Nd} {r : Acc} (h : ¬ 60 < l.length) (hr : run [] l = some r) : checkV l = if exprB l r = true then (if 20 < dp r (l.length - 1) then 34 else 0) else 8 := by
  unfold checkV exprB
  rw [if_neg h, hr]
  simp only [decide_eq_true_eq]
set_option maxRecDepth 100000 in
set_option maxHeartbeats 1000000 in
theorem refCheck_any (v : Value) (l : List Nd) (w : World) (hR : ReadsN w v l) (hn : l.length ≤ 1000000) :
    Calls Tryz.prog 26 #[v] w fun e w' => e = .returned (.int .i64 (checkV l)) ∧ Below w.heap.size w w' := by
  obtain ⟨ad, cap, rfl⟩ := hR.shape
  by_cases hbig : (60 : Int) < l.length
  · have HV : Hid (checkV l = 4) := Lib.hid (checkV_many (by omega))
    clear hR
    go_enter Tryz.func26, Tryz.ntmps26
    go_wp2_with fail
    go_ret
    exact ⟨by rw [HV.out]; rfl, Below.refl _ _⟩
  have S := refSizes_any _ l w hR hn
  unfold SizesEnds at S
  have HSZ := Lib.hid S
  clear hR S
  go_enter Tryz.func26, Tryz.ntmps26
  go_wp2_with fail
  refine HSZ.out.mono ?_
  rintro e w2 (⟨hr, rfl, hb⟩ | ⟨r, vs, vd, hr, rfl, hs, hd, hb⟩)
  · have HV : Hid (checkV l = 8) := Lib.hid (checkV_none (by omega) hr)
    have HB := Lib.hid hb
    clear hr hb
    go_wp2_with fail
    go_ret
    exact ⟨by rw [HV.out]; rfl, HB.out⟩
  · have HC := checkV_some (by omega) hr
    have HB := Lib.hid hb
    have HD := Lib.hid hd
    clear hb hd hs
    cases hq : exprB l r
    · have HV : Hid (checkV l = 8) := Lib.hid (by rw [HC, if_neg (by rw [hq]; simp)])
      clear HC hr
      go_wp2_with fail
      go_ret
      exact ⟨by rw [HV.out]; rfl, HB.out⟩
    · rw [if_pos hq] at HC
      have hpos : 0 < l.length := by unfold exprB at hq; rw [decide_eq_true_iff] at hq; exact hq.1
      have hlen := (run_good.1 hr).1
      obtain ⟨m, hm⟩ : ∃ m, l.length - 1 = m := ⟨_, rfl⟩
      obtain ⟨d, hdd⟩ : ∃ d, dp r m = d := ⟨_, rfl⟩
      obtain ⟨gD, cD, e1, eD⟩ := own_num HD.out (j := m) (by omega)
      subst e1
      rw [accB_get (by omega), hdd] at eD
      rw [hm, hdd] at HC
      have hm1 : (l.length : Int) - 1 = m := by omega
      have hm2 : (m : Int) < l.length := by omega
      have h0' : (0 : Int) < l.length := by omega
      by_cases hdeep : (20 : Int) < d
      · have HV : Hid (checkV l = 34) := Lib.hid (by rw [HC, if_pos (by omega)])
        clear HC hr hlen hm hdd hpos hq
        go_wp2_with fail
        go_ret
        exact ⟨by rw [HV.out]; rfl, HB.out⟩
      · have HV : Hid (checkV l = 0) := Lib.hid (by rw [HC, if_neg (by omega)])
        clear HC hr hlen hm hdd hpos hq
        go_wp2_with fail
        go_ret
        exact ⟨by rw [HV.out]; rfl, HB.out⟩
end Go.Proofs.YtdinaedknlkicaaGreatDoor.Nodes

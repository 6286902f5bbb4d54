/-
  Contracts of nodes.Depth and nodes.Size at the landed code (layer 4).
-/
import Derived.Test.YtflmpjejlkhpcaaDoorNodeCheck
import Derived.Deep.QuietTactic
import Derived.Outline
namespace Go.Proofs.YtflmpjejlkhpcaaDoor.Nodes
open Go.ChangeShapes Go.WideShapes Go.ChangeAt Go.RowKit

theorem nodesSize_any (v : Value) (l : List Nd) (at_ : Int) (w : World) (hR : ReadsN w v l) (hn : l.length ≤ 1000000) :
    Calls Tryd.prog 37 #[v, .int .i64 at_] w fun e w' => e = .returned (.tuple #[.int .i64 (sizeV l at_).1, .int .i64 (sizeV l at_).2]) ∧ Below w.heap.size w w' := by
  obtain ⟨ad, cap, rfl⟩ := hR.shape
  have S := Lib.hid (fun (W : World) h => shapes_any (.slice ad l.length cap) l W h hn)
  have HR := Lib.hid hR
  have WI := Lib.hid (fun b W => withinI_any at_ 0 b W)
  clear hR
  go_enter Tryd.func37, Tryd.ntmps37
  go_wp2_with fail
  refine (S.out _ HR.out).mono ?_
  rintro e w2 (⟨hc, rfl, hb⟩ | ⟨hc, vs, rfl, ho, hb⟩)
  · have HB := Lib.hid hb
    have HD : Hid (sizeV l at_ = (0, checkV l)) := Lib.hid (by unfold sizeV; rw [if_neg hc])
    have q1 : (checkV l != 0) = true := by rw [bne_iff_ne]; exact hc
    clear hb hc
    go_wp2_with fail
    go_ret2
    exact ⟨by rw [HD.out]; rfl, HB.out⟩
  · have HB := Lib.hid hb
    obtain ⟨hr, hpos, h60, hsz, hdp⟩ := check_acc hc
    have hlen := (run_good.1 hr).1
    cases hin : inB at_ 0 ((l.length : Int) - 1)
    · have HD : Hid (sizeV l at_ = (0, 2)) := Lib.hid (by
        unfold sizeV; rw [if_pos hc, if_neg]
        intro h
        unfold inB at hin
        rw [decide_eq_false_iff_not] at hin
        omega)
      have W1 := Lib.hid (WI.out ((l.length : Int) - 1))
      rw [hin] at W1
      clear hb ho hc hr hsz hdp hlen hin
      go_wp2_with fail
      refine (W1.out _).mono ?_
      rintro e w3 ⟨rfl, rfl⟩
      go_wp2_with fail
      go_ret2
      exact ⟨by rw [HD.out]; rfl, HB.out⟩
    · have hb0 : 0 ≤ at_ ∧ at_ ≤ (l.length : Int) - 1 := by unfold inB at hin; exact of_decide_eq_true hin
      obtain ⟨m, rfl⟩ : ∃ m : Nat, at_ = m := ⟨at_.toNat, by omega⟩
      have hml : m < l.length := by omega
      obtain ⟨s, hs⟩ : ∃ s, sz (accV l) m = s := ⟨_, rfl⟩
      have HD : Hid (sizeV l m = (((s : Nat) : Int), 0)) := Lib.hid (by rw [size_ok hc hml, hs])
      obtain ⟨bb, oo, cap', hv, hbb, e0, e1⟩ := (own_readsS ho hlen).at_ m (by omega)
      subst hv
      rw [hs] at e0
      rw [hlen]
      have W1 := Lib.hid (WI.out ((l.length : Int) - 1))
      rw [hin] at W1
      have hm2 : (m : Int) < l.length := by omega
      clear hb ho hc hr hsz hdp hlen hs hin e1 hb0
      go_wp2_with fail
      refine (W1.out _).mono ?_
      rintro e w3 ⟨rfl, rfl⟩
      go_wp2_with fail
      go_ret2
      exact ⟨by rw [HD.out]; rfl, HB.out⟩
end Go.Proofs.YtflmpjejlkhpcaaDoor.Nodes

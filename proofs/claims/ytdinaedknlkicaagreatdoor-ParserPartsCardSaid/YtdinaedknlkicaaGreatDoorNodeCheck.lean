/-
  Contract of nodes.Check at the landed code (layer 4).
-/
import Derived.Test.YtdinaedknlkicaaGreatDoorNodeShapes
import Derived.Deep.QuietTactic
import Derived.Outline
namespace Go.Proofs.YtdinaedknlkicaaGreatDoor.Nodes
open Go.ChangeShapes Go.WideShapes Go.ChangeAt Go.RowKit

theorem nodesCheck_any (v : Value) (l : List Nd) (w : World) (hR : ReadsN w v l) (hn : l.length ≤ 1000000) :
    Calls Tryz.prog 52 #[v] w fun e w' => e = .returned (.int .i64 (checkV l)) ∧ Below w.heap.size w w' := by
  have S := Lib.hid (fun (W : World) h => shapes_any v l W h hn)
  have HR := Lib.hid hR
  clear hR
  go_enter Tryz.func52, Tryz.ntmps52
  go_wp2_with fail
  refine (S.out _ HR.out).mono ?_
  rintro e w2 (⟨hc, rfl, hb⟩ | ⟨hc, vs, rfl, ho, hb⟩)
  · have HB := Lib.hid hb
    clear hb hc
    go_wp2_with fail
    go_ret
    exact ⟨rfl, HB.out⟩
  · have HB := Lib.hid hb
    have HC := Lib.hid hc
    clear hb ho hc
    go_wp2_with fail
    go_ret
    exact ⟨by rw [HC.out]; rfl, HB.out⟩
end Go.Proofs.YtdinaedknlkicaaGreatDoor.Nodes

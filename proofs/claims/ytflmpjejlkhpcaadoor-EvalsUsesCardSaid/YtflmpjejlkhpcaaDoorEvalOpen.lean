/-
  Arguments opened: a record, as the walks of layer 7's statements read it; their walks from the arguments' readings.
-/
import Derived.Test.YtflmpjejlkhpcaaDoorNodeOpen
import Derived.Test.YtflmpjejlkhpcaaDoorEvalCalls
namespace Go.Proofs.YtflmpjejlkhpcaaDoor.Nodes
open Go.ChangeShapes Go.WideShapes Go.ChangeAt Go.RowKit Go.Deep

theorem cRec : Tryd.prog.cellsOf 26 = 3 := by kernel_rfl
/-- A record that is handed over by itself. -/
theorem open_record {H : Type} {enc : TypeId × Value → H} {w : World} {r : Reach} {base base2 : Nat} {sp : Nat → Bool} {held : Bool} {v : Value} {d : DataW H} {p : List MemPlace} (hw : Value.okWide Tryd.prog w r base 26 v) (h : DataW.Trod enc Tryd.prog w base2 sp held 26 v d p) :
    ∃ t : Rec, v = recVal t ∧ RecOk t := by
  obtain ⟨cs, rfl, hsz⟩ := okWide_struct Tryd.underlying26 hw
  rw [cRec] at hsz
  obtain ⟨fuel, hf⟩ := h
  obtain ⟨ys, m, _, _, hl, hyl, hfx⟩ := DataW.trod_struct Tryd.underlying26 hf
  have h0 : DataW.trod enc Tryd.prog w base2 sp held m 2 (((Value.agg cs).cells.toList.drop 0).take (Tryd.prog.cellsOf 2)) = ys[0]? := hfx 0 _ rfl
  have h1 : DataW.trod enc Tryd.prog w base2 sp held m 2 (((Value.agg cs).cells.toList.drop 1).take (Tryd.prog.cellsOf 2)) = ys[1]? := hfx 1 _ rfl
  have h2 : DataW.trod enc Tryd.prog w base2 sp held m 2 (((Value.agg cs).cells.toList.drop 2).take (Tryd.prog.cellsOf 2)) = ys[2]? := hfx 2 _ rfl
  have hlen : ys.length = 3 := hyl
  rw [List.getElem?_eq_getElem (by omega)] at h0 h1 h2
  rw [cI64] at h0 h1 h2
  obtain ⟨z0, e0, _, f0⟩ := DataW.trod_int Tryd.underlying2 h0
  obtain ⟨z1, e1, _, f1⟩ := DataW.trod_int Tryd.underlying2 h1
  obtain ⟨z2, e2, _, f2⟩ := DataW.trod_int Tryd.underlying2 h2
  have g0 : (Value.agg cs).cells.toList[0]? = some (.int .i64 z0) := by
    have := congrArg (·[0]?) e0
    simpa [List.getElem?_take, List.getElem?_drop] using this
  have g1 : (Value.agg cs).cells.toList[1]? = some (.int .i64 z1) := by
    have := congrArg (·[0]?) e1
    simpa [List.getElem?_take, List.getElem?_drop] using this
  have g2 : (Value.agg cs).cells.toList[2]? = some (.int .i64 z2) := by
    have := congrArg (·[0]?) e2
    simpa [List.getElem?_take, List.getElem?_drop] using this
  refine ⟨⟨z0, z1, z2⟩, ?_, bounds_i64 f0, bounds_i64 f1, bounds_i64 f2⟩
  unfold recVal
  congr 1
  have hc : ∀ i : Nat, cs[i]? = ((Value.agg cs).cells.toList)[i]? := fun i => by show cs[i]? = cs.toList[i]?; rw [Array.getElem?_toList]
  apply Array.ext_getElem?
  intro i
  match i with
  | 0 => rw [hc, g0]; rfl
  | 1 => rw [hc, g1]; rfl
  | 2 => rw [hc, g2]; rfl
  | i + 3 => rw [Array.getElem?_eq_none (by omega), Array.getElem?_eq_none (by simp)]
end Go.Proofs.YtflmpjejlkhpcaaDoor.Nodes

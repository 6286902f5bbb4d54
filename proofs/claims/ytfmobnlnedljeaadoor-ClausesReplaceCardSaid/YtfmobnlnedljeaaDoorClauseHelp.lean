/-
  Contracts of the statements' helpers (layer 8): slide, alive, good.
-/
import Derived.Test.YtfmobnlnedljeaaDoorClauseAsks
import Derived.Test.YtfmobnlnedljeaaDoorClauseTells
import Derived.Test.YtfmobnlnedljeaaDoorClauseWin
import Derived.Outline
namespace Go.Proofs.YtfmobnlnedljeaaDoor.Nodes
open Go.ChangeShapes Go.WideShapes Go.ChangeAt Go.RowKit

set_option maxRecDepth 100000 in
theorem slide_any (s e : Int) (w : World) : Calls Tryd.prog 11 #[.int .i64 s, .int .i64 e] w fun e' w' => e' = .returned (.int .i64 (windowV ⟨2, s, e⟩)) ∧ Below w.heap.size w w' := by
  have C := Lib.hid (clWindow_any ⟨2, s, e⟩ w)
  unfold winVal at C
  go_enter Tryd.func11, Tryd.ntmps11
  go_wp2_with fail
  refine C.out.mono ?_
  rintro e w1 ⟨rfl, hb⟩
  have HB := Lib.hid hb
  clear hb
  go_wp2_with fail
  go_ret
  exact ⟨rfl, HB.out⟩
/-- A literal list of numbers. -/
def intBox (l : List Int) : Obj := .cells (l.map (Value.int .i64)).toArray 3
theorem lit_reads (w : World) (l : List Int) : ReadsI (w.alloc (intBox l)) (.slice (some ⟨w.heap.size, 0, none⟩) l.length l.length) l := by
  refine .inr ⟨w.heap.size, 0, 0, rfl, by simp, fun i x hx => ?_⟩
  have e : (w.alloc (intBox l)).heap[w.heap.size]? = some (intBox l) := heap_alloc_new _ _
  unfold World.cell?
  simp only [e]
  simp [intBox, hx]
theorem lit_sources (l : List Int) (j : Bool) (w : World) (hf : NameFix w) (hn : l.length ≤ 9223372036854775807) : Calls Tryd.prog 12 #[.slice (some ⟨w.heap.size, 0, none⟩) l.length l.length, .bool j] (w.alloc (intBox l)) fun e w' => e = .returned (.int .i64 (sourcesV l j)) ∧ Below w.heap.size w w' :=
  (clSources_any _ l j _ (hf.below (box_below _ _)) (lit_reads w l) hn).mono (fun _ _ h => ⟨h.1, below_box (Below.refl _ w) h.2⟩)
set_option maxRecDepth 100000 in
set_option maxHeartbeats 1000000 in
theorem alive8_any (w : World) (hf : NameFix w) : Calls Tryd.prog 18 #[] w fun e w' => e = .returned (.bool true) ∧ Below w.heap.size w w' := by
  have F := Lib.hid hf
  have S1 := Lib.hid (fun W => slide_any 10 3 W)
  have S2 := Lib.hid (fun W => slide_any 10 11 W)
  have S3 := Lib.hid (fun W => slide_any 17 1 W)
  have L1 := Lib.hid (fun (W : World) (h : Below w.heap.size w W) => lit_sources [2, 0] false W (F.out.below h) (by decide))
  have L2 := Lib.hid (fun (W : World) (h : Below w.heap.size w W) => lit_sources [2, 2] false W (F.out.below h) (by decide))
  have L3 := Lib.hid (fun (W : World) (h : Below w.heap.size w W) => lit_sources [2] true W (F.out.below h) (by decide))
  rw [show windowV ⟨2, 10, 3⟩ = 0 by decide] at S1
  rw [show windowV ⟨2, 10, 11⟩ = 8 by decide] at S2
  rw [show windowV ⟨2, 17, 1⟩ = 8 by decide] at S3
  rw [show sourcesV [2, 0] false = 0 by decide] at L1
  rw [show sourcesV [2, 2] false = 43 by decide] at L2
  rw [show sourcesV [2] true = 8 by decide] at L3
  clear hf
  go_enter Tryd.func18, Tryd.ntmps18
  go_wp2_with fail
  refine (S1.out _).mono ?_
  rintro e w1 ⟨rfl, hb⟩
  have HB1 := Lib.hid hb
  clear hb
  go_wp2_with fail
  refine (S2.out _).mono ?_
  rintro e w2 ⟨rfl, hb⟩
  have HB2 := Lib.hid (below_then HB1.out hb)
  clear hb
  go_wp2_with fail
  refine (S3.out _).mono ?_
  rintro e w3 ⟨rfl, hb⟩
  have HB3 := Lib.hid (below_then HB2.out hb)
  clear hb
  go_wp2_with fail
  refine (L1.out w3 HB3.out).mono ?_
  rintro e w4 ⟨rfl, hb⟩
  have HB4 := Lib.hid (below_then HB3.out hb)
  clear hb
  go_wp2_with fail
  refine (L2.out w4 HB4.out).mono ?_
  rintro e w5 ⟨rfl, hb⟩
  have HB5 := Lib.hid (below_then HB4.out hb)
  clear hb
  go_wp2_with fail
  refine (L3.out w5 HB5.out).mono ?_
  rintro e w6 ⟨rfl, hb⟩
  have HB6 := Lib.hid (below_then HB5.out hb)
  clear hb
  go_wp2_with fail
  go_ret
  exact ⟨rfl, HB6.out⟩
/-! ### good -/
def goodV : List Nd := [⟨4, 0, 0, 0, 0⟩]
def goodQ : Qy := ⟨2, goodV, [1, 0], false, goodV, ⟨1, 5, 0⟩, false, 2⟩
theorem iQy : (Tryd.prog.info? 32).map (·.size) = some 10 := by kernel_rfl
/-- A result that lies in a variable: a query. -/
theorem ret_qy {fn : Func} {p : Tmp} (h : fn.results = #[.cell p 32]) (tmps : Array Value) (w : World) (b : Nat) (s : Sl) (q : Qy) (hp : tmps.getD p undef = .pointer (some ⟨b, 0, none⟩)) (hq : QyAt w b s q) :
    (results fn tmps).run Tryd.prog w = .ok (qyVal s q) w := by
  exact results_cell_row h tmps w b _ _ _ _ hp hq Tryd.underlying32 rfl iQy
theorem good_reads (w : World) (b : Nat) (h : w.heap[b]? = some (.cells #[.int .u8 4, .int .i64 0, .int .i64 0, .int .i64 0, .int .i64 0] 35)) : ReadsN w (.slice (some ⟨b, 0, none⟩) 1 1) goodV := by
  refine .inr ⟨b, 0, 0, rfl, (Array.getElem?_eq_some_iff.1 h).1, fun i x hx => ?_⟩
  match i, hx with
  | 0, hx =>
    simp [goodV] at hx
    subst hx
    unfold NdAt World.cell?
    simp only [h]
    exact ⟨rfl, rfl, rfl, rfl, rfl⟩
  | i + 1, hx => simp [goodV] at hx
theorem good_at (w : World) (o : Obj) (b : Nat) (hb : b = w.heap.size) : ∀ W, W = (((w.alloc o).alloc (.cells #[.int .u8 4, .int .i64 0, .int .i64 0, .int .i64 0, .int .i64 0] 35)).alloc (.cells #[.int .i64 1, .int .i64 0] 3)) →
    W.heap[b]? = some o ∧ W.heap[b + 1]? = some (.cells #[.int .u8 4, .int .i64 0, .int .i64 0, .int .i64 0, .int .i64 0] 35) ∧ ReadsI W (.slice (some ⟨b + 1 + 1, 0, none⟩) 2 2) [1, 0] ∧ Below w.heap.size w W := by
  rintro W rfl
  subst hb
  have e1 : (w.alloc o).heap.size = w.heap.size + 1 := by simp
  have e2 : ((w.alloc o).alloc (.cells #[.int .u8 4, .int .i64 0, .int .i64 0, .int .i64 0, .int .i64 0] 35)).heap.size = w.heap.size + 1 + 1 := by simp
  refine ⟨?_, ?_, ?_, (((box_below w o).alloc (by simp) _).alloc (by simp; omega) _)⟩
  · rw [(box_below _ _).block _ (by rw [e2]; omega), (box_below _ _).block _ (by rw [e1]; omega)]
    exact heap_alloc_new _ _
  · rw [(box_below _ _).block _ (by rw [e2]; omega), ← e1]
    exact heap_alloc_new _ _
  · have := lit_reads ((w.alloc o).alloc (.cells #[.int .u8 4, .int .i64 0, .int .i64 0, .int .i64 0, .int .i64 0] 35)) [1, 0]
    rwa [e2] at this
set_option maxRecDepth 100000 in
set_option maxHeartbeats 1000000 in
theorem good_any (w : World) : Calls Tryd.prog 13 #[] w fun e w' => ∃ s, e = .returned (qyVal s goodQ) ∧ ReadsQ w' s goodQ ∧ Below w.heap.size w w' := by
  have G := Lib.hid (good_at w (qyBox ⟨.slice (some ⟨w.heap.size + 1, 0, none⟩) 1 1, .slice (some ⟨w.heap.size + 1 + 1, 0, none⟩) 2 2, .slice (some ⟨w.heap.size + 1, 0, none⟩) 1 1⟩ goodQ) w.heap.size rfl _ rfl)
  unfold qyBox goodQ at G
  go_enter Tryd.func13, Tryd.ntmps13
  go_wp2_with fail
  obtain ⟨g0, g1, g2, g3⟩ := G.out
  refine bodyPost_ret (ret_qy rfl _ _ w.heap.size ⟨.slice (some ⟨w.heap.size + 1, 0, none⟩) 1 1, .slice (some ⟨w.heap.size + 1 + 1, 0, none⟩) 2 2, .slice (some ⟨w.heap.size + 1, 0, none⟩) 1 1⟩ goodQ rfl g0) rfl ?_
  exact ⟨_, rfl, ⟨good_reads _ _ g1, g2, good_reads _ _ g1⟩, g3⟩
end Go.Proofs.YtfmobnlnedljeaaDoor.Nodes

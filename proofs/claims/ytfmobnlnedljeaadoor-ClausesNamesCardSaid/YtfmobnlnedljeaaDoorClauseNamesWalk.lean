/-
  Walk of the statement ClausesNames: the chapter's examples, limits, queries that are not valid, errors.
-/
import Derived.Test.YtfmobnlnedljeaaDoorQyState
import Derived.Test.YtfmobnlnedljeaaDoorClauseCheck
import Derived.Test.YtfmobnlnedljeaaDoorNodeMake
import Derived.Deep.RegionHeld3
import Derived.Deep.CutRange
import Derived.Deep.CutBlock
import Derived.Outline
namespace Go.Proofs.YtfmobnlnedljeaaDoor.Nodes
open Go.ChangeShapes Go.WideShapes Go.ChangeAt Go.RowKit

/-! ### Windows that are none -/
def badWins : List Wn := [⟨0, 0, 0⟩, ⟨1, 0, 0⟩, ⟨4, 5, 0⟩, ⟨1, -1, 0⟩, ⟨1, 1073741825, 0⟩, ⟨1, 5, 5⟩, ⟨3, 5, 1⟩, ⟨2, 5, 0⟩, ⟨2, 5, -1⟩, ⟨2, 5, -9223372036854775808⟩, ⟨2, 0, 0⟩, ⟨3, 0, 0⟩]
def winsRow : List Value := badWins.flatMap winCells
def winsBox : Obj := .cells winsRow.toArray 23
theorem wins_at {W : World} {b : Nat} (h : W.heap[b]? = some winsBox) : ∀ i : Nat, i < 12 → ∃ x : Wn, windowV x = 8 ∧ W.cell? ⟨b, i * 3, none⟩ = some (.int .u8 x.kind) ∧ W.cell? ⟨b, i * 3 + 1, none⟩ = some (.int .i64 x.size) ∧ W.cell? ⟨b, i * 3 + 2, none⟩ = some (.int .i64 x.every) := by
  intro i hi
  unfold World.cell?
  simp only [h]
  match i, hi with
  | 0, _ => exact ⟨⟨0, 0, 0⟩, by decide, rfl, rfl, rfl⟩
  | 1, _ => exact ⟨⟨1, 0, 0⟩, by decide, rfl, rfl, rfl⟩
  | 2, _ => exact ⟨⟨4, 5, 0⟩, by decide, rfl, rfl, rfl⟩
  | 3, _ => exact ⟨⟨1, -1, 0⟩, by decide, rfl, rfl, rfl⟩
  | 4, _ => exact ⟨⟨1, 1073741825, 0⟩, by decide, rfl, rfl, rfl⟩
  | 5, _ => exact ⟨⟨1, 5, 5⟩, by decide, rfl, rfl, rfl⟩
  | 6, _ => exact ⟨⟨3, 5, 1⟩, by decide, rfl, rfl, rfl⟩
  | 7, _ => exact ⟨⟨2, 5, 0⟩, by decide, rfl, rfl, rfl⟩
  | 8, _ => exact ⟨⟨2, 5, -1⟩, by decide, rfl, rfl, rfl⟩
  | 9, _ => exact ⟨⟨2, 5, -9223372036854775808⟩, by decide, rfl, rfl, rfl⟩
  | 10, _ => exact ⟨⟨2, 0, 0⟩, by decide, rfl, rfl, rfl⟩
  | 11, _ => exact ⟨⟨3, 0, 0⟩, by decide, rfl, rfl, rfl⟩
theorem wins_start (w : World) : (w.alloc winsBox).heap[w.heap.size]? = some winsBox := heap_alloc_new _ _
/-! ### Queries that are none -/
def zeros61 : List Nd := List.replicate 61 ⟨0, 0, 0, 0, 0⟩
theorem zeros_len : zeros61.length = 61 := List.length_replicate ..
theorem zeros_check : checkV zeros61 = 4 := by unfold checkV; rw [zeros_len]; rfl
theorem bad0 : checkQ ⟨0, goodV, [1, 0], false, goodV, ⟨1, 5, 0⟩, false, 2⟩ = 8 := by decide
theorem bad1 : checkQ ⟨5, goodV, [1, 0], false, goodV, ⟨1, 5, 0⟩, false, 2⟩ = 8 := by decide
theorem bad2 : checkQ ⟨2, goodV, [1, 0], false, goodV, ⟨1, 5, 0⟩, false, 0⟩ = 8 := by decide
theorem bad3 : checkQ ⟨2, goodV, [1, 0], false, goodV, ⟨1, 5, 0⟩, false, 3⟩ = 8 := by decide
theorem bad4 : checkQ ⟨1, goodV, [1, 0], false, goodV, ⟨1, 5, 0⟩, false, 2⟩ = 8 := by decide
theorem bad5 : checkQ ⟨2, [], [1, 0], false, goodV, ⟨1, 5, 0⟩, false, 2⟩ = 8 := by decide
theorem bad6 : checkQ ⟨2, goodV, [1, 0], false, [⟨0, 0, 0, 0, 0⟩], ⟨1, 5, 0⟩, false, 2⟩ = 8 := by decide
theorem bad7 : checkQ ⟨2, goodV, [1, 0], false, zeros61, ⟨1, 5, 0⟩, false, 2⟩ = 4 := by
  have hc : condV zeros61 = 4 := by unfold condV; rw [zeros_len, zeros_check]; rfl
  unfold checkQ
  rw [if_neg (by decide), if_neg (by decide), if_pos (by show condV zeros61 ≠ 0; rw [hc]; decide)]
  exact hc
theorem bad8 : checkQ ⟨2, goodV, [], false, goodV, ⟨1, 5, 0⟩, false, 2⟩ = 8 := by decide
theorem bad9 : checkQ ⟨2, goodV, [1, 1], false, goodV, ⟨1, 5, 0⟩, false, 2⟩ = 43 := by decide
theorem bad10 : checkQ ⟨2, goodV, [1, 0], false, goodV, ⟨1, 0, 0⟩, false, 2⟩ = 8 := by decide
theorem bad11 : checkQ ⟨2, goodV, [1, 0], true, goodV, ⟨3, 5, 0⟩, false, 2⟩ = 8 := by decide
theorem bad12 : checkQ ⟨2, goodV, [0], true, goodV, ⟨1, 5, 0⟩, false, 2⟩ = 8 := by decide
theorem good_check : checkQ goodQ = 0 := by decide
/-- A query in a block, of slices that read as its lists, not too long. -/
def HQ (w : World) (m : Nat) (s : Sl) (q : Qy) (W : World) : Prop := Below w.heap.size w W ∧ QyAt W m s q ∧ ReadsQ W s q ∧ q.arg.length ≤ 100 ∧ q.cond.length ≤ 100 ∧ q.src.length ≤ 100
theorem HQ.below {w W W' : World} {m : Nat} {s : Sl} {q : Qy} (h : HQ w m s q W) (hb : Below W.heap.size W W') : HQ w m s q W' := ⟨below_then h.1 hb, h.2.1.below hb, h.2.2.1.below hb, h.2.2.2⟩
/-- Its cells, spelled out. -/
def SQc (w : World) (m : Nat) (s : Sl) (q : Qy) (W : World) : Prop :=
  W.cell? ⟨m, 0, none⟩ = some (.int .u8 q.agg) ∧ W.cell? ⟨m, 1, none⟩ = some s.arg ∧ W.cell? ⟨m, 2, none⟩ = some s.src ∧ W.cell? ⟨m, 3, none⟩ = some (.bool q.join) ∧ W.cell? ⟨m, 4, none⟩ = some s.cond ∧
    W.cell? ⟨m, 5, none⟩ = some (.int .u8 q.win.kind) ∧ W.cell? ⟨m, 6, none⟩ = some (.int .i64 q.win.size) ∧ W.cell? ⟨m, 7, none⟩ = some (.int .i64 q.win.every) ∧ W.cell? ⟨m, 8, none⟩ = some (.bool q.key) ∧ W.cell? ⟨m, 9, none⟩ = some (.int .u8 q.late) ∧ HQ w m s q W
theorem HQ.cells {w W : World} {m : Nat} {s : Sl} {q : Qy} (h : HQ w m s q W) : SQc w m s q W := by
  obtain ⟨c0, c1, c2, c3, c4, c5, c6, c7, c8, c9⟩ := h.2.1.cells
  exact ⟨c0, c1, c2, c3, c4, c5, c6, c7, c8, c9, h⟩
theorem one_zero (w : World) (b : Nat) (hb : b = w.heap.size) : ReadsN (w.alloc (.cells #[.int .u8 0, .int .i64 0, .int .i64 0, .int .i64 0, .int .i64 0] 35)) (.slice (some ⟨b, 0, none⟩) 1 1) [⟨0, 0, 0, 0, 0⟩] := by
  subst hb
  refine .inr ⟨w.heap.size, 0, 0, rfl, by simp, fun i x hx => ?_⟩
  have e : (w.alloc (.cells #[.int .u8 0, .int .i64 0, .int .i64 0, .int .i64 0, .int .i64 0] 35)).heap[w.heap.size]? = some (.cells #[.int .u8 0, .int .i64 0, .int .i64 0, .int .i64 0, .int .i64 0] 35) := heap_alloc_new _ _
  match i, hx with
  | 0, hx =>
    simp at hx
    subst hx
    unfold NdAt World.cell?
    simp only [e]
    exact ⟨rfl, rfl, rfl, rfl, rfl⟩
  | i + 1, hx => simp at hx
theorem hq_box {w w1 : World} (h : Below w.heap.size w w1) {s : Sl} {q : Qy} (hr : ReadsQ w1 s q) (hb : q.arg.length ≤ 100 ∧ q.cond.length ≤ 100 ∧ q.src.length ≤ 100) : HQ w w1.heap.size s q (w1.alloc (qyBox s q)) :=
  ⟨h.alloc h.size _, qy_at w1 s q, hr.below (box_below _ _), hb⟩
theorem two_below (w1 : World) (o o2 : Obj) : Below w1.heap.size w1 ((w1.alloc o).alloc o2) := (box_below w1 o).alloc (by simp) o2
theorem hq_box2 {w w1 : World} (h : Below w.heap.size w w1) {s : Sl} {q : Qy} {o : Obj} (hr : ReadsQ ((w1.alloc (qyBox s q)).alloc o) s q) (hb : q.arg.length ≤ 100 ∧ q.cond.length ≤ 100 ∧ q.src.length ≤ 100) : HQ w w1.heap.size s q ((w1.alloc (qyBox s q)).alloc o) :=
  ⟨below_then h (two_below _ _ _), (qy_at w1 s q).below (box_below _ _), hr, hb⟩
theorem lit_reads2 (w : World) (b : Nat) (hb : b = w.heap.size) (l : List Int) : ReadsI (w.alloc (intBox l)) (.slice (some ⟨b, 0, none⟩) l.length l.length) l := by
  subst hb; exact lit_reads w l
/-- make([]api.Node, 61) behind a query's block, stored to its condition. -/
theorem make_state {w w1 : World} (h : Below w.heap.size w w1) {s : Sl} {q : Qy} (hR : ReadsQ w1 s q) (hb : q.arg.length ≤ 100 ∧ q.src.length ≤ 100) : ∃ wM, (Instr.makeSlice 30 (.int .i64 61) (.int .i64 61)).run Tryd.prog (w1.alloc (qyBox s q)) = .ok (.slice (some ⟨w1.heap.size + 1, 0, none⟩) 61 61) wM ∧ QyAt wM w1.heap.size s q ∧
    HQ w w1.heap.size ⟨s.arg, s.src, .slice (some ⟨w1.heap.size + 1, 0, none⟩) 61 61⟩ ⟨q.agg, q.arg, q.src, q.join, zeros61, q.win, q.key, q.late⟩ (wM.setCell ⟨w1.heap.size, 4, none⟩ (.slice (some ⟨w1.heap.size + 1, 0, none⟩) 61 61)) := by
  obtain ⟨wM, hmk, hown, hbm⟩ := make_nds (w1.alloc (qyBox s q)) 61 (by decide)
  have e : (w1.alloc (qyBox s q)).heap.size = w1.heap.size + 1 := by simp
  rw [e] at hmk hown hbm
  have hq : QyAt wM w1.heap.size s q := (qy_at w1 s q).below (by rw [e]; exact hbm)
  refine ⟨wM, hmk, hq, ?_, hq.set_cond _, ⟨?_, ?_, ?_⟩, hb.1, by rw [zeros_len]; decide, hb.2⟩
  · have := below_then (h.alloc h.size (qyBox s q)) (by rw [e]; exact hbm)
    exact this.setCell h.size _
  · have hw : Below w1.heap.size w1 (wM.setCell ⟨w1.heap.size, 4, none⟩ (.slice (some ⟨w1.heap.size + 1, 0, none⟩) 61 61)) := (below_then (box_below w1 (qyBox s q)) (by rw [e]; exact hbm)).setCell (Nat.le_refl _) _
    exact hR.arg.below hw
  · have hw : Below w1.heap.size w1 (wM.setCell ⟨w1.heap.size, 4, none⟩ (.slice (some ⟨w1.heap.size + 1, 0, none⟩) 61 61)) := (below_then (box_below w1 (qyBox s q)) (by rw [e]; exact hbm)).setCell (Nat.le_refl _) _
    exact hR.src.below hw
  · refine own_readsN (base := w1.heap.size + 1) (l := zeros61) ?_
    rw [zeros_len]
    refine (show wM.ownsRow (w1.heap.size + 1) 35 5 (.slice (some ⟨w1.heap.size + 1, 0, none⟩) 61 61) 61 (rowN zeros61) from hown).kept (set_grown wM w1.heap.size 4 _) (.inr ?_)
    intro h2
    injection h2 with h3
    simp at h3
theorem good_form (w : World) : Calls Tryd.prog 13 #[] w fun e w' => ∃ x0 m0 x1 m1 x2 m2, e = .returned (.agg #[.int .u8 2, .slice x0 1 m0, .slice x1 2 m1, .bool false, .slice x2 1 m2, .int .u8 1, .int .i64 5, .int .i64 0, .bool false, .int .u8 2]) ∧ ReadsQ w' ⟨.slice x0 1 m0, .slice x1 2 m1, .slice x2 1 m2⟩ goodQ ∧ Below w.heap.size w w' := by
  refine (good_any w).mono ?_
  rintro e w' ⟨⟨t0, t1, t2⟩, rfl, hR, hb⟩
  have h0 : ReadsN w' t0 goodV := hR.arg
  have h1 : ReadsI w' t1 [1, 0] := hR.src
  have h2 : ReadsN w' t2 goodV := hR.cond
  obtain ⟨x0, m0, rfl⟩ := h0.shape
  obtain ⟨x1, m1, rfl⟩ := h1.shape
  obtain ⟨x2, m2, rfl⟩ := h2.shape
  exact ⟨x0, m0, x1, m1, x2, m2, rfl, hR, hb⟩
theorem good_at_state {w0 : World} {mm : Nat} (s : Sl) (q : Qy) (W : World) (h : SQc w0 mm s q W) :
    Calls Tryd.prog 13 #[] W fun e w' => ∃ x0 m0 x1 m1 x2 m2, e = .returned (.agg #[.int .u8 2, .slice x0 1 m0, .slice x1 2 m1, .bool false, .slice x2 1 m2, .int .u8 1, .int .i64 5, .int .i64 0, .bool false, .int .u8 2]) ∧ ReadsQ w' ⟨.slice x0 1 m0, .slice x1 2 m1, .slice x2 1 m2⟩ goodQ ∧ SQc w0 mm s q w' := by
  refine (good_form W).mono ?_
  rintro e w' ⟨x0, m0, x1, m1, x2, m2, he, hr, hb⟩
  exact ⟨x0, m0, x1, m1, x2, m2, he, hr, (h.2.2.2.2.2.2.2.2.2.2.below hb).cells⟩
/-- What the calls of the loop's round return. -/
theorem same_bad {w0 : World} {mm : Nat} (s t : Sl) (q : Qy) (W : World) (hf : NameFix w0) (h : SQc w0 mm s q W) (hr : ReadsQ W t goodQ) {wa : Int} (hc : checkQ q = wa) (hz : wa ≠ 0) :
    Calls Tryd.prog 14 #[qyVal s q, qyVal t goodQ] W fun e w' => e = .returned (.tuple #[.bool false, .int .i64 wa]) ∧ SQc w0 mm s q w' := by
  have hq := h.2.2.2.2.2.2.2.2.2.2
  have hl := hq.2.2.2
  have := clSame_any s t q goodQ W (hf.below hq.1) hq.2.2.1 hr (by omega) (by omega) (by omega) (by decide) (by decide) (by decide)
  rw [sameQ_err (by rw [hc]; exact hz), hc] at this
  exact this.mono (fun _ _ h' => ⟨h'.1, (hq.below h'.2).cells⟩)
theorem same_bad2 {w0 : World} {mm : Nat} (s t : Sl) (q : Qy) (W : World) (hf : NameFix w0) (h : SQc w0 mm s q W) (hr : ReadsQ W t goodQ) {wa : Int} (hc : checkQ q = wa) (hz : wa ≠ 0) :
    Calls Tryd.prog 14 #[qyVal t goodQ, qyVal s q] W fun e w' => e = .returned (.tuple #[.bool false, .int .i64 wa]) ∧ SQc w0 mm s q w' := by
  have hq := h.2.2.2.2.2.2.2.2.2.2
  have hl := hq.2.2.2
  have := clSame_any t s goodQ q W (hf.below hq.1) hr hq.2.2.1 (by decide) (by decide) (by decide) (by omega) (by omega) (by omega)
  rw [sameQ_err2 good_check (by rw [hc]; exact hz), hc] at this
  exact this.mono (fun _ _ h' => ⟨h'.1, (hq.below h'.2).cells⟩)
theorem check_bad {w0 : World} {mm : Nat} (s : Sl) (q : Qy) (W : World) (hf : NameFix w0) (h : SQc w0 mm s q W) {wa : Int} (hc : checkQ q = wa) :
    Calls Tryd.prog 15 #[qyVal s q] W fun e w' => e = .returned (.int .i64 wa) ∧ Below W.heap.size W w' := by
  have hq := h.2.2.2.2.2.2.2.2.2.2
  have hl := hq.2.2.2
  have := clCheck_any s q W (hf.below hq.1) hq.2.2.1 (by omega) (by omega) (by omega)
  rwa [hc] at this
set_option maxRecDepth 100000 in
set_option maxHeartbeats 4000000 in
theorem cnames_walk (w : World) (hf : NameFix w) : Calls Tryd.prog 3 #[] w fun e w' => e = .returned (.bool true) ∧ Below w.heap.size w w' := by
  have AL := Lib.hid (fun (W : World) (h : Below w.heap.size w W) => alive8_any W (hf.below h))
  have GD := Lib.hid (fun (W : World) => good_form W)
  have WN := Lib.hid (fun (x : Wn) (W : World) => clWindow_any x W)
  have SD := Lib.hid (fun (a b : Int) (W : World) => slide_any a b W)
  have LS := Lib.hid (fun (l : List Int) (j : Bool) (W : World) (h : Below w.heap.size w W) (hn : l.length ≤ 9) => lit_sources l j W (hf.below h) (by omega))
  have HW : Hid ((w.alloc winsBox).heap[w.heap.size]? = some winsBox) := Lib.hid (wins_start w)
  unfold winVal at WN
  go_enter Tryd.func3, Tryd.ntmps3
  go_wp2_with fail
  go_loopg [2] 12 (fun g i wx => ∃ k : Nat, k + g = 12 ∧ i = .int .i64 k ∧ Hid (Below w.heap.size w wx) ∧ Hid (wx.heap[w.heap.size]? = some winsBox))
  case atStart => exact ⟨0, by omega, rfl, Lib.hid (box_below _ _), HW⟩
  case round =>
    obtain ⟨k, hk, rfl, HB, HWX⟩ := hrel
    cases gk with
    | zero =>
      obtain rfl : k = 12 := by omega
      clear hk
      have C0 := Lib.hid (WN.out ⟨3, 1073741824, 0⟩ wr)
      rw [show windowV ⟨3, 1073741824, 0⟩ = 0 by decide] at C0
      have SD2 := Lib.hid (fun W => SD.out 1073741824 1073741824 W)
      rw [show windowV ⟨2, 1073741824, 1073741824⟩ = 0 by decide] at SD2
      have SD3 := Lib.hid (fun W => SD.out 16 1 W)
      rw [show windowV ⟨2, 16, 1⟩ = 0 by decide] at SD3
      have SD4 := Lib.hid (fun W => SD.out 1073741824 67108864 W)
      rw [show windowV ⟨2, 1073741824, 67108864⟩ = 0 by decide] at SD4
      have SD5 := Lib.hid (fun W => SD.out 1073741824 67108863 W)
      rw [show windowV ⟨2, 1073741824, 67108863⟩ = 8 by decide] at SD5
      have LS6 := Lib.hid (fun W h => LS.out [0, 1, 2, 3] false W h (by decide))
      rw [show sourcesV [0, 1, 2, 3] false = 0 by decide] at LS6
      have LS7 := Lib.hid (fun W h => LS.out [0, 1, 2, 3, 9] true W h (by decide))
      rw [show sourcesV [0, 1, 2, 3, 9] true = 4 by decide] at LS7
      have LS8 := Lib.hid (fun (W : World) (h : Below w.heap.size w W) => clSources_any (.slice none 0 0) [] false W (hf.below h) (.inl ⟨rfl, _, _, rfl⟩) (by decide))
      rw [show sourcesV [] false = 8 by decide] at LS8
      have LS9 := Lib.hid (fun W h => LS.out [0, 0, 4] false W h (by decide))
      rw [show sourcesV [0, 0, 4] false = 8 by decide] at LS9
      have LS10 := Lib.hid (fun W h => LS.out [-1] false W h (by decide))
      rw [show sourcesV [-1] false = 8 by decide] at LS10
      have LS11 := Lib.hid (fun W h => LS.out [3, 3] true W h (by decide))
      rw [show sourcesV [3, 3] true = 43 by decide] at LS11
      have LS12 := Lib.hid (fun W h => LS.out [0, 1, 2] true W h (by decide))
      rw [show sourcesV [0, 1, 2] true = 8 by decide] at LS12
      have LS13 := Lib.hid (fun W h => LS.out [0, 1, 0] false W h (by decide))
      rw [show sourcesV [0, 1, 0] false = 43 by decide] at LS13
      clear HWX
      go_wp2_with fail
      refine (C0.out).mono ?_
      rintro e w1 ⟨rfl, hb⟩
      have B1 := Lib.hid (below_then HB.out hb)
      clear hb
      go_wp2_with fail
      refine (SD2.out _).mono ?_
      rintro e w2 ⟨rfl, hb⟩
      have B2 := Lib.hid (below_then B1.out hb)
      clear hb
      go_wp2_with fail
      refine (SD3.out _).mono ?_
      rintro e w3 ⟨rfl, hb⟩
      have B3 := Lib.hid (below_then B2.out hb)
      clear hb
      go_wp2_with fail
      refine (SD4.out _).mono ?_
      rintro e w4 ⟨rfl, hb⟩
      have B4 := Lib.hid (below_then B3.out hb)
      clear hb
      go_wp2_with fail
      refine (SD5.out _).mono ?_
      rintro e w5 ⟨rfl, hb⟩
      have B5 := Lib.hid (below_then B4.out hb)
      clear hb
      go_wp2_with fail
      refine (LS6.out w5 B5.out).mono ?_
      rintro e w6 ⟨rfl, hb⟩
      have B6 := Lib.hid (below_then B5.out hb)
      clear hb
      go_wp2_with fail
      refine (LS7.out w6 B6.out).mono ?_
      rintro e w7 ⟨rfl, hb⟩
      have B7 := Lib.hid (below_then B6.out hb)
      clear hb
      go_wp2_with fail
      refine (LS8.out w7 B7.out).mono ?_
      rintro e w8 ⟨rfl, hb⟩
      have B8 := Lib.hid (below_then B7.out hb)
      clear hb
      go_wp2_with fail
      refine (LS9.out w8 B8.out).mono ?_
      rintro e w9 ⟨rfl, hb⟩
      have B9 := Lib.hid (below_then B8.out hb)
      clear hb
      go_wp2_with fail
      refine (LS10.out w9 B9.out).mono ?_
      rintro e w10 ⟨rfl, hb⟩
      have B10 := Lib.hid (below_then B9.out hb)
      clear hb
      go_wp2_with fail
      refine (LS11.out w10 B10.out).mono ?_
      rintro e w11 ⟨rfl, hb⟩
      have B11 := Lib.hid (below_then B10.out hb)
      clear hb
      go_wp2_with fail
      refine (LS12.out w11 B11.out).mono ?_
      rintro e w12 ⟨rfl, hb⟩
      have B12 := Lib.hid (below_then B11.out hb)
      clear hb
      go_wp2_with fail
      refine (LS13.out w12 B12.out).mono ?_
      rintro e w13 ⟨rfl, hb⟩
      have B13 := Lib.hid (below_then B12.out hb)
      clear hb
      clear SD2 SD3 SD4 SD5 LS6 LS7 LS8 LS9 LS10 LS11 LS12 LS13 C0
      go_wp2_with fail
      go_loopg [5] 13 (fun g i wx => ∃ k : Nat, k + g = 13 ∧ i = .int .i64 k ∧ Hid (Below w.heap.size w wx))
      case atStart => exact ⟨0, by omega, rfl, B13⟩
      case round =>
        obtain ⟨k, hk, rfl, BX⟩ := hrel
        cases gk with
        | zero =>
          obtain rfl : k = 13 := by omega
          clear hk
          have N1 := Lib.hid (fun (W : World) (h : Below w.heap.size w W) => clName_any 3 W (hf.below h))
          rw [show nameV 3 = (⟨#[100]⟩, 0) from rfl] at N1
          have N2 := Lib.hid (fun (W : World) (h : Below w.heap.size w W) => clName_any 4 W (hf.below h))
          rw [show nameV 4 = (⟨#[]⟩, 2) from rfl] at N2
          have N3 := Lib.hid (fun (W : World) (h : Below w.heap.size w W) => clName_any (-1) W (hf.below h))
          rw [show nameV (-1) = (⟨#[]⟩, 2) from rfl] at N3
          have M1 := Lib.hid (fun (W : World) (h : Below w.heap.size w W) => clSource_any ⟨#[99]⟩ W (hf.below h))
          rw [show sourceV ⟨#[99]⟩ = (2, 0) from by decide] at M1
          have M2 := Lib.hid (fun (W : World) (h : Below w.heap.size w W) => clSource_any ⟨#[]⟩ W (hf.below h))
          rw [show sourceV ⟨#[]⟩ = (0, 2) from by decide] at M2
          have M3 := Lib.hid (fun (W : World) (h : Below w.heap.size w W) => clSource_any ⟨#[97, 98]⟩ W (hf.below h))
          rw [show sourceV ⟨#[97, 98]⟩ = (0, 2) from by decide] at M3
          have KC := Lib.hid (fun (s : Sl) (W : World) (h : Below w.heap.size w W) (r : ReadsQ W s ⟨1, [], [1, 0], false, [], ⟨1, 5, 0⟩, false, 2⟩) => clCheck_any s ⟨1, [], [1, 0], false, [], ⟨1, 5, 0⟩, false, 2⟩ W (hf.below h) r (by decide) (by decide) (by decide))
          have KJ := Lib.hid (fun (s : Sl) (W : World) (h : Below w.heap.size w W) (r : ReadsQ W s ⟨2, goodV, [1, 0], true, goodV, ⟨1, 5, 0⟩, false, 2⟩) => clCheck_any s ⟨2, goodV, [1, 0], true, goodV, ⟨1, 5, 0⟩, false, 2⟩ W (hf.below h) r (by decide) (by decide) (by decide))
          have KG := Lib.hid (fun (s : Sl) (W : World) (h : Below w.heap.size w W) (r : ReadsQ W s goodQ) => clCheck_any s goodQ W (hf.below h) r (by decide) (by decide) (by decide))
          rw [show checkQ ⟨1, [], [1, 0], false, [], ⟨1, 5, 0⟩, false, 2⟩ = 0 by decide] at KC
          rw [show checkQ ⟨2, goodV, [1, 0], true, goodV, ⟨1, 5, 0⟩, false, 2⟩ = 0 by decide] at KJ
          rw [good_check] at KG
          unfold qyVal qyRow at KC KJ KG
          unfold goodQ at KG
          dsimp only at KC KJ KG
          go_wp2_with fail
          refine (GD.out _).mono ?_
          rintro e w1 ⟨x0, m0, x1, m1, x2, m2, rfl, hr, hb⟩
          have A1 := Lib.hid ((SL.nil_of (below_then BX.out hb)).box w1.heap.size rfl ⟨.slice none 0 0, .slice x1 2 m1, .slice none 0 0⟩ ⟨1, [], [1, 0], false, [], ⟨1, 5, 0⟩, false, 2⟩)
          have RC1 : Hid (ReadsQ w1 ⟨.slice none 0 0, .slice x1 2 m1, .slice none 0 0⟩ ⟨1, [], [1, 0], false, [], ⟨1, 5, 0⟩, false, 2⟩) := Lib.hid ⟨ReadsN.nil _ _ _, hr.src, ReadsN.nil _ _ _⟩
          unfold qyBox at A1
          dsimp only at A1
          clear hb hr
          go_wp2_with fail
          refine (GD.out _).mono ?_
          rintro e w2 ⟨y0, n0, y1, n1, y2, n2, rfl, hr, hb⟩
          have A2 := Lib.hid (A1.out.below hb)
          have RC2 := Lib.hid ((RC1.out.below (box_below _ _)).below hb)
          have A3 := Lib.hid (A2.out.box w2.heap.size rfl ⟨.slice y0 1 n0, .slice y1 2 n1, .slice y2 1 n2⟩ ⟨2, goodV, [1, 0], true, goodV, ⟨1, 5, 0⟩, false, 2⟩)
          have RJ2 : Hid (ReadsQ w2 ⟨.slice y0 1 n0, .slice y1 2 n1, .slice y2 1 n2⟩ ⟨2, goodV, [1, 0], true, goodV, ⟨1, 5, 0⟩, false, 2⟩) := Lib.hid ⟨hr.arg, hr.src, hr.cond⟩
          obtain ⟨c0, c1, c2, c3, c4, c5, c6, c7, c8, c9⟩ := A2.out.at0.past
          dsimp only at c0 c1 c2 c3 c4 c5 c6 c7 c8 c9
          have RC3 := Lib.hid (RC2.out.below (box_below w2 (qyBox ⟨.slice y0 1 n0, .slice y1 2 n1, .slice y2 1 n2⟩ ⟨2, goodV, [1, 0], true, goodV, ⟨1, 5, 0⟩, false, 2⟩)))
          have RJ3 := Lib.hid (RJ2.out.below (box_below w2 (qyBox ⟨.slice y0 1 n0, .slice y1 2 n1, .slice y2 1 n2⟩ ⟨2, goodV, [1, 0], true, goodV, ⟨1, 5, 0⟩, false, 2⟩)))
          unfold qyBox at A3 RC3 RJ3
          dsimp only at A3 RC3 RJ3
          clear hb hr
          go_wp2_with fail
          refine (N1.out _ A3.out.base).mono ?_
          rintro e w3 ⟨rfl, rfl⟩
          go_wp2_with fail
          refine (N2.out _ A3.out.base).mono ?_
          rintro e w3 ⟨rfl, rfl⟩
          go_wp2_with fail
          refine (N3.out _ A3.out.base).mono ?_
          rintro e w3 ⟨rfl, rfl⟩
          go_wp2_with fail
          refine (M1.out _ A3.out.base).mono ?_
          rintro e w3 ⟨rfl, rfl⟩
          go_wp2_with fail
          refine (M2.out _ A3.out.base).mono ?_
          rintro e w3 ⟨rfl, rfl⟩
          go_wp2_with fail
          refine (M3.out _ A3.out.base).mono ?_
          rintro e w3 ⟨rfl, rfl⟩
          go_wp2_with fail
          refine (KC.out _ _ A3.out.base RC3.out).mono ?_
          rintro e w4 ⟨rfl, hb⟩
          have A4 := Lib.hid (A3.out.below hb)
          have RJ4 := Lib.hid (RJ3.out.below hb)
          clear hb c0 c1 c2 c3 c4 c5 c6 c7 c8 c9
          obtain ⟨c0, c1, c2, c3, c4, c5, c6, c7, c8, c9⟩ := A4.out.at0.cells
          dsimp only at c0 c1 c2 c3 c4 c5 c6 c7 c8 c9
          go_wp2_with fail
          refine (KJ.out _ _ A4.out.base RJ4.out).mono ?_
          rintro e w5 ⟨rfl, hb⟩
          have A5 := Lib.hid (A4.out.below hb).base
          clear hb c0 c1 c2 c3 c4 c5 c6 c7 c8 c9
          go_wp2_with fail
          refine (GD.out _).mono ?_
          rintro e w6 ⟨z0, l0, z1, l1, z2, l2, rfl, hr, hb⟩
          have A6 := Lib.hid (below_then A5.out hb)
          have RG := Lib.hid hr
          clear hb hr
          go_wp2_with fail
          refine (KG.out _ _ A6.out RG.out).mono ?_
          rintro e w7 ⟨rfl, hb⟩
          have A7 := Lib.hid (below_then A6.out hb)
          clear hb
          go_wp2_with fail
          refine (AL.out _ A7.out).mono ?_
          rintro e w8 ⟨rfl, hb⟩
          have A8 := Lib.hid (below_then A7.out hb)
          clear hb
          go_wp2_with fail
          go_ret
          exact ⟨rfl, A8.out⟩
        | succ g =>
          have hk13 : (k : Int) < 13 := by omega
          have hkn : k < 13 := by omega
          go_wp2_with fail
          refine (GD.out _).mono ?_
          rintro e w1 ⟨x0, m0, x1, m1, x2, m2, rfl, hr, hb⟩
          have D1 := Lib.hid (below_then BX.out hb)
          have R1 := Lib.hid hr
          clear hb hr
          go_upto_block 4 with fail
          go_cut [7] from 107 to 184 (fun s7 wx => ∃ (s : Sl) (q : Qy) (wa : Int), s7 = .int .i64 wa ∧ Hid (HQ w w1.heap.size s q wx) ∧ Hid (checkQ q = wa) ∧ Hid (wa ≠ 0))
          case first =>
            rcases (show k = 0 ∨ k = 1 ∨ k = 2 ∨ k = 3 ∨ k = 4 ∨ k = 5 ∨ k = 6 ∨ k = 7 ∨ k = 8 ∨ k = 9 ∨ k = 10 ∨ k = 11 ∨ k = 12 by omega) with rfl | rfl | rfl | rfl | rfl | rfl | rfl | rfl | rfl | rfl | rfl | rfl | rfl
            · clear hk hk13 hkn
              go_wp2_with fail
              go_meet
              case rel => exact ⟨⟨.slice x0 1 m0, .slice x1 2 m1, .slice x2 1 m2⟩, ⟨0, goodV, [1, 0], false, goodV, ⟨1, 5, 0⟩, false, 2⟩, 8, rfl, Lib.hid (hq_box D1.out ⟨R1.out.arg, R1.out.src, R1.out.cond⟩ ⟨by decide, by decide, by decide⟩), Lib.hid bad0, Lib.hid (by decide)⟩
            · clear hk hk13 hkn
              go_wp2_with fail
              go_meet
              case rel => exact ⟨⟨.slice x0 1 m0, .slice x1 2 m1, .slice x2 1 m2⟩, ⟨5, goodV, [1, 0], false, goodV, ⟨1, 5, 0⟩, false, 2⟩, 8, rfl, Lib.hid (hq_box D1.out ⟨R1.out.arg, R1.out.src, R1.out.cond⟩ ⟨by decide, by decide, by decide⟩), Lib.hid bad1, Lib.hid (by decide)⟩
            · clear hk hk13 hkn
              go_wp2_with fail
              go_meet
              case rel => exact ⟨⟨.slice x0 1 m0, .slice x1 2 m1, .slice x2 1 m2⟩, ⟨2, goodV, [1, 0], false, goodV, ⟨1, 5, 0⟩, false, 0⟩, 8, rfl, Lib.hid (hq_box D1.out ⟨R1.out.arg, R1.out.src, R1.out.cond⟩ ⟨by decide, by decide, by decide⟩), Lib.hid bad2, Lib.hid (by decide)⟩
            · clear hk hk13 hkn
              go_wp2_with fail
              go_meet
              case rel => exact ⟨⟨.slice x0 1 m0, .slice x1 2 m1, .slice x2 1 m2⟩, ⟨2, goodV, [1, 0], false, goodV, ⟨1, 5, 0⟩, false, 3⟩, 8, rfl, Lib.hid (hq_box D1.out ⟨R1.out.arg, R1.out.src, R1.out.cond⟩ ⟨by decide, by decide, by decide⟩), Lib.hid bad3, Lib.hid (by decide)⟩
            · clear hk hk13 hkn
              go_wp2_with fail
              go_meet
              case rel => exact ⟨⟨.slice x0 1 m0, .slice x1 2 m1, .slice x2 1 m2⟩, ⟨1, goodV, [1, 0], false, goodV, ⟨1, 5, 0⟩, false, 2⟩, 8, rfl, Lib.hid (hq_box D1.out ⟨R1.out.arg, R1.out.src, R1.out.cond⟩ ⟨by decide, by decide, by decide⟩), Lib.hid bad4, Lib.hid (by decide)⟩
            · clear hk hk13 hkn
              go_wp2_with fail
              go_meet
              case rel => exact ⟨⟨.slice none 0 0, .slice x1 2 m1, .slice x2 1 m2⟩, ⟨2, [], [1, 0], false, goodV, ⟨1, 5, 0⟩, false, 2⟩, 8, rfl, Lib.hid (hq_box D1.out ⟨ReadsN.nil _ _ _, R1.out.src, R1.out.cond⟩ ⟨by decide, by decide, by decide⟩), Lib.hid bad5, Lib.hid (by decide)⟩
            · clear hk hk13 hkn
              go_wp2_with fail
              go_meet
              case rel => exact ⟨⟨.slice x0 1 m0, .slice x1 2 m1, .slice (some ⟨w1.heap.size + 1, 0, none⟩) 1 1⟩, ⟨2, goodV, [1, 0], false, [⟨0, 0, 0, 0, 0⟩], ⟨1, 5, 0⟩, false, 2⟩, 8, rfl, Lib.hid (hq_box2 D1.out ⟨R1.out.arg.below (two_below _ _ _), R1.out.src.below (two_below _ _ _), one_zero _ _ (by simp)⟩ ⟨by decide, by decide, by decide⟩), Lib.hid bad6, Lib.hid (by decide)⟩
            · clear hk hk13 hkn
              obtain ⟨wM, hmk, hqM, hqs⟩ := make_state D1.out R1.out ⟨by decide, by decide⟩
              have HQM := Lib.hid hqs
              obtain ⟨c0, c1, c2, c3, c4, c5, c6, c7, c8, c9⟩ := hqM.cells
              have f4 := hqM.frz 4
              unfold qyBox goodQ at hmk
              dsimp only at hmk c4
              clear hqs hqM c0 c1 c2 c3 c5 c6 c7 c8 c9
              go_wp2_with fail
              go_meet
              case rel => exact ⟨⟨.slice x0 1 m0, .slice x1 2 m1, .slice (some ⟨w1.heap.size + 1, 0, none⟩) 61 61⟩, ⟨2, goodV, [1, 0], false, zeros61, ⟨1, 5, 0⟩, false, 2⟩, 4, rfl, HQM, Lib.hid bad7, Lib.hid (by decide)⟩
            · clear hk hk13 hkn
              go_wp2_with fail
              go_meet
              case rel => exact ⟨⟨.slice x0 1 m0, .slice none 0 0, .slice x2 1 m2⟩, ⟨2, goodV, [], false, goodV, ⟨1, 5, 0⟩, false, 2⟩, 8, rfl, Lib.hid (hq_box D1.out ⟨R1.out.arg, ReadsI.nil _ _ _, R1.out.cond⟩ ⟨by decide, by decide, by decide⟩), Lib.hid bad8, Lib.hid (by decide)⟩
            · clear hk hk13 hkn
              go_wp2_with fail
              go_meet
              case rel => exact ⟨⟨.slice x0 1 m0, .slice (some ⟨w1.heap.size + 1, 0, none⟩) 2 2, .slice x2 1 m2⟩, ⟨2, goodV, [1, 1], false, goodV, ⟨1, 5, 0⟩, false, 2⟩, 43, rfl, Lib.hid (hq_box2 D1.out ⟨R1.out.arg.below (two_below _ _ _), lit_reads2 _ _ (by simp) [1, 1], R1.out.cond.below (two_below _ _ _)⟩ ⟨by decide, by decide, by decide⟩), Lib.hid bad9, Lib.hid (by decide)⟩
            · clear hk hk13 hkn
              go_wp2_with fail
              go_meet
              case rel => exact ⟨⟨.slice x0 1 m0, .slice x1 2 m1, .slice x2 1 m2⟩, ⟨2, goodV, [1, 0], false, goodV, ⟨1, 0, 0⟩, false, 2⟩, 8, rfl, Lib.hid (hq_box D1.out ⟨R1.out.arg, R1.out.src, R1.out.cond⟩ ⟨by decide, by decide, by decide⟩), Lib.hid bad10, Lib.hid (by decide)⟩
            · clear hk hk13 hkn
              go_wp2_with fail
              go_meet
              case rel => exact ⟨⟨.slice x0 1 m0, .slice x1 2 m1, .slice x2 1 m2⟩, ⟨2, goodV, [1, 0], true, goodV, ⟨3, 5, 0⟩, false, 2⟩, 8, rfl, Lib.hid (hq_box D1.out ⟨R1.out.arg, R1.out.src, R1.out.cond⟩ ⟨by decide, by decide, by decide⟩), Lib.hid bad11, Lib.hid (by decide)⟩
            · clear hk hk13 hkn
              go_wp2_with fail
              go_meet
              case rel => exact ⟨⟨.slice x0 1 m0, .slice (some ⟨w1.heap.size + 1, 0, none⟩) 1 1, .slice x2 1 m2⟩, ⟨2, goodV, [0], true, goodV, ⟨1, 5, 0⟩, false, 2⟩, 8, rfl, Lib.hid (hq_box2 D1.out ⟨R1.out.arg.below (two_below _ _ _), lit_reads2 _ _ (by simp) [0], R1.out.cond.below (two_below _ _ _)⟩ ⟨by decide, by decide, by decide⟩), Lib.hid bad12, Lib.hid (by decide)⟩
          case rest =>
            obtain ⟨⟨sa, ss, sc⟩, q, wa, rfl, HQ0, HC, HZ⟩ := hcut
            obtain ⟨mm, hmm⟩ : ∃ m, w1.heap.size = m := ⟨_, rfl⟩
            rw [hmm] at HQ0 ⊢
            have GQ := Lib.hid (fun (W : World) (h : SQc w mm ⟨sa, ss, sc⟩ q W) => good_at_state ⟨sa, ss, sc⟩ q W h)
            have SM1 := Lib.hid (fun x0 m0 x1 m1 x2 m2 (W : World) (h : SQc w mm ⟨sa, ss, sc⟩ q W) (hr : ReadsQ W ⟨.slice x0 1 m0, .slice x1 2 m1, .slice x2 1 m2⟩ goodQ) => same_bad ⟨sa, ss, sc⟩ ⟨.slice x0 1 m0, .slice x1 2 m1, .slice x2 1 m2⟩ q W hf h hr HC.out HZ.out)
            have SM2 := Lib.hid (fun x0 m0 x1 m1 x2 m2 (W : World) (h : SQc w mm ⟨sa, ss, sc⟩ q W) (hr : ReadsQ W ⟨.slice x0 1 m0, .slice x1 2 m1, .slice x2 1 m2⟩ goodQ) => same_bad2 ⟨sa, ss, sc⟩ ⟨.slice x0 1 m0, .slice x1 2 m1, .slice x2 1 m2⟩ q W hf h hr HC.out HZ.out)
            have CQ := Lib.hid (fun (W : World) (h : SQc w mm ⟨sa, ss, sc⟩ q W) => check_bad ⟨sa, ss, sc⟩ q W hf h HC.out)
            have HXD : ∀ W, HQ w mm ⟨sa, ss, sc⟩ q W → HQ w mm ⟨sa, ss, sc⟩ q W.drew := fun W h => h.below (Below.drew (Below.refl _ _))
            have CS := HQ0.out.cells
            unfold qyVal qyRow goodQ at SM1 SM2
            unfold qyVal qyRow at CQ
            unfold SQc at CS GQ SM1 SM2 CQ
            dsimp only at CS GQ SM1 SM2 CQ
            obtain ⟨g0, g1, g2, g3, g4, g5, g6, g7, g8, g9, g10⟩ := CS
            clear hmm hk13 hkn
            go_wp2_with fail
            go_region_held3 (fun W => W.cell? ⟨mm, 0, none⟩ = some (.int .u8 q.agg) ∧ W.cell? ⟨mm, 1, none⟩ = some sa ∧ W.cell? ⟨mm, 2, none⟩ = some ss ∧ W.cell? ⟨mm, 3, none⟩ = some (.bool q.join) ∧ W.cell? ⟨mm, 4, none⟩ = some sc ∧ W.cell? ⟨mm, 5, none⟩ = some (.int .u8 q.win.kind) ∧ W.cell? ⟨mm, 6, none⟩ = some (.int .i64 q.win.size) ∧ W.cell? ⟨mm, 7, none⟩ = some (.int .i64 q.win.every) ∧ W.cell? ⟨mm, 8, none⟩ = some (.bool q.key) ∧ W.cell? ⟨mm, 9, none⟩ = some (.int .u8 q.late) ∧ HQ w mm ⟨sa, ss, sc⟩ q W) (go_keep) (first
              | (go_at_call 13; refine (GQ.out _ ⟨?_, ?_, ?_, ?_, ?_, ?_, ?_, ?_, ?_, ?_, ?_⟩).mono ?_; (simp [*]); (simp [*]); (simp [*]); (simp [*]); (simp [*]); (simp [*]); (simp [*]); (simp [*]); (simp [*]); (simp [*]); (simp [*]); rintro e w2 ⟨y0, n0, y1, n1, y2, n2, rfl, hrd, g0, g1, g2, g3, g4, g5, g6, g7, g8, g9, g10⟩)
              | (go_at_call 14; refine (SM1.out _ _ _ _ _ _ _ ⟨?_, ?_, ?_, ?_, ?_, ?_, ?_, ?_, ?_, ?_, ?_⟩ ?_).mono ?_; (simp [*]); (simp [*]); (simp [*]); (simp [*]); (simp [*]); (simp [*]); (simp [*]); (simp [*]); (simp [*]); (simp [*]); (simp [*]); assumption; rintro e w3 ⟨rfl, g0, g1, g2, g3, g4, g5, g6, g7, g8, g9, g10⟩))
            go_wp2_with fail
            go_region_held3 (fun W => W.cell? ⟨mm, 0, none⟩ = some (.int .u8 q.agg) ∧ W.cell? ⟨mm, 1, none⟩ = some sa ∧ W.cell? ⟨mm, 2, none⟩ = some ss ∧ W.cell? ⟨mm, 3, none⟩ = some (.bool q.join) ∧ W.cell? ⟨mm, 4, none⟩ = some sc ∧ W.cell? ⟨mm, 5, none⟩ = some (.int .u8 q.win.kind) ∧ W.cell? ⟨mm, 6, none⟩ = some (.int .i64 q.win.size) ∧ W.cell? ⟨mm, 7, none⟩ = some (.int .i64 q.win.every) ∧ W.cell? ⟨mm, 8, none⟩ = some (.bool q.key) ∧ W.cell? ⟨mm, 9, none⟩ = some (.int .u8 q.late) ∧ HQ w mm ⟨sa, ss, sc⟩ q W) (go_keep) (first
              | (go_at_call 13; refine (GQ.out _ ⟨?_, ?_, ?_, ?_, ?_, ?_, ?_, ?_, ?_, ?_, ?_⟩).mono ?_; (simp [*]); (simp [*]); (simp [*]); (simp [*]); (simp [*]); (simp [*]); (simp [*]); (simp [*]); (simp [*]); (simp [*]); (simp [*]); rintro e w2 ⟨y0, n0, y1, n1, y2, n2, rfl, hrd, g0, g1, g2, g3, g4, g5, g6, g7, g8, g9, g10⟩)
              | (go_at_call 14; refine (SM2.out _ _ _ _ _ _ _ ⟨?_, ?_, ?_, ?_, ?_, ?_, ?_, ?_, ?_, ?_, ?_⟩ ?_).mono ?_; (simp [*]); (simp [*]); (simp [*]); (simp [*]); (simp [*]); (simp [*]); (simp [*]); (simp [*]); (simp [*]); (simp [*]); (simp [*]); assumption; rintro e w3 ⟨rfl, g0, g1, g2, g3, g4, g5, g6, g7, g8, g9, g10⟩))
            go_wp2_with fail
            refine (CQ.out _ ⟨by assumption, by assumption, by assumption, by assumption, by assumption, by assumption, by assumption, by assumption, by assumption, by assumption, by assumption⟩).mono ?_
            rintro e w9 ⟨rfl, hb⟩
            have HBQ := Lib.hid (below_then (‹HQ w mm _ _ _›).1 hb)
            clear hb
            go_wp2_with fail
            go_roundg g
            case measure => omega
            case rel => exact ⟨k + 1, by omega, by go_num, HBQ⟩
    | succ g =>
      have hk12 : (k : Int) < 12 := by omega
      have hkn : k < 12 := by omega
      obtain ⟨x, hx, c0, c1, c2⟩ := wins_at HWX.out k hkn
      have C := Lib.hid (WN.out x wr)
      rw [hx] at C
      clear hx
      go_wp2_with fail
      refine C.out.mono ?_
      rintro e w2 ⟨rfl, hb⟩
      have HB2 := Lib.hid (below_then HB.out hb)
      have HW2 := Lib.hid ((hb.block _ (Array.getElem?_eq_some_iff.1 HWX.out).1).trans HWX.out)
      clear hb
      go_wp2_with fail
      go_roundg g
      case measure => omega
      case rel => exact ⟨k + 1, by omega, by go_num, HB2, HW2⟩
end Go.Proofs.YtfmobnlnedljeaaDoor.Nodes

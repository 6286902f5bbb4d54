/-
  Walk of the statement ClausesParts: Window, Sources, Name and Source return what the reference does.
-/
import Derived.Test.YtfmobnlnedljeaaDoorQyState
import Derived.Test.YtfmobnlnedljeaaDoorRefClause
import Derived.Test.YtfmobnlnedljeaaDoorRefSources
import Derived.Deep.RegionHeld3
import Derived.Outline
namespace Go.Proofs.YtfmobnlnedljeaaDoor.Nodes
open Go.ChangeShapes Go.WideShapes Go.ChangeAt Go.RowKit

def HXp (w W : World) : Prop := Below w.heap.size w W ∧ w.heap.size < W.heap.size
theorem HXp.below {w W W' : World} (h : HXp w W) (hb : Below W.heap.size W W') : HXp w W' := ⟨below_then h.1 hb, Nat.lt_of_lt_of_le h.2 hb.size⟩
/-- The window's cells. -/
def SW (w : World) (x : Wn) (W : World) : Prop :=
  W.cell? ⟨w.heap.size, 0, none⟩ = some (.int .u8 x.kind) ∧ W.cell? ⟨w.heap.size, 1, none⟩ = some (.int .i64 x.size) ∧ W.cell? ⟨w.heap.size, 2, none⟩ = some (.int .i64 x.every) ∧ HXp w W
theorem SW.below {w W W' : World} {x : Wn} (h : SW w x W) (hb : Below W.heap.size W W') : SW w x W' := by
  obtain ⟨h0, h1, h2, h3⟩ := h
  exact ⟨(hb.cell (p := ⟨_, _, none⟩) h3.2).trans h0, (hb.cell (p := ⟨_, _, none⟩) h3.2).trans h1, (hb.cell (p := ⟨_, _, none⟩) h3.2).trans h2, h3.below hb⟩
theorem sw_start (w : World) (x : Wn) : SW w x (w.alloc (winBox x)) :=
  ⟨(win_at w x).cells.1, (win_at w x).cells.2.1, (win_at w x).cells.2.2, box_below _ _, by simp⟩
theorem to_sw {f : FuncId} {args : Array Value} {w W : World} {x : Wn} {v : Value} (hs : SW w x W) (h : Calls Tryd.prog f args W fun e w' => e = .returned v ∧ Below W.heap.size W w') :
    Calls Tryd.prog f args W fun e w' => e = .returned v ∧ SW w x w' := h.mono (fun _ _ h' => ⟨h'.1, hs.below h'.2⟩)
set_option maxRecDepth 100000 in
set_option maxHeartbeats 4000000 in
theorem cparts_walk (x : Wn) (v : Value) (l : List Int) (join : Bool) (n : Int) (s : ByteArray) (w : World) (hf : NameFix w) (hR : ReadsI w v l) (hn : l.length ≤ 9223372036854775807) (_hs : s.size ≤ 9223372036854775807) :
    Calls Tryd.prog 4 #[winVal x, v, .bool join, .int .i64 n, .string s] w fun e w' => e = .returned (.bool true) ∧ Below w.heap.size w w' := by
  obtain ⟨ad, cap, rfl⟩ := hR.shape
  have N1 := Lib.hid (fun (W : World) (h : SW w x W) => to_sw h (by_same (clName_any n W (hf.below h.2.2.2.1))))
  have N2 := Lib.hid (fun (W : World) (h : SW w x W) => to_sw h (refName_any n W))
  have M1 := Lib.hid (fun (W : World) (h : SW w x W) => to_sw h (by_same (clSource_any s W (hf.below h.2.2.2.1))))
  have M2 := Lib.hid (fun (W : World) (h : SW w x W) => to_sw h (refSource_any s W))
  have W1 := Lib.hid (fun (W : World) (h : SW w x W) => to_sw h (clWindow_any x W))
  have W2 := Lib.hid (fun (W : World) (h : SW w x W) => to_sw h (refWindow_any x W))
  have L1 := Lib.hid (fun (W : World) (h : SW w x W) => to_sw h (clSources_any _ l join W (hf.below h.2.2.2.1) (hR.below h.2.2.2.1) hn))
  have L2 := Lib.hid (fun (W : World) (h : SW w x W) => to_sw h (by_draws (refSources_any _ l join W (hR.below h.2.2.2.1) hn)))
  have S0 := Lib.hid (sw_start w x)
  unfold winBox at S0
  unfold winVal at W1 W2 ⊢
  obtain ⟨a1, ha1⟩ : ∃ a, (nameV n).1 = a := ⟨_, rfl⟩
  obtain ⟨a2, ha2⟩ : ∃ a, (nameV n).2 = a := ⟨_, rfl⟩
  obtain ⟨b1, hb1⟩ : ∃ a, (sourceV s).1 = a := ⟨_, rfl⟩
  obtain ⟨b2, hb2⟩ : ∃ a, (sourceV s).2 = a := ⟨_, rfl⟩
  obtain ⟨c1, hc1⟩ : ∃ a, windowV x = a := ⟨_, rfl⟩
  obtain ⟨d1, hd1⟩ : ∃ a, sourcesV l join = a := ⟨_, rfl⟩
  rw [ha1, ha2] at N1 N2
  rw [hb1, hb2] at M1 M2
  rw [hc1] at W1 W2
  rw [hd1] at L1 L2
  clear hR hf ha1 ha2 hb1 hb2 hc1 hd1 hn
  obtain ⟨k, sz, ev⟩ := x
  dsimp only at S0 W1 W2 ⊢
  by_cases h10 : 10 < l.length
  · have q1 : (10 : Int) < l.length := by omega
    clear h10 N1 N2 M1 M2 W1 W2 L1 L2
    go_enter Tryd.func4, Tryd.ntmps4
    go_wp2_with fail
    go_ret
    exact ⟨rfl, S0.out.2.2.2.1⟩
  have q1 : ¬ (10 : Int) < l.length := by omega
  by_cases h20 : 20 < s.size
  · have q2 : decide ((20 : Int) < s.size) = true := decide_eq_true (by omega)
    have q3 : (20 : Int) < s.size := by omega
    clear h10 h20 N1 N2 M1 M2 W1 W2 L1 L2
    go_enter Tryd.func4, Tryd.ntmps4
    go_wp2_with fail
    go_ret
    exact ⟨rfl, S0.out.2.2.2.1⟩
  have q2 : decide ((20 : Int) < s.size) = false := decide_eq_false (by omega)
  have q3 : ¬ (20 : Int) < s.size := by omega
  clear h10 h20
  go_enter Tryd.func4, Tryd.ntmps4
  go_wp2_with fail
  refine (N1.out _ S0.out).mono ?_
  rintro e w1 ⟨rfl, hs⟩
  have S1 := Lib.hid hs
  clear hs
  go_wp2_with fail
  refine (N2.out _ S1.out).mono ?_
  rintro e w2 ⟨rfl, hs⟩
  have S2 := Lib.hid hs
  clear hs
  go_wp2_with fail
  refine (M1.out _ S2.out).mono ?_
  rintro e w3 ⟨rfl, hs⟩
  have S3 := Lib.hid hs
  clear hs
  go_wp2_with fail
  refine (M2.out _ S3.out).mono ?_
  rintro e w4 ⟨rfl, hs⟩
  unfold SW at hs W1 W2 L1 L2
  obtain ⟨g0, g1, g2, g3⟩ := hs
  dsimp only at W1 W2 L1 L2 g0 g1 g2
  have HXD : ∀ W, HXp w W → HXp w W.drew := fun W h => ⟨Below.drew h.1, h.2⟩
  go_wp2_with fail
  go_region_held3 (fun W => W.cell? ⟨w.heap.size, 0, none⟩ = some (.int .u8 k) ∧ W.cell? ⟨w.heap.size, 1, none⟩ = some (.int .i64 sz) ∧ W.cell? ⟨w.heap.size, 2, none⟩ = some (.int .i64 ev) ∧ HXp w W) (go_keep) (first
    | (go_at_call 10; refine (W1.out _ ⟨?_, ?_, ?_, ?_⟩).mono ?_; (simp [*]); (simp [*]); (simp [*]); (simp [*]); rintro e w5 ⟨rfl, g0, g1, g2, g3⟩)
    | (go_at_call 21; refine (W2.out _ ⟨?_, ?_, ?_, ?_⟩).mono ?_; (simp [*]); (simp [*]); (simp [*]); (simp [*]); rintro e w5 ⟨rfl, g0, g1, g2, g3⟩)
    | (go_at_call 12; refine (L1.out _ ⟨?_, ?_, ?_, ?_⟩).mono ?_; (simp [*]); (simp [*]); (simp [*]); (simp [*]); rintro e w5 ⟨rfl, g0, g1, g2, g3⟩)
    | (go_at_call 22; refine (L2.out _ ⟨?_, ?_, ?_, ?_⟩).mono ?_; (simp [*]); (simp [*]); (simp [*]); (simp [*]); rintro e w5 ⟨rfl, g0, g1, g2, g3⟩))
  go_wp2_with fail
  go_ret
  exact ⟨rfl, (‹HXp w _›).1⟩
end Go.Proofs.YtfmobnlnedljeaaDoor.Nodes

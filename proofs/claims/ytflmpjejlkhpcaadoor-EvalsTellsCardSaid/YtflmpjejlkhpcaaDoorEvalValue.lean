/-
  Contract of evals.value at the landed code (layer 7).
-/
import Derived.Test.YtflmpjejlkhpcaaDoorEvalMath
import Derived.Test.YtflmpjejlkhpcaaDoorNodeReads
import Derived.Test.YtflmpjejlkhpcaaDoorNodeRows
import Derived.Test.YtflmpjejlkhpcaaDoorNodeLand
import Derived.Test.YtflmpjejlkhpcaaDoorRefSizes
import Derived.Test.YtflmpjejlkhpcaaDoorIntsDo
import Derived.Deep.QuietTactic
import Derived.BigQuiet
import Derived.Outline
namespace Go.Proofs.YtflmpjejlkhpcaaDoor.Nodes
open Go.ChangeShapes Go.WideShapes Go.ChangeAt Go.RowKit

def recVal (r : Rec) : Value := .agg #[.int .i64 r.key, .int .i64 r.time, .int .i64 r.value]
def intL (vs : List Int) : List Value := vs.map (Value.int .i64)
theorem intL_len (vs : List Int) : (intL vs).length = vs.length := List.length_map ..
theorem intL_add (vs : List Int) (v : Int) : intL (vs ++ [v]) = intL vs ++ [.int .i64 v] := by unfold intL; rw [List.map_append]; rfl
/-- A number of a row of numbers, in a later world. -/
theorem int_cell {w wx : World} {base n : Nat} {v : Value} {vs : List Int} (h : w.ownsRow base 2 1 v n (intL vs)) (hb : Below w.heap.size w wx) (hn : vs.length = n) {i : Nat} (hi : i < n) : ∃ b cap, v = .slice (some ⟨b, 0, none⟩) n cap ∧ b < w.heap.size ∧ wx.cell? ⟨b, i, none⟩ = some (.int .i64 (nth vs i)) := by
  rcases h.2 with ⟨_, h0⟩ | ⟨b, cap, cur, rfl, _, hg, _⟩
  · omega
  · refine ⟨b, cap, rfl, (Array.getElem?_eq_some_iff.1 hg).1, ?_⟩
    have := h.cellAt i (by omega)
    unfold intL at this
    rw [List.getElem?_map, List.getElem?_eq_getElem (by omega)] at this
    unfold nth
    rw [Int.toNat_natCast, List.getElem?_eq_getElem (by omega)]
    exact (hb.cell (p := ⟨b, i, none⟩) (Array.getElem?_eq_some_iff.1 hg).1).trans this
theorem do_still {k a b V : Int} (h5 : 5 ≤ k) (h19 : k ≤ 19) (hV : opV k a b = V) (W : World) (n : Nat) : Calls Tryd.prog 26 #[.int .u8 k, .int .i64 a, .int .i64 b] (W.drewN n) fun e w'' => e = .returned (.tuple #[.int .i64 V, .int .i64 0]) ∧ ∃ m, w'' = W.drewN m := by
  refine (do_any a b (W.drewN n) k).mono ?_
  rintro e w' ⟨he, hw⟩
  have hE : doE k = 0 := if_neg (by omega)
  rw [hE, hV] at he
  exact ⟨he, n, hw.symm⟩
theorem box_two (w : World) (o o2 : Obj) (n : Nat) : Below w.heap.size w (((w.alloc o).alloc o2).drewN n) := below_drewN (((Below.refl _ w).alloc (Nat.le_refl _) o).alloc (by simp) o2) n
theorem box_two0 (w : World) (o o2 : Obj) : Below w.heap.size w ((w.alloc o).alloc o2) := ((Below.refl _ w).alloc (Nat.le_refl _) o).alloc (by simp) o2
set_option maxRecDepth 100000 in
set_option maxHeartbeats 2000000 in
theorem value_any (r : Rec) (vs : List Int) (x : Nd) (v : Value) (base : Nat) (w : World) (ho : w.ownsRow base 2 1 v vs.length (intL vs)) (_hn : vs.length ≤ 1000000) (h1 : 1 ≤ x.kind) (h2 : x.kind ≤ 19) (hfr : Front vs.length x) :
    Calls Tryd.prog 30 #[ndVal x, v, recVal r] w fun e w' => e = .returned (.int .i64 (valV r vs x)) ∧ Below w.heap.size w w' := by
  obtain ⟨V, hV⟩ : ∃ V, valV r vs x = V := ⟨_, rfl⟩
  rw [hV]
  obtain ⟨kd, n, a, b, at_⟩ := x
  obtain ⟨ky, tm, va⟩ := r
  unfold ndVal recVal
  unfold valV at hV
  unfold Front at hfr
  simp only at h1 h2 hfr hV ⊢
  obtain ⟨ad, cap, rfl⟩ := own_shape ho
  rcases (show kd = 1 ∨ kd = 2 ∨ kd = 3 ∨ kd = 4 ∨ 5 ≤ kd by omega) with rfl | rfl | rfl | rfl | h5
  · obtain rfl : n = V := hV
    clear hfr ho
    go_enter Tryd.func30, Tryd.ntmps30
    go_wp2_with fail
    go_ret
    exact ⟨rfl, box_two0 _ _ _⟩
  · obtain rfl : ky = V := hV
    clear hfr ho
    go_enter Tryd.func30, Tryd.ntmps30
    go_wp2_with fail
    go_ret
    exact ⟨rfl, box_two0 _ _ _⟩
  · obtain rfl : tm = V := hV
    clear hfr ho
    go_enter Tryd.func30, Tryd.ntmps30
    go_wp2_with fail
    go_ret
    exact ⟨rfl, box_two0 _ _ _⟩
  · obtain rfl : va = V := hV
    clear hfr ho
    go_enter Tryd.func30, Tryd.ntmps30
    go_wp2_with fail
    go_ret
    exact ⟨rfl, box_two0 _ _ _⟩
  · rw [if_neg (by omega), if_neg (by omega), if_neg (by omega), if_neg (by omega)] at hV
    have q1 : (kd == 1) = false := by rw [beq_eq_false_iff_ne]; omega
    have q2 : (kd == 2) = false := by rw [beq_eq_false_iff_ne]; omega
    have q3 : (kd == 3) = false := by rw [beq_eq_false_iff_ne]; omega
    have q4 : (kd == 4) = false := by rw [beq_eq_false_iff_ne]; omega
    have PS := Lib.hid (nodesParts_same kd)
    rw [parts_ok h1 h2] at PS
    rcases hfr with a0 | ⟨a1, p0, p1⟩ | ⟨a2, p0, p1, p2, p3⟩
    · have := arity_leaf a0
      omega
    · obtain ⟨p, rfl⟩ : ∃ p : Nat, a = p := ⟨a.toNat, by omega⟩
      have hp : p < vs.length := by omega
      rw [a1] at PS hV
      rw [if_neg (by omega)] at hV
      obtain ⟨bb, cap', e, hbb, c0⟩ := int_cell ho (Below.refl _ w) rfl hp
      cases e
      obtain ⟨A, hA⟩ : ∃ A, nth vs (p : Int) = A := ⟨_, rfl⟩
      rw [hA] at c0 hV
      have hc0 : ∀ o o2 : Obj, ((w.alloc o).alloc o2).cell? ⟨bb, p, none⟩ = some (.int .i64 A) := fun o o2 => (((box_two0 w o o2).cell (p := ⟨bb, p, none⟩) hbb)).trans c0
      have DS := Lib.hid (do_still (a := A) (b := 0) h5 h2 hV)
      clear hV hA ho
      go_enter Tryd.func30, Tryd.ntmps30
      go_wp2_with fail
      refine (PS.out _).mono ?_
      rintro e w1 ⟨rfl, rfl⟩
      go_wp2_with fail
      go_quiet ((go_at_call 26; with_reducible exact DS.out _ _))
      go_wp2_with fail
      go_ret
      exact ⟨rfl, box_two _ _ _ _⟩
    · obtain ⟨p, rfl⟩ : ∃ p : Nat, a = p := ⟨a.toNat, by omega⟩
      obtain ⟨q, rfl⟩ : ∃ p : Nat, b = p := ⟨b.toNat, by omega⟩
      have hp : p < vs.length := by omega
      have hq : q < vs.length := by omega
      rw [a2] at PS hV
      rw [if_pos rfl] at hV
      obtain ⟨bb, cap', e, hbb, c0⟩ := int_cell ho (Below.refl _ w) rfl hp
      cases e
      obtain ⟨b3, cap3, e, hb3, d0⟩ := int_cell ho (Below.refl _ w) rfl hq
      cases e
      obtain ⟨A, hA⟩ : ∃ A, nth vs (p : Int) = A := ⟨_, rfl⟩
      obtain ⟨B, hB⟩ : ∃ A, nth vs (q : Int) = A := ⟨_, rfl⟩
      rw [hA] at c0 hV
      rw [hB] at d0 hV
      have hc0 : ∀ o o2 : Obj, ((w.alloc o).alloc o2).cell? ⟨bb, p, none⟩ = some (.int .i64 A) := fun o o2 => (((box_two0 w o o2).cell (p := ⟨bb, p, none⟩) hbb)).trans c0
      have hd0 : ∀ o o2 : Obj, ((w.alloc o).alloc o2).cell? ⟨bb, q, none⟩ = some (.int .i64 B) := fun o o2 => (((box_two0 w o o2).cell (p := ⟨bb, q, none⟩) hbb)).trans d0
      have DS := Lib.hid (do_still (a := A) (b := B) h5 h2 hV)
      clear hV hA hB ho
      go_enter Tryd.func30, Tryd.ntmps30
      go_wp2_with fail
      refine (PS.out _).mono ?_
      rintro e w1 ⟨rfl, rfl⟩
      go_wp2_with fail
      go_quiet ((go_at_call 26; with_reducible exact DS.out _ _))
      go_wp2_with fail
      go_ret
      exact ⟨rfl, box_two _ _ _ _⟩
end Go.Proofs.YtflmpjejlkhpcaaDoor.Nodes

/-
  Contract of package chars: Kind.
-/
import Derived.Test.YtdinaedknlkicaaGreatDoorChecked
import Derived.Test.YtdinaedknlkicaaGreatDoorCharsMath
import Derived.WalkKit
import Derived.ProofKit
import Derived.OpenShut
import Derived.RowKit3
import Derived.WalkLawsBesides
import Derived.WalkSpells
import Derived.Lib.Hide
import Derived.LoopTactic
import Derived.Lib.Bytealg
namespace Go.Proofs.YtdinaedknlkicaaGreatDoor
open Go.ChangeShapes Go.WideShapes Go.ChangeAt Go.RowKit

def idxV (c : Int) : Int := Lib.indexByte [40, 41, 42, 43, 45, 60, 61, 62, 33] c.toNat.toUInt8
theorem idx_sym_fin : ∀ n : Fin 256, (if isSym (n.val : Int) then 0 ≤ idxV n.val else idxV n.val < 0) := by decide +kernel
theorem idx_yes {c : Int} (h0 : 0 ≤ c) (h1 : c ≤ 255) (h : isSym c) : 0 ≤ idxV c := by
  have := idx_sym_fin ⟨c.toNat, by omega⟩
  rw [show ((⟨c.toNat, by omega⟩ : Fin 256).val : Int) = c by simp; omega, if_pos h] at this
  exact this
theorem idx_no {c : Int} (h0 : 0 ≤ c) (h1 : c ≤ 255) (h : ¬ isSym c) : idxV c < 0 := by
  have := idx_sym_fin ⟨c.toNat, by omega⟩
  rw [show ((⟨c.toNat, by omega⟩ : Fin 256).val : Int) = c by simp; omega, if_neg h] at this
  exact this

def withinV (a b c : Int) : Bool := decide (a ≤ c ∧ c ≤ b)
theorem withinV_yes {a b c : Int} (h : a ≤ c ∧ c ≤ b) : withinV a b c = true := decide_eq_true h
theorem withinV_no {a b c : Int} (h : ¬ (a ≤ c ∧ c ≤ b)) : withinV a b c = false := decide_eq_false h
set_option maxRecDepth 100000 in
theorem within_any (a b c : Int) (n : Nat) (w : World) (h : w.cell? { block := n, off := 0 } = some (.int .u8 c)) :
    Calls Tryz.prog 82 #[.int .u8 a, .int .u8 b, .pointer (some { block := n, off := 0 })] w fun e w' => e = .returned (.bool (withinV a b c)) ∧ w = w' := by
  by_cases h1 : a ≤ c
  · by_cases h2 : c ≤ b
    · have H := Lib.hid (withinV_yes (a := a) (b := b) (c := c) ⟨h1, h2⟩)
      go_enter Tryz.func82, Tryz.ntmps82
      go_wp2
      go_ret
      exact ⟨by rw [H.out]; rfl, rfl⟩
    · have H := Lib.hid (withinV_no (a := a) (b := b) (c := c) (fun h => h2 h.2))
      go_enter Tryz.func82, Tryz.ntmps82
      go_wp2
      go_ret
      exact ⟨by rw [H.out]; rfl, rfl⟩
  · have H := Lib.hid (withinV_no (a := a) (b := b) (c := c) (fun h => h1 h.1))
    go_enter Tryz.func82, Tryz.ntmps82
    go_wp2
    go_ret
    exact ⟨by rw [H.out]; rfl, rfl⟩
set_option maxRecDepth 100000 in
theorem index_inner (s : ByteArray) (c : Int) (w : World) :
    Calls Tryz.prog 98 #[.string s, .int .u8 c] w fun e w' => e = .returned (.int .i64 (Lib.indexByte s.data.toList c.toNat.toUInt8)) ∧ w = w' := by
  go_enter Tryz.func98, Tryz.ntmps98
  go_wp2
  rw [run_callFunc_extern Tryz.func109 (by kernel_rfl) (by kernel_rfl) (by kernel_rfl) (e := Extern.BytealgIndexByte.indexByte) (by kernel_rfl), Lib.run_indexByteString]
  simp only [Result.andThen]
  rw [Oper.upon_value]
  go_wp2
  go_ret
  exact ⟨rfl, rfl⟩
set_option maxRecDepth 100000 in
theorem index_any (s : ByteArray) (c : Int) (w : World) :
    Calls Tryz.prog 83 #[.string s, .int .u8 c] w fun e w' => e = .returned (.int .i64 (Lib.indexByte s.data.toList c.toNat.toUInt8)) ∧ w = w' := by
  go_enter Tryz.func83, Tryz.ntmps83
  go_wp2_with (go_at_call 98; refine (index_inner _ _ _).mono ?_; rintro e w' ⟨rfl, rfl⟩)
  go_ret
  exact ⟨rfl, rfl⟩
theorem index_sym (c : Int) (w : World) :
    Calls Tryz.prog 83 #[.string { data := #[40, 41, 42, 43, 45, 60, 61, 62, 33] }, .int .u8 c] w fun e w' => e = .returned (.int .i64 (idxV c)) ∧ w = w' := index_any _ c w

theorem box_cell (w : World) (c : Int) : (w.alloc (Obj.cells #[Value.int .u8 c] 5)).cell? { block := w.heap.size, off := 0 } = some (.int .u8 c) := by simp [go_sem]
theorem box_below (w : World) (c : Int) : Below w.heap.size w (w.alloc (Obj.cells #[Value.int .u8 c] 5)) := (Below.refl w.heap.size w).alloc (Nat.le_refl _) _

set_option maxRecDepth 100000 in
set_option maxHeartbeats 2000000 in
theorem kind_any (c : Int) (h0 : 0 ≤ c) (h255 : c ≤ 255) (w : World) :
    Calls Tryz.prog 60 #[.int .u8 c] w fun e w' => e = .returned (.int .u8 (kindV c)) ∧ Below w.heap.size w w' := by
  have hmf : ∀ (fn : Fn) (first cap : Array Value) (w : World), (Instr.makeFunc fn first cap).run Tryz.prog w = .ok (.func fn first cap) w := fun _ _ _ _ => rfl
  have HB := Lib.hid (box_below w c)
  have HC := Lib.hid (box_cell w c)
  by_cases b1 : c = 32
  · have H : Hid (kindV c = 1) := Lib.hid (if_pos (.inl b1))
    have g1 : (c == 32) = true := beq_iff_eq.2 b1
    clear b1 h0 h255
    go_enter Tryz.func60, Tryz.ntmps60
    go_wp2_with fail
    go_ret
    exact ⟨by rw [H.out]; rfl, HB.out⟩
  have g1 : (c == 32) = false := beq_eq_false_iff_ne.2 b1
  by_cases b2 : c = 10
  · have H : Hid (kindV c = 1) := Lib.hid (if_pos (.inr b2))
    have g2 : (c == 10) = true := beq_iff_eq.2 b2
    clear b1 b2 h0 h255
    go_enter Tryz.func60, Tryz.ntmps60
    go_wp2_with fail
    go_ret
    exact ⟨by rw [H.out]; rfl, HB.out⟩
  have g2 : (c == 10) = false := beq_eq_false_iff_ne.2 b2
  have hb : ¬ (c = 32 ∨ c = 10) := fun h => h.elim b1 b2
  clear b1 b2
  by_cases b3 : 48 ≤ c ∧ c ≤ 57
  · have H : Hid (kindV c = 2) := Lib.hid (by unfold kindV; rw [if_neg hb, if_pos b3])
    have D := Lib.hid (within_any 48 57 c w.heap.size _ HC.out)
    rw [withinV_yes b3] at D
    clear hb b3 h0 h255
    go_enter Tryz.func60, Tryz.ntmps60
    go_wp2_with (go_at_call 82; refine D.out.mono ?_; rintro e w' ⟨rfl, rfl⟩)
    go_ret
    exact ⟨by rw [H.out]; rfl, HB.out⟩
  have D := Lib.hid (within_any 48 57 c w.heap.size _ HC.out)
  rw [withinV_no b3] at D
  by_cases b4 : 97 ≤ c ∧ c ≤ 122
  · have H : Hid (kindV c = 3) := Lib.hid (by unfold kindV; rw [if_neg hb, if_neg b3, if_pos b4])
    have D2 := Lib.hid (within_any 97 122 c w.heap.size _ HC.out)
    rw [withinV_yes b4] at D2
    clear hb b3 b4 h0 h255
    go_enter Tryz.func60, Tryz.ntmps60
    go_wp2_with fail
    refine D.out.mono ?_
    rintro e w' ⟨rfl, rfl⟩
    go_wp2_with fail
    refine D2.out.mono ?_
    rintro e w' ⟨rfl, rfl⟩
    go_wp2_with fail
    go_ret
    exact ⟨by rw [H.out]; rfl, HB.out⟩
  have D2 := Lib.hid (within_any 97 122 c w.heap.size _ HC.out)
  rw [withinV_no b4] at D2
  by_cases b5 : isSym c
  · have H : Hid (kindV c = 4) := Lib.hid (by unfold kindV; rw [if_neg hb, if_neg b3, if_neg b4, if_pos b5])
    have g5 : ¬ idxV c < 0 := by have := idx_yes h0 h255 b5; omega
    clear hb b3 b4 b5 h0 h255
    go_enter Tryz.func60, Tryz.ntmps60
    go_wp2_with fail
    refine D.out.mono ?_
    rintro e w' ⟨rfl, rfl⟩
    go_wp2_with fail
    refine D2.out.mono ?_
    rintro e w' ⟨rfl, rfl⟩
    go_wp2_with fail
    refine (index_sym _ _).mono ?_
    rintro e w' ⟨rfl, rfl⟩
    go_wp2_with fail
    go_ret
    exact ⟨by rw [H.out]; rfl, HB.out⟩
  · have H : Hid (kindV c = 0) := Lib.hid (by unfold kindV; rw [if_neg hb, if_neg b3, if_neg b4, if_neg b5])
    have g5 : idxV c < 0 := idx_no h0 h255 b5
    clear hb b3 b4 b5 h0 h255
    go_enter Tryz.func60, Tryz.ntmps60
    go_wp2_with fail
    refine D.out.mono ?_
    rintro e w' ⟨rfl, rfl⟩
    go_wp2_with fail
    refine D2.out.mono ?_
    rintro e w' ⟨rfl, rfl⟩
    go_wp2_with fail
    refine (index_sym _ _).mono ?_
    rintro e w' ⟨rfl, rfl⟩
    go_wp2_with fail
    go_ret
    exact ⟨by rw [H.out]; rfl, HB.out⟩
theorem kind_is (c v : Int) (h : (0 ≤ c ∧ c ≤ 255) ∧ kindV c = v) (w : World) :
    Calls Tryz.prog 60 #[.int .u8 c] w fun e w' => e = .returned (.int .u8 v) ∧ Below w.heap.size w w' := by
  obtain ⟨h0, rfl⟩ := h
  exact kind_any c h0.1 h0.2 w
end Go.Proofs.YtdinaedknlkicaaGreatDoor

/-
  The walks of layer 1's statements IntsRing, IntsShifts and IntsOrder: each returns true, for every int64.
-/
import Derived.Test.YtkoncbkehpoepaaDoorIntsLaw
namespace Go.Proofs.YtkoncbkehpoepaaDoor
open Go.ChangeShapes Go.WideShapes Go.ChangeAt Go.RowKit

/-- The mark of an error: a new block of one cell, false. -/
def wrongW (w : World) : World := w.alloc (Obj.cells #[Value.bool false] 4)
theorem wrong_cell (w : World) : (w.alloc (Obj.cells #[Value.bool false] 4)).cell? { block := w.heap.size, off := 0 } = some (.bool false) := by simp [go_sem]
theorem wrong_free (w : World) : (w.alloc (Obj.cells #[Value.bool false] 4)).frozen? { block := w.heap.size, off := 0 } = false := by simp [go_sem]
theorem doE_ok (k : Int) (h : 5 ≤ k) (h' : k ≤ 19) : doE k = 0 := if_neg (by omega)
theorem wrong_fix {w : World} (hf : Fix w) : Fix (w.alloc (Obj.cells #[Value.bool false] 4)) := Fix.below hf ((Below.refl w.heap.size w).alloc (Nat.le_refl _) _)
theorem wrong_below {w w' : World} (hb : Below (w.alloc (Obj.cells #[Value.bool false] 4)).heap.size (w.alloc (Obj.cells #[Value.bool false] 4)) w') : Below w.heap.size w w' :=
  ((Below.refl w.heap.size w).alloc (Nat.le_refl _) _).trans (hb.mono (by simp))

set_option maxRecDepth 100000 in
theorem ring_walk (a b c : Int) (ha : I64 a) (w : World) (hf : Fix w) :
    Calls Tryd.prog 5 #[.int .i64 a, .int .i64 b, .int .i64 c] w fun e w' => e = .returned (.bool true) ∧ Below w.heap.size w w' := by
  have hf1 := Lib.hid (wrong_fix hf)
  have HC := Lib.hid (wrong_cell w)
  have HZ := Lib.hid (wrong_free w)
  have HK := Lib.hid doE_ok
  have e1 : (opV 8 a b == opV 8 b a) = true := beq_iff_eq.2 (addV_comm a b)
  have e2 : (opV 8 (opV 8 a b) c == opV 8 a (opV 8 b c)) = true := beq_iff_eq.2 (addV_assoc a b c)
  have e3 : (opV 7 a b == opV 7 b a) = true := beq_iff_eq.2 (mulV_comm a b)
  have e4 : (opV 7 (opV 7 a b) c == opV 7 a (opV 7 b c)) = true := beq_iff_eq.2 (mulV_assoc a b c)
  have e5 : (opV 9 a b == opV 8 a (opV 5 b 0)) = true := beq_iff_eq.2 (subV_add_neg a b)
  have e6 : (opV 7 (opV 8 a b) c == opV 8 (opV 7 a c) (opV 7 b c)) = true := beq_iff_eq.2 (mulV_addV a b c)
  have e7 : (opV 8 a 0 == a) = true := beq_iff_eq.2 (addV_zero ha)
  have e8 : (opV 7 a 1 == a) = true := beq_iff_eq.2 (mulV_one ha)
  clear ha hf
  go_enter Tryd.func5, Tryd.ntmps5
  go_wp2_with (first | (go_at_call 16; refine (ldo_any _ _ _ ?k1 _ _ HC.out HZ.out).mono ?_; (case k1 => exact HK.out _ (by decide) (by decide)); rintro e w' ⟨rfl, rfl⟩) | (go_at_call 13; refine (alive_any _ hf1.out).mono ?_; rintro e w' ⟨rfl, hb⟩))
  go_ret
  exact ⟨rfl, wrong_below hb⟩

/-! ### Comparisons -/
theorem opV_less (a b : Int) : opV 12 a b = b2i (decide (a < b)) := rfl
theorem opV_most (a b : Int) : opV 13 a b = b2i (decide (a ≤ b)) := rfl
theorem opV_more (a b : Int) : opV 14 a b = b2i (decide (b < a)) := rfl
theorem opV_least (a b : Int) : opV 15 a b = b2i (decide (b ≤ a)) := rfl
theorem opV_same (a b : Int) : opV 16 a b = b2i (decide (a = b)) := rfl
theorem opV_other (a b : Int) : opV 17 a b = b2i (!decide (a = b)) := rfl
theorem opV_and (a b : Int) : opV 18 a b = b2i (!decide (a = 0) && !decide (b = 0)) := rfl
theorem opV_or (a b : Int) : opV 19 a b = b2i (!decide (a = 0) || !decide (b = 0)) := rfl
theorem opV_not (a b : Int) : opV 6 a b = b2i (decide (a = 0)) := rfl
theorem order_one (a b : Int) : opV 12 a b + opV 14 a b + opV 16 a b = 1 := by
  rw [opV_less, opV_more, opV_same]
  rcases Int.lt_trichotomy a b with h | h | h
  · simp [b2i, h, show ¬ b < a by omega, show ¬ a = b by omega]
  · subst h; simp [b2i]
  · simp [b2i, h, show ¬ a < b by omega, show ¬ a = b by omega]
theorem most_eq (a b : Int) : opV 13 a b = 1 - opV 14 a b := by
  rw [opV_most, opV_more]; by_cases h : a ≤ b
  · simp [b2i, h, show ¬ b < a by omega]
  · simp [b2i, h, show b < a by omega]
theorem least_eq (a b : Int) : opV 15 a b = 1 - opV 12 a b := by
  rw [opV_least, opV_less]; by_cases h : b ≤ a
  · simp [b2i, h, show ¬ a < b by omega]
  · simp [b2i, h, show a < b by omega]
theorem other_eq (a b : Int) : opV 17 a b = 1 - opV 16 a b := by
  rw [opV_other, opV_same]; by_cases h : a = b <;> simp [b2i, h]
theorem not_twice (a : Int) : opV 6 a 0 + opV 6 (opV 6 a 0) 0 = 1 := by
  rw [opV_not, opV_not]; by_cases h : a = 0 <;> simp [b2i, h]
theorem and_not (a b : Int) : opV 18 a b = opV 6 (opV 19 (opV 6 a 0) (opV 6 b 0)) 0 := by
  simp only [opV_not, opV_and, opV_or]; by_cases h : a = 0 <;> by_cases g : b = 0 <;> simp [b2i, h, g]
theorem or_not (a b : Int) : opV 19 a b = opV 6 (opV 18 (opV 6 a 0) (opV 6 b 0)) 0 := by
  simp only [opV_not, opV_and, opV_or]; by_cases h : a = 0 <;> by_cases g : b = 0 <;> simp [b2i, h, g]
theorem same_one (a b : Int) : (opV 16 a b == 1) = (a == b) := by
  rw [opV_same]; by_cases h : a = b <;> simp [b2i, h]
theorem bne_of_eq {a b : Int} (h : a = b) : (a != b) = false := by subst h; simp

set_option maxRecDepth 100000 in
set_option maxHeartbeats 2000000 in
theorem order_walk (a b c : Int) (w : World) (hf : Fix w) :
    Calls Tryd.prog 7 #[.int .i64 a, .int .i64 b, .int .i64 c] w fun e w' => e = .returned (.bool true) ∧ Below w.heap.size w w' := by
  have hf1 := Lib.hid (wrong_fix hf)
  have HC := Lib.hid (wrong_cell w)
  have HZ := Lib.hid (wrong_free w)
  have HK := Lib.hid doE_ok
  have b12 : 0 ≤ opV 12 a b := (b2i_range _).1
  have b14 : 0 ≤ opV 14 a b := (b2i_range _).1
  have b16 : 0 ≤ opV 16 a b := (b2i_range _).1
  have c12 : opV 12 a b ≤ 1 := (b2i_range _).2
  have c14 : opV 14 a b ≤ 1 := (b2i_range _).2
  have c16 : opV 16 a b ≤ 1 := (b2i_range _).2
  have n1 : 0 ≤ opV 6 a 0 := (b2i_range _).1
  have n2 : opV 6 a 0 ≤ 1 := (b2i_range _).2
  have n3 : 0 ≤ opV 6 (opV 6 a 0) 0 := (b2i_range _).1
  have n4 : opV 6 (opV 6 a 0) 0 ≤ 1 := (b2i_range _).2
  have e1 : (opV 12 a b + opV 14 a b + opV 16 a b != 1) = false := bne_of_eq (order_one a b)
  have e2 : (opV 13 a b != 1 - opV 14 a b) = false := bne_of_eq (most_eq a b)
  have e3 : (opV 15 a b != 1 - opV 12 a b) = false := bne_of_eq (least_eq a b)
  have e4 : (opV 17 a b != 1 - opV 16 a b) = false := bne_of_eq (other_eq a b)
  have e5 : (opV 6 a 0 + opV 6 (opV 6 a 0) 0 == 1) = true := beq_iff_eq.2 (not_twice a)
  have e6 : (opV 18 a b == opV 6 (opV 19 (opV 6 a 0) (opV 6 b 0)) 0) = true := beq_iff_eq.2 (and_not a b)
  have e7 : (opV 19 a b == opV 6 (opV 18 (opV 6 a 0) (opV 6 b 0)) 0) = true := beq_iff_eq.2 (or_not a b)
  have e8 : ((opV 16 a b == 1) == (a == b)) = true := by rw [same_one]; simp
  by_cases h : a < b
  · by_cases g : b < c
    · have d1 : (opV 12 a b == 1) = true := by rw [opV_less]; simp [b2i, h]
      have d2 : (opV 12 b c == 1) = true := by rw [opV_less]; simp [b2i, g]
      have d3 : (opV 12 a c != 1) = false := by rw [opV_less]; simp [b2i]; omega
      clear hf h g
      go_enter Tryd.func7, Tryd.ntmps7
      go_wp2_with (first | (go_at_call 16; refine (ldo_any _ _ _ ?k1 _ _ HC.out HZ.out).mono ?_; (case k1 => exact HK.out _ (by decide) (by decide)); rintro e w' ⟨rfl, rfl⟩) | (go_at_call 13; refine (alive_any _ hf1.out).mono ?_; rintro e w' ⟨rfl, hb⟩))
      go_ret
      exact ⟨rfl, wrong_below hb⟩
    · have d1 : (opV 12 a b == 1) = true := by rw [opV_less]; simp [b2i, h]
      have d2 : (opV 12 b c == 1) = false := by rw [opV_less]; simp [b2i, g]
      clear hf h g
      go_enter Tryd.func7, Tryd.ntmps7
      go_wp2_with (first | (go_at_call 16; refine (ldo_any _ _ _ ?k1 _ _ HC.out HZ.out).mono ?_; (case k1 => exact HK.out _ (by decide) (by decide)); rintro e w' ⟨rfl, rfl⟩) | (go_at_call 13; refine (alive_any _ hf1.out).mono ?_; rintro e w' ⟨rfl, hb⟩))
      go_ret
      exact ⟨rfl, wrong_below hb⟩
  · have d1 : (opV 12 a b == 1) = false := by rw [opV_less]; simp [b2i, h]
    clear hf h
    go_enter Tryd.func7, Tryd.ntmps7
    go_wp2_with (first | (go_at_call 16; refine (ldo_any _ _ _ ?k1 _ _ HC.out HZ.out).mono ?_; (case k1 => exact HK.out _ (by decide) (by decide)); rintro e w' ⟨rfl, rfl⟩) | (go_at_call 13; refine (alive_any _ hf1.out).mono ?_; rintro e w' ⟨rfl, hb⟩))
    go_ret
    exact ⟨rfl, wrong_below hb⟩
end Go.Proofs.YtkoncbkehpoepaaDoor

/-
  The plain arithmetic of package ints (layer 1): what each operator gives, over Int, wrapped to 64 bits; no program in this text.
-/
import Derived.WalkKit
import Derived.Laws.BitsAllLaws
import Derived.Laws.Shifts
namespace Go.Proofs.YtflmpjejlkhpcaaDoor
open Go.RowKit

/-! ### What operators give, each under a name of its own (a plain def: a walk does not open it). -/
def b2i (c : Bool) : Int := if c then 1 else 0
def negV (a : Int) : Int := wrap64 (-a)
def notV (a : Int) : Int := b2i (decide (a = 0))
def mulV (a b : Int) : Int := wrap64 (a * b)
def addV (a b : Int) : Int := wrap64 (a + b)
def subV (a b : Int) : Int := wrap64 (a - b)
def shlV (a b : Int) : Int := wrap64 (a * 2 ^ (b % 64).toNat)
def shrV (a b : Int) : Int := a / 2 ^ (b % 64).toNat
def lessV (a b : Int) : Int := b2i (decide (a < b))
def mostV (a b : Int) : Int := b2i (decide (a ≤ b))
def moreV (a b : Int) : Int := b2i (decide (b < a))
def leastV (a b : Int) : Int := b2i (decide (b ≤ a))
def sameV (a b : Int) : Int := b2i (decide (a = b))
def otherV (a b : Int) : Int := b2i (!decide (a = b))
def andV (a b : Int) : Int := b2i (!decide (a = 0) && !decide (b = 0))
def orV (a b : Int) : Int := b2i (!decide (a = 0) || !decide (b = 0))

/-- What the operator of a kind gives: kinds 5 to 19. -/
def opV (k a b : Int) : Int :=
  if k = 5 then negV a else if k = 6 then notV a else if k = 7 then mulV a b else if k = 8 then addV a b else if k = 9 then subV a b
  else if k = 10 then shlV a b else if k = 11 then shrV a b else if k = 12 then lessV a b else if k = 13 then mostV a b else if k = 14 then moreV a b
  else if k = 15 then leastV a b else if k = 16 then sameV a b else if k = 17 then otherV a b else if k = 18 then andV a b else if k = 19 then orV a b else 0

/-- An int64. -/
def I64 (a : Int) : Prop := -9223372036854775808 ≤ a ∧ a ≤ 9223372036854775807

theorem b2i_range (c : Bool) : 0 ≤ b2i c ∧ b2i c ≤ 1 := by cases c <;> simp [b2i]
theorem b2i_i64 (c : Bool) : I64 (b2i c) := by have := b2i_range c; unfold I64; omega
theorem wrap64_i64 (n : Int) : I64 (wrap64 n) := by unfold I64 wrap64; omega
theorem wrap64_of_i64 {a : Int} (h : I64 a) : wrap64 a = a := by unfold I64 at h; unfold wrap64; omega

/-! ### Wrapping: it depends on the number modulo 2^64 alone. -/
theorem wrap64_congr {a b : Int} (h : a % 18446744073709551616 = b % 18446744073709551616) : wrap64 a = wrap64 b := by unfold wrap64; omega
theorem wrap64_mod (a : Int) : wrap64 a % 18446744073709551616 = a % 18446744073709551616 := by unfold wrap64; omega
theorem wrap64_mul_left (a b : Int) : wrap64 (wrap64 a * b) = wrap64 (a * b) :=
  wrap64_congr (by rw [Int.mul_emod, wrap64_mod, ← Int.mul_emod])
theorem wrap64_mul_right (a b : Int) : wrap64 (a * wrap64 b) = wrap64 (a * b) :=
  wrap64_congr (by rw [Int.mul_emod, wrap64_mod, ← Int.mul_emod])
theorem wrap64_add_left (a b : Int) : wrap64 (wrap64 a + b) = wrap64 (a + b) := by unfold wrap64; omega
theorem wrap64_add_right (a b : Int) : wrap64 (a + wrap64 b) = wrap64 (a + b) := by unfold wrap64; omega

theorem addV_comm (a b : Int) : addV a b = addV b a := by unfold addV; rw [Int.add_comm]
theorem addV_assoc (a b c : Int) : addV (addV a b) c = addV a (addV b c) := by unfold addV; rw [wrap64_add_left, wrap64_add_right, Int.add_assoc]
theorem mulV_comm (a b : Int) : mulV a b = mulV b a := by unfold mulV; rw [Int.mul_comm]
theorem mulV_assoc (a b c : Int) : mulV (mulV a b) c = mulV a (mulV b c) := by unfold mulV; rw [wrap64_mul_left, wrap64_mul_right, Int.mul_assoc]
theorem subV_add_neg (a b : Int) : subV a b = addV a (negV b) := by unfold subV addV negV; rw [wrap64_add_right, Int.sub_eq_add_neg]
theorem mulV_addV (a b c : Int) : mulV (addV a b) c = addV (mulV a c) (mulV b c) := by
  unfold mulV addV; rw [wrap64_mul_left, wrap64_add_left, wrap64_add_right, Int.add_mul]
theorem addV_zero {a : Int} (h : I64 a) : addV a 0 = a := by unfold addV; rw [Int.add_zero]; exact wrap64_of_i64 h
theorem mulV_one {a : Int} (h : I64 a) : mulV a 1 = a := by unfold mulV; rw [Int.mul_one]; exact wrap64_of_i64 h

/-! ### Shifts -/
theorem wrap_u64 (b : Int) : IntKind.u64.wrap b = b % 18446744073709551616 := by
  unfold IntKind.wrap; simp [IntKind.bits, IntKind.signed]
/-- The low six bits are the number modulo 64. -/
theorem and63 (b : Int) : bits BinOp.and IntKind.u64 (IntKind.u64.wrap b) 63 = b % 64 := by
  rw [wrap_u64, u64_and _ _ (by omega) (by omega) (by decide) (by decide)]
  have h : (b % 18446744073709551616).toNat &&& (63 : Int).toNat = (b % 18446744073709551616).toNat % 64 := Nat.and_two_pow_sub_one_eq_mod _ 6
  rw [h]
  omega
theorem rem64 (b : Int) : (IntKind.u64.wrap b).tmod 64 = b % 64 := by
  rw [wrap_u64, Int.tmod_eq_emod_of_nonneg (by omega)]; omega
theorem mod64_range (b : Int) : 0 ≤ b % 64 ∧ b % 64 < 64 := by omega
theorem shlV_i64 (a b : Int) : I64 (shlV a b) := wrap64_i64 _
theorem div_pow_i64 {a : Int} (h : I64 a) (n : Nat) : I64 (a / 2 ^ n) := by
  induction n with
  | zero => simpa using h
  | succ n ih =>
    have hp : (0 : Int) ≤ 2 ^ n := Int.pow_nonneg (by decide)
    rw [Int.pow_succ, ← Int.ediv_ediv_of_nonneg hp]
    unfold I64 at *; omega
theorem shrV_i64 {a : Int} (h : I64 a) (b : Int) : I64 (shrV a b) := div_pow_i64 h _

theorem ite_i64 {c : Prop} [Decidable c] {x y : Int} (hx : I64 x) (hy : I64 y) : I64 (if c then x else y) := by
  by_cases h : c
  · rw [if_pos h]; exact hx
  · rw [if_neg h]; exact hy
theorem opV_i64 {k a b : Int} (ha : I64 a) : I64 (opV k a b) := by
  have h0 : I64 0 := by unfold I64; omega
  unfold opV
  refine ite_i64 (wrap64_i64 _) (ite_i64 (b2i_i64 _) (ite_i64 (wrap64_i64 _) (ite_i64 (wrap64_i64 _) (ite_i64 (wrap64_i64 _) (ite_i64 (wrap64_i64 _) (ite_i64 (shrV_i64 ha _) ?_))))))
  exact ite_i64 (b2i_i64 _) (ite_i64 (b2i_i64 _) (ite_i64 (b2i_i64 _) (ite_i64 (b2i_i64 _) (ite_i64 (b2i_i64 _) (ite_i64 (b2i_i64 _) (ite_i64 (b2i_i64 _) (ite_i64 (b2i_i64 _) h0)))))))
theorem opV_bad {k : Int} (a b : Int) (h : k < 5 ∨ 19 < k) : opV k a b = 0 := by
  unfold opV
  simp only [show ¬ k = 5 by omega, show ¬ k = 6 by omega, show ¬ k = 7 by omega, show ¬ k = 8 by omega, show ¬ k = 9 by omega, show ¬ k = 10 by omega, show ¬ k = 11 by omega, show ¬ k = 12 by omega, show ¬ k = 13 by omega, show ¬ k = 14 by omega, show ¬ k = 15 by omega, show ¬ k = 16 by omega, show ¬ k = 17 by omega, show ¬ k = 18 by omega, show ¬ k = 19 by omega, if_false]
end Go.Proofs.YtflmpjejlkhpcaaDoor

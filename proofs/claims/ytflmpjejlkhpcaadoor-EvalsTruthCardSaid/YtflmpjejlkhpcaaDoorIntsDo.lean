/-
  Contracts of package ints: truth, distance and Do, for every kind and every two numbers: each returns what IntsMath says, and leaves the world alone.
-/
import Derived.Test.YtflmpjejlkhpcaaDoorIntsMath
import Derived.Test.YtflmpjejlkhpcaaDoorProg
import Derived.ProofKit
import Derived.OpenShut
import Derived.RowKit3
import Derived.WalkLawsBesides
import Derived.WalkSpells
import Derived.Lib.Hide
namespace Go.Proofs.YtflmpjejlkhpcaaDoor
open Go.ChangeShapes Go.WideShapes Go.ChangeAt Go.RowKit

theorem truth_any (c : Bool) (w : World) : Calls Tryd.prog 40 #[.bool c] w fun e w' => e = .returned (.int .i64 (b2i c)) ∧ w = w' := by
  cases c
  · go_enter Tryd.func40, Tryd.ntmps40
    go_wp2
    go_ret
    exact ⟨rfl, rfl⟩
  · go_enter Tryd.func40, Tryd.ntmps40
    go_wp2
    go_ret
    exact ⟨rfl, rfl⟩
theorem distance_any (b : Int) (w : World) : Calls Tryd.prog 41 #[.int .i64 b] w fun e w' => e = .returned (.int .u64 (b % 64)) ∧ w = w' := by
  go_enter Tryd.func41, Tryd.ntmps41
  go_wp2
  go_ret
  exact ⟨congrArg (fun x => Ending.returned (.int .u64 x)) (and63 b), rfl⟩

/-- What Do returns: a number and an error. -/
def DoEnds (v er : Int) (w : World) (e : Ending) (w' : World) : Prop := e = .returned (.tuple #[.int .i64 v, .int .i64 er]) ∧ w = w'

theorem ends_of {v x er : Int} {w : World} {e : Ending} (h : x = v) (he : e = .returned (.tuple #[.int .i64 x, .int .i64 er])) : DoEnds v er w e w := ⟨by rw [he, h], rfl⟩
theorem dec_eq (a b : Int) : (a == b) = decide (a = b) := by by_cases h : a = b <;> simp [h]

section
variable (a b : Int) (w : World)
theorem do_neg : Calls Tryd.prog 26 #[.int .u8 5, .int .i64 a, .int .i64 b] w (DoEnds (negV a) 0 w) := by
  go_enter Tryd.func26, Tryd.ntmps26
  go_wp2_with fail
  go_ret2
  exact ends_of rfl rfl
theorem do_not : Calls Tryd.prog 26 #[.int .u8 6, .int .i64 a, .int .i64 b] w (DoEnds (notV a) 0 w) := by
  go_enter Tryd.func26, Tryd.ntmps26
  go_wp2_with (go_at_call 40; refine (truth_any _ _).mono ?_; rintro e w' ⟨rfl, rfl⟩)
  go_ret2
  exact ends_of (congrArg b2i (dec_eq _ _)) rfl
theorem do_mul : Calls Tryd.prog 26 #[.int .u8 7, .int .i64 a, .int .i64 b] w (DoEnds (mulV a b) 0 w) := by
  go_enter Tryd.func26, Tryd.ntmps26
  go_wp2_with fail
  go_ret2
  exact ends_of rfl rfl
theorem do_add : Calls Tryd.prog 26 #[.int .u8 8, .int .i64 a, .int .i64 b] w (DoEnds (addV a b) 0 w) := by
  go_enter Tryd.func26, Tryd.ntmps26
  go_wp2_with fail
  go_ret2
  exact ends_of rfl rfl
theorem do_sub : Calls Tryd.prog 26 #[.int .u8 9, .int .i64 a, .int .i64 b] w (DoEnds (subV a b) 0 w) := by
  go_enter Tryd.func26, Tryd.ntmps26
  go_wp2_with fail
  go_ret2
  exact ends_of rfl rfl
theorem do_shl : Calls Tryd.prog 26 #[.int .u8 10, .int .i64 a, .int .i64 b] w (DoEnds (shlV a b) 0 w) := by
  have h0 : 0 ≤ b % 64 := (mod64_range b).1
  have h1 : b % 64 < 64 := (mod64_range b).2
  go_enter Tryd.func26, Tryd.ntmps26
  go_wp2_with (go_at_call 41; refine (distance_any _ _).mono ?_; rintro e w' ⟨rfl, rfl⟩)
  go_ret2
  exact ends_of rfl rfl
theorem do_shr : Calls Tryd.prog 26 #[.int .u8 11, .int .i64 a, .int .i64 b] w (DoEnds (shrV a b) 0 w) := by
  have h0 : 0 ≤ b % 64 := (mod64_range b).1
  have h1 : b % 64 < 64 := (mod64_range b).2
  go_enter Tryd.func26, Tryd.ntmps26
  go_wp2_with (go_at_call 41; refine (distance_any _ _).mono ?_; rintro e w' ⟨rfl, rfl⟩)
  go_ret2
  exact ends_of rfl rfl
theorem do_less : Calls Tryd.prog 26 #[.int .u8 12, .int .i64 a, .int .i64 b] w (DoEnds (lessV a b) 0 w) := by
  go_enter Tryd.func26, Tryd.ntmps26
  go_wp2_with (go_at_call 40; refine (truth_any _ _).mono ?_; rintro e w' ⟨rfl, rfl⟩)
  go_ret2
  exact ends_of rfl rfl
theorem do_most : Calls Tryd.prog 26 #[.int .u8 13, .int .i64 a, .int .i64 b] w (DoEnds (mostV a b) 0 w) := by
  go_enter Tryd.func26, Tryd.ntmps26
  go_wp2_with (go_at_call 40; refine (truth_any _ _).mono ?_; rintro e w' ⟨rfl, rfl⟩)
  go_ret2
  exact ends_of rfl rfl
theorem do_more : Calls Tryd.prog 26 #[.int .u8 14, .int .i64 a, .int .i64 b] w (DoEnds (moreV a b) 0 w) := by
  go_enter Tryd.func26, Tryd.ntmps26
  go_wp2_with (go_at_call 40; refine (truth_any _ _).mono ?_; rintro e w' ⟨rfl, rfl⟩)
  go_ret2
  exact ends_of rfl rfl
theorem do_least : Calls Tryd.prog 26 #[.int .u8 15, .int .i64 a, .int .i64 b] w (DoEnds (leastV a b) 0 w) := by
  go_enter Tryd.func26, Tryd.ntmps26
  go_wp2_with (go_at_call 40; refine (truth_any _ _).mono ?_; rintro e w' ⟨rfl, rfl⟩)
  go_ret2
  exact ends_of rfl rfl
theorem do_same : Calls Tryd.prog 26 #[.int .u8 16, .int .i64 a, .int .i64 b] w (DoEnds (sameV a b) 0 w) := by
  go_enter Tryd.func26, Tryd.ntmps26
  go_wp2_with (go_at_call 40; refine (truth_any _ _).mono ?_; rintro e w' ⟨rfl, rfl⟩)
  go_ret2
  exact ends_of (congrArg b2i (dec_eq _ _)) rfl
theorem do_other : Calls Tryd.prog 26 #[.int .u8 17, .int .i64 a, .int .i64 b] w (DoEnds (otherV a b) 0 w) := by
  go_enter Tryd.func26, Tryd.ntmps26
  go_wp2_with (go_at_call 40; refine (truth_any _ _).mono ?_; rintro e w' ⟨rfl, rfl⟩)
  go_ret2
  exact ends_of (congrArg b2i (congrArg not (dec_eq _ _))) rfl
theorem do_and : Calls Tryd.prog 26 #[.int .u8 18, .int .i64 a, .int .i64 b] w (DoEnds (andV a b) 0 w) := by
  by_cases ha : a = 0
  · subst ha
    go_enter Tryd.func26, Tryd.ntmps26
    go_wp2_with (go_at_call 40; refine (truth_any _ _).mono ?_; rintro e w' ⟨rfl, rfl⟩)
    go_ret2
    exact ends_of rfl rfl
  · have h1 : (a != 0) = true := by simp [ha]
    have H : Hid (andV a b = b2i (b != 0)) := Lib.hid (by unfold andV; rw [show (b != 0) = !decide (b = 0) from congrArg not (dec_eq b 0)]; simp [ha])
    clear ha
    go_enter Tryd.func26, Tryd.ntmps26
    go_wp2_with (go_at_call 40; refine (truth_any _ _).mono ?_; rintro e w' ⟨rfl, rfl⟩)
    go_ret2
    exact ends_of H.out.symm rfl
theorem do_or : Calls Tryd.prog 26 #[.int .u8 19, .int .i64 a, .int .i64 b] w (DoEnds (orV a b) 0 w) := by
  by_cases ha : a = 0
  · subst ha
    have H : Hid (orV 0 b = b2i (b != 0)) := Lib.hid (by unfold orV; rw [show (b != 0) = !decide (b = 0) from congrArg not (dec_eq b 0)]; simp)
    go_enter Tryd.func26, Tryd.ntmps26
    go_wp2_with (go_at_call 40; refine (truth_any _ _).mono ?_; rintro e w' ⟨rfl, rfl⟩)
    go_ret2
    exact ends_of H.out.symm rfl
  · have h1 : (a != 0) = true := by simp [ha]
    have H : Hid (orV a b = b2i true) := Lib.hid (by unfold orV; simp [ha])
    clear ha
    go_enter Tryd.func26, Tryd.ntmps26
    go_wp2_with (go_at_call 40; refine (truth_any _ _).mono ?_; rintro e w' ⟨rfl, rfl⟩)
    go_ret2
    exact ends_of H.out.symm rfl
theorem do_bad (k : Int) (h : k < 5 ∨ 19 < k) : Calls Tryd.prog 26 #[.int .u8 k, .int .i64 a, .int .i64 b] w (DoEnds 0 2 w) := by
  have h5 : (k == 5) = false := beq_eq_false_iff_ne.2 (by omega)
  have h6 : (k == 6) = false := beq_eq_false_iff_ne.2 (by omega)
  have h7 : (k == 7) = false := beq_eq_false_iff_ne.2 (by omega)
  have h8 : (k == 8) = false := beq_eq_false_iff_ne.2 (by omega)
  have h9 : (k == 9) = false := beq_eq_false_iff_ne.2 (by omega)
  have h10 : (k == 10) = false := beq_eq_false_iff_ne.2 (by omega)
  have h11 : (k == 11) = false := beq_eq_false_iff_ne.2 (by omega)
  have h12 : (k == 12) = false := beq_eq_false_iff_ne.2 (by omega)
  have h13 : (k == 13) = false := beq_eq_false_iff_ne.2 (by omega)
  have h14 : (k == 14) = false := beq_eq_false_iff_ne.2 (by omega)
  have h15 : (k == 15) = false := beq_eq_false_iff_ne.2 (by omega)
  have h16 : (k == 16) = false := beq_eq_false_iff_ne.2 (by omega)
  have h17 : (k == 17) = false := beq_eq_false_iff_ne.2 (by omega)
  have h18 : (k == 18) = false := beq_eq_false_iff_ne.2 (by omega)
  have h19 : (k == 19) = false := beq_eq_false_iff_ne.2 (by omega)
  clear h
  go_enter Tryd.func26, Tryd.ntmps26
  go_wp2_with fail
  go_ret2
  exact ends_of rfl rfl

/-- What Do returns for any kind: the error is ErrArg (2) unless the kind is an operator. -/
def doE (k : Int) : Int := if k < 5 ∨ 19 < k then 2 else 0
theorem do_any (k : Int) : Calls Tryd.prog 26 #[.int .u8 k, .int .i64 a, .int .i64 b] w (DoEnds (opV k a b) (doE k) w) := by
  by_cases h : k < 5 ∨ 19 < k
  · have e1 : opV k a b = 0 := opV_bad a b h
    have e2 : doE k = 2 := if_pos h
    rw [e1, e2]
    exact do_bad a b w k h
  · have e2 : doE k = 0 := if_neg h
    rw [e2]
    have hk : k = 5 ∨ k = 6 ∨ k = 7 ∨ k = 8 ∨ k = 9 ∨ k = 10 ∨ k = 11 ∨ k = 12 ∨ k = 13 ∨ k = 14 ∨ k = 15 ∨ k = 16 ∨ k = 17 ∨ k = 18 ∨ k = 19 := by omega
    rcases hk with rfl | rfl | rfl | rfl | rfl | rfl | rfl | rfl | rfl | rfl | rfl | rfl | rfl | rfl | rfl
    · exact do_neg a b w
    · exact do_not a b w
    · exact do_mul a b w
    · exact do_add a b w
    · exact do_sub a b w
    · exact do_shl a b w
    · exact do_shr a b w
    · exact do_less a b w
    · exact do_most a b w
    · exact do_more a b w
    · exact do_least a b w
    · exact do_same a b w
    · exact do_other a b w
    · exact do_and a b w
    · exact do_or a b w
end
end Go.Proofs.YtflmpjejlkhpcaaDoor

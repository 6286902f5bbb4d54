/-
  Contracts of the reference of layer 1: Truth, Count, power, half, Compare, Given and Do give what package ints gives.
-/
import Derived.Test.YtflmpjejlkhpcaaDoorIntsDo
import Derived.LoopTactic
namespace Go.Proofs.YtflmpjejlkhpcaaDoor
open Go.ChangeShapes Go.WideShapes Go.ChangeAt Go.RowKit

theorem refTruth_any (c : Bool) (w : World) : Calls Tryd.prog 51 #[.bool c] w fun e w' => e = .returned (.int .i64 (b2i c)) ∧ w = w' := by
  cases c
  · go_enter Tryd.func51, Tryd.ntmps51
    go_wp2
    go_ret
    exact ⟨rfl, rfl⟩
  · go_enter Tryd.func51, Tryd.ntmps51
    go_wp2
    go_ret
    exact ⟨rfl, rfl⟩
theorem refCount_any (b : Int) (w : World) : Calls Tryd.prog 53 #[.int .i64 b] w fun e w' => e = .returned (.int .i64 (b % 64)) ∧ w = w' := by
  go_enter Tryd.func53, Tryd.ntmps53
  go_wp2
  go_ret
  exact ⟨congrArg (fun x => Ending.returned (.int .i64 x)) (by rw [rem64, IntWalk.wrap64_in _ (by omega)]), rfl⟩
theorem quo_two (a : Int) : (0 ≤ a → a.tdiv 2 = a / 2 ∧ a.tmod 2 = a % 2) ∧ (a < 0 → a.tdiv 2 = -((-a) / 2) ∧ a.tmod 2 = -((-a) % 2)) := by
  refine ⟨fun h => ⟨Int.tdiv_eq_ediv_of_nonneg h, Int.tmod_eq_emod_of_nonneg h⟩, fun h => ?_⟩
  have hb : 0 ≤ -a := by omega
  have e : a = -(-a) := by omega
  constructor
  · rw [← Int.tdiv_eq_ediv_of_nonneg hb, ← Int.neg_tdiv, ← e]
  · rw [← Int.tmod_eq_emod_of_nonneg hb, ← Int.neg_tmod, ← e]
theorem half_eq {a : Int} (h : a.tmod 2 < 0) (ha : I64 a) : wrap64 (a.tdiv 2 - 1) = a / 2 := by
  have q := quo_two a
  unfold I64 at ha; unfold wrap64
  by_cases h0 : 0 ≤ a
  · have := q.1 h0; omega
  · have := q.2 (by omega); omega
theorem half_eq' {a : Int} (h : 0 ≤ a.tmod 2) : a.tdiv 2 = a / 2 := by
  have q := quo_two a
  by_cases h0 : 0 ≤ a
  · have := q.1 h0; omega
  · have := q.2 (by omega); omega
theorem refHalf_any (a : Int) (h : I64 a) (w : World) : Calls Tryd.prog 54 #[.int .i64 a] w fun e w' => e = .returned (.int .i64 (a / 2)) ∧ w = w' := by
  have h0 : -9223372036854775808 ≤ a := h.1
  have h1 : a ≤ 9223372036854775807 := h.2
  go_enter Tryd.func54, Tryd.ntmps54
  go_wp2
  · go_ret
    exact ⟨congrArg (fun x => Ending.returned (.int .i64 x)) (half_eq ‹_› h), rfl⟩
  · go_ret
    exact ⟨congrArg (fun x => Ending.returned (.int .i64 x)) (half_eq' ‹_›), rfl⟩

theorem pow_double (k : Nat) : wrap64 (wrap64 (2 ^ k) + wrap64 (2 ^ k)) = wrap64 (2 ^ (k + 1)) := by
  rw [wrap64_add_left, wrap64_add_right, Int.pow_succ]; congr 1; omega
theorem refPower_any (n : Int) (h0 : 0 ≤ n) (h1 : n ≤ 63) (w : World) : Calls Tryd.prog 52 #[.int .i64 n] w fun e w' => e = .returned (.int .i64 (wrap64 (2 ^ n.toNat))) ∧ w = w' := by
  obtain ⟨m, rfl⟩ := Int.eq_ofNat_of_zero_le h0
  have hm : m ≤ 63 := by omega
  clear h0 h1
  go_enter Tryd.func52, Tryd.ntmps52
  go_wp2
  go_loop [3, 4] (fun x i => ∃ k : Nat, k ≤ m ∧ i = .int .i64 k ∧ x = .int .i64 (wrap64 (2 ^ k))) (fun _ i => m - (intOf i).toNat)
  case atStart => exact ⟨0, Nat.zero_le _, rfl, congrArg (Value.int .i64) (show (1 : Int) = wrap64 (2 ^ 0) by decide +kernel)⟩
  case round =>
    obtain ⟨k, hk, rfl, rfl⟩ := hrel
    have HP := Lib.hid (pow_double k)
    by_cases hlt : k < m
    · go_wp2
      go_round
      case rel => exact ⟨k + 1, by omega, by go_num, congrArg (Value.int .i64) HP.out⟩
      case measure => simp [intOf]; omega
    · go_wp2
      go_ret
      obtain rfl : k = m := by omega
      exact ⟨rfl, rfl⟩

section
variable (a b : Int) (w : World)
theorem refCompare_less : Calls Tryd.prog 55 #[.int .u8 12, .int .i64 a, .int .i64 b] w fun e w' => e = .returned (.bool (decide (a < b))) ∧ w = w' := by
  go_enter Tryd.func55, Tryd.ntmps55
  go_wp2
  go_ret
  exact ⟨rfl, rfl⟩
theorem refCompare_most : Calls Tryd.prog 55 #[.int .u8 13, .int .i64 a, .int .i64 b] w fun e w' => e = .returned (.bool (decide (a ≤ b))) ∧ w = w' := by
  by_cases h : a < b
  · have hd : decide (a < b) = true := decide_eq_true h
    have hv : decide (a ≤ b) = true := by simp; omega
    have H := Lib.hid hv
    clear hv
    go_enter Tryd.func55, Tryd.ntmps55
    go_wp2
    go_ret
    exact ⟨congrArg (fun x => Ending.returned (.bool x)) H.out.symm, rfl⟩
  · have hd : decide (a < b) = false := decide_eq_false h
    have hv : decide (a ≤ b) = (a == b) := by rw [dec_eq]; by_cases g : a = b <;> simp [g] <;> omega
    have H := Lib.hid hv
    clear hv
    go_enter Tryd.func55, Tryd.ntmps55
    go_wp2
    go_ret
    exact ⟨congrArg (fun x => Ending.returned (.bool x)) H.out.symm, rfl⟩
theorem refCompare_more : Calls Tryd.prog 55 #[.int .u8 14, .int .i64 a, .int .i64 b] w fun e w' => e = .returned (.bool (decide (b < a))) ∧ w = w' := by
  go_enter Tryd.func55, Tryd.ntmps55
  go_wp2
  go_ret
  exact ⟨rfl, rfl⟩
theorem refCompare_least : Calls Tryd.prog 55 #[.int .u8 15, .int .i64 a, .int .i64 b] w fun e w' => e = .returned (.bool (decide (b ≤ a))) ∧ w = w' := by
  by_cases h : b < a
  · have hd : decide (b < a) = true := decide_eq_true h
    have hv : decide (b ≤ a) = true := by simp; omega
    have H := Lib.hid hv
    clear hv
    go_enter Tryd.func55, Tryd.ntmps55
    go_wp2
    go_ret
    exact ⟨congrArg (fun x => Ending.returned (.bool x)) H.out.symm, rfl⟩
  · have hd : decide (b < a) = false := decide_eq_false h
    have hv : decide (b ≤ a) = (a == b) := by rw [dec_eq]; by_cases g : a = b <;> simp [g] <;> omega
    have H := Lib.hid hv
    clear hv
    go_enter Tryd.func55, Tryd.ntmps55
    go_wp2
    go_ret
    exact ⟨congrArg (fun x => Ending.returned (.bool x)) H.out.symm, rfl⟩
theorem refCompare_same : Calls Tryd.prog 55 #[.int .u8 16, .int .i64 a, .int .i64 b] w fun e w' => e = .returned (.bool (decide (a = b))) ∧ w = w' := by
  go_enter Tryd.func55, Tryd.ntmps55
  go_wp2
  go_ret
  exact ⟨congrArg (fun x => Ending.returned (.bool x)) (dec_eq a b), rfl⟩
theorem refCompare_other : Calls Tryd.prog 55 #[.int .u8 17, .int .i64 a, .int .i64 b] w fun e w' => e = .returned (.bool (!decide (a = b))) ∧ w = w' := by
  go_enter Tryd.func55, Tryd.ntmps55
  go_wp2
  go_ret
  exact ⟨congrArg (fun x => Ending.returned (.bool (!x))) (dec_eq a b), rfl⟩
theorem refGiven_neg : Calls Tryd.prog 45 #[.int .u8 5, .int .i64 a, .int .i64 b] w fun e w' => e = .returned (.int .i64 (negV a)) ∧ w = w' := by
  go_enter Tryd.func45, Tryd.ntmps45
  go_wp2_with (fail)
  go_ret
  exact ⟨rfl, rfl⟩
theorem refGiven_not : Calls Tryd.prog 45 #[.int .u8 6, .int .i64 a, .int .i64 b] w fun e w' => e = .returned (.int .i64 (notV a)) ∧ w = w' := by
  go_enter Tryd.func45, Tryd.ntmps45
  go_wp2_with (go_at_call 51; refine (refTruth_any _ _).mono ?_; rintro e w' ⟨rfl, rfl⟩)
  go_ret
  exact ⟨congrArg (fun x => Ending.returned (.int .i64 (b2i x))) (dec_eq a 0), rfl⟩
theorem refGiven_mul : Calls Tryd.prog 45 #[.int .u8 7, .int .i64 a, .int .i64 b] w fun e w' => e = .returned (.int .i64 (mulV a b)) ∧ w = w' := by
  go_enter Tryd.func45, Tryd.ntmps45
  go_wp2_with (fail)
  go_ret
  exact ⟨rfl, rfl⟩
theorem refGiven_add : Calls Tryd.prog 45 #[.int .u8 8, .int .i64 a, .int .i64 b] w fun e w' => e = .returned (.int .i64 (addV a b)) ∧ w = w' := by
  go_enter Tryd.func45, Tryd.ntmps45
  go_wp2_with (fail)
  go_ret
  exact ⟨rfl, rfl⟩
theorem refGiven_sub : Calls Tryd.prog 45 #[.int .u8 9, .int .i64 a, .int .i64 b] w fun e w' => e = .returned (.int .i64 (subV a b)) ∧ w = w' := by
  go_enter Tryd.func45, Tryd.ntmps45
  go_wp2_with (fail)
  go_ret
  exact ⟨rfl, rfl⟩
theorem refGiven_less : Calls Tryd.prog 45 #[.int .u8 12, .int .i64 a, .int .i64 b] w fun e w' => e = .returned (.int .i64 (lessV a b)) ∧ w = w' := by
  go_enter Tryd.func45, Tryd.ntmps45
  go_wp2_with (first | (go_at_call 51; refine (refTruth_any _ _).mono ?_; rintro e w' ⟨rfl, rfl⟩) | (go_at_call 55; refine (refCompare_less _ _ _).mono ?_; rintro e w' ⟨rfl, rfl⟩))
  go_ret
  exact ⟨rfl, rfl⟩
theorem refGiven_most : Calls Tryd.prog 45 #[.int .u8 13, .int .i64 a, .int .i64 b] w fun e w' => e = .returned (.int .i64 (mostV a b)) ∧ w = w' := by
  go_enter Tryd.func45, Tryd.ntmps45
  go_wp2_with (first | (go_at_call 51; refine (refTruth_any _ _).mono ?_; rintro e w' ⟨rfl, rfl⟩) | (go_at_call 55; refine (refCompare_most _ _ _).mono ?_; rintro e w' ⟨rfl, rfl⟩))
  go_ret
  exact ⟨rfl, rfl⟩
theorem refGiven_more : Calls Tryd.prog 45 #[.int .u8 14, .int .i64 a, .int .i64 b] w fun e w' => e = .returned (.int .i64 (moreV a b)) ∧ w = w' := by
  go_enter Tryd.func45, Tryd.ntmps45
  go_wp2_with (first | (go_at_call 51; refine (refTruth_any _ _).mono ?_; rintro e w' ⟨rfl, rfl⟩) | (go_at_call 55; refine (refCompare_more _ _ _).mono ?_; rintro e w' ⟨rfl, rfl⟩))
  go_ret
  exact ⟨rfl, rfl⟩
theorem refGiven_least : Calls Tryd.prog 45 #[.int .u8 15, .int .i64 a, .int .i64 b] w fun e w' => e = .returned (.int .i64 (leastV a b)) ∧ w = w' := by
  go_enter Tryd.func45, Tryd.ntmps45
  go_wp2_with (first | (go_at_call 51; refine (refTruth_any _ _).mono ?_; rintro e w' ⟨rfl, rfl⟩) | (go_at_call 55; refine (refCompare_least _ _ _).mono ?_; rintro e w' ⟨rfl, rfl⟩))
  go_ret
  exact ⟨rfl, rfl⟩
theorem refGiven_same : Calls Tryd.prog 45 #[.int .u8 16, .int .i64 a, .int .i64 b] w fun e w' => e = .returned (.int .i64 (sameV a b)) ∧ w = w' := by
  go_enter Tryd.func45, Tryd.ntmps45
  go_wp2_with (first | (go_at_call 51; refine (refTruth_any _ _).mono ?_; rintro e w' ⟨rfl, rfl⟩) | (go_at_call 55; refine (refCompare_same _ _ _).mono ?_; rintro e w' ⟨rfl, rfl⟩))
  go_ret
  exact ⟨rfl, rfl⟩
theorem refGiven_other : Calls Tryd.prog 45 #[.int .u8 17, .int .i64 a, .int .i64 b] w fun e w' => e = .returned (.int .i64 (otherV a b)) ∧ w = w' := by
  go_enter Tryd.func45, Tryd.ntmps45
  go_wp2_with (first | (go_at_call 51; refine (refTruth_any _ _).mono ?_; rintro e w' ⟨rfl, rfl⟩) | (go_at_call 55; refine (refCompare_other _ _ _).mono ?_; rintro e w' ⟨rfl, rfl⟩))
  go_ret
  exact ⟨rfl, rfl⟩
theorem refGiven_shl : Calls Tryd.prog 45 #[.int .u8 10, .int .i64 a, .int .i64 b] w fun e w' => e = .returned (.int .i64 (shlV a b)) ∧ w = w' := by
  have h0 : 0 ≤ b % 64 := (mod64_range b).1
  have h1 : b % 64 ≤ 63 := by have := (mod64_range b).2; omega
  have H : Hid (wrap64 (a * wrap64 (2 ^ (b % 64).toNat)) = shlV a b) := Lib.hid (wrap64_mul_right _ _)
  go_enter Tryd.func45, Tryd.ntmps45
  go_wp2_with (first | (go_at_call 53; refine (refCount_any _ _).mono ?_; rintro e w' ⟨rfl, rfl⟩) | (go_at_call 52; refine (refPower_any _ h0 h1 _).mono ?_; rintro e w' ⟨rfl, rfl⟩))
  go_ret
  exact ⟨congrArg (fun x => Ending.returned (.int .i64 x)) H.out, rfl⟩
theorem shr_step (a : Int) (k : Nat) : a / 2 ^ k / 2 = a / 2 ^ (k + 1) := by
  have hp : (0 : Int) ≤ 2 ^ k := Int.pow_nonneg (by decide)
  rw [Int.pow_succ, Int.ediv_ediv_of_nonneg hp]
theorem refGiven_shr (ha : I64 a) : Calls Tryd.prog 45 #[.int .u8 11, .int .i64 a, .int .i64 b] w fun e w' => e = .returned (.int .i64 (shrV a b)) ∧ w = w' := by
  have H : Hid (shrV a b = a / 2 ^ (b % 64).toNat) := Lib.hid rfl
  obtain ⟨n, hn0⟩ : ∃ n : Nat, b % 64 = n := ⟨(b % 64).toNat, by omega⟩
  have hn : n ≤ 63 := by omega
  have HB : Hid (b % 64 = n) := Lib.hid hn0
  have C : ∀ W : World, Calls Tryd.prog 53 #[.int .i64 b] W fun e w' => e = .returned (.int .i64 n) ∧ W = w' := fun W => by rw [← HB.out]; exact refCount_any b W
  have HC := Lib.hid C
  clear hn0 C
  go_enter Tryd.func45, Tryd.ntmps45
  go_wp2_with fail
  go_loop [1, 7] (fun x i => ∃ k : Nat, k ≤ n ∧ i = .int .i64 k ∧ x = .int .i64 (a / 2 ^ k)) (fun _ i => n - (intOf i).toNat)
  case atStart => exact ⟨0, Nat.zero_le _, rfl, congrArg (Value.int .i64) (by simp)⟩
  case round =>
    obtain ⟨k, hk, rfl, rfl⟩ := hrel
    have HP := Lib.hid (shr_step a k)
    have hi := div_pow_i64 ha k
    by_cases hlt : k < n
    · go_wp2_with (first | (go_at_call 53; refine (HC.out _).mono ?_; rintro e w' ⟨rfl, rfl⟩) | (go_at_call 54; refine (refHalf_any _ hi _).mono ?_; rintro e w' ⟨rfl, rfl⟩))
      go_round
      case rel => exact ⟨k + 1, by omega, by go_num, congrArg (Value.int .i64) HP.out⟩
      case measure => simp [intOf]; omega
    · go_wp2_with (go_at_call 53; refine (HC.out _).mono ?_; rintro e w' ⟨rfl, rfl⟩)
      go_ret
      obtain rfl : k = n := by omega
      exact ⟨congrArg (fun x => Ending.returned (.int .i64 x)) (by rw [H.out, HB.out]; simp), rfl⟩
theorem refGiven_and : Calls Tryd.prog 45 #[.int .u8 18, .int .i64 a, .int .i64 b] w fun e w' => e = .returned (.int .i64 (andV a b)) ∧ w = w' := by
  by_cases ha : a = 0
  · subst ha
    have H : Hid (andV 0 b = b2i (false)) := Lib.hid (by unfold andV; simp)
    go_enter Tryd.func45, Tryd.ntmps45
    go_wp2_with (go_at_call 51; refine (refTruth_any _ _).mono ?_; rintro e w' ⟨rfl, rfl⟩)
    go_ret
    exact ⟨congrArg (fun x => Ending.returned (.int .i64 x)) H.out.symm, rfl⟩
  · have h1 : (a != 0) = true := by simp [ha]
    have H : Hid (andV a b = b2i (b != 0)) := Lib.hid (by unfold andV; rw [show (b != 0) = !decide (b = 0) from congrArg not (dec_eq b 0)]; simp [ha])
    clear ha
    go_enter Tryd.func45, Tryd.ntmps45
    go_wp2_with (go_at_call 51; refine (refTruth_any _ _).mono ?_; rintro e w' ⟨rfl, rfl⟩)
    go_ret
    exact ⟨congrArg (fun x => Ending.returned (.int .i64 x)) H.out.symm, rfl⟩
theorem refGiven_or : Calls Tryd.prog 45 #[.int .u8 19, .int .i64 a, .int .i64 b] w fun e w' => e = .returned (.int .i64 (orV a b)) ∧ w = w' := by
  by_cases ha : a = 0
  · subst ha
    have H : Hid (orV 0 b = b2i (b != 0)) := Lib.hid (by unfold orV; rw [show (b != 0) = !decide (b = 0) from congrArg not (dec_eq b 0)]; simp)
    go_enter Tryd.func45, Tryd.ntmps45
    go_wp2_with (go_at_call 51; refine (refTruth_any _ _).mono ?_; rintro e w' ⟨rfl, rfl⟩)
    go_ret
    exact ⟨congrArg (fun x => Ending.returned (.int .i64 x)) H.out.symm, rfl⟩
  · have h1 : (a != 0) = true := by simp [ha]
    have H : Hid (orV a b = b2i (true)) := Lib.hid (by unfold orV; simp [ha])
    clear ha
    go_enter Tryd.func45, Tryd.ntmps45
    go_wp2_with (go_at_call 51; refine (refTruth_any _ _).mono ?_; rintro e w' ⟨rfl, rfl⟩)
    go_ret
    exact ⟨congrArg (fun x => Ending.returned (.int .i64 x)) H.out.symm, rfl⟩
theorem refGiven_any (k : Int) (h : 5 ≤ k) (h' : k ≤ 19) (ha : I64 a) : Calls Tryd.prog 45 #[.int .u8 k, .int .i64 a, .int .i64 b] w fun e w' => e = .returned (.int .i64 (opV k a b)) ∧ w = w' := by
  have hk : k = 5 ∨ k = 6 ∨ k = 7 ∨ k = 8 ∨ k = 9 ∨ k = 10 ∨ k = 11 ∨ k = 12 ∨ k = 13 ∨ k = 14 ∨ k = 15 ∨ k = 16 ∨ k = 17 ∨ k = 18 ∨ k = 19 := by omega
  rcases hk with rfl | rfl | rfl | rfl | rfl | rfl | rfl | rfl | rfl | rfl | rfl | rfl | rfl | rfl | rfl
  · exact refGiven_neg a b w
  · exact refGiven_not a b w
  · exact refGiven_mul a b w
  · exact refGiven_add a b w
  · exact refGiven_sub a b w
  · exact refGiven_shl a b w
  · exact refGiven_shr a b w ha
  · exact refGiven_less a b w
  · exact refGiven_most a b w
  · exact refGiven_more a b w
  · exact refGiven_least a b w
  · exact refGiven_same a b w
  · exact refGiven_other a b w
  · exact refGiven_and a b w
  · exact refGiven_or a b w
end

end Go.Proofs.YtflmpjejlkhpcaaDoor

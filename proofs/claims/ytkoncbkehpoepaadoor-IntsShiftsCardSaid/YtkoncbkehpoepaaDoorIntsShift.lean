/-
  The walks of layer 1's statement IntsShifts: it returns true for every two int64 numbers.
-/
import Derived.Test.YtkoncbkehpoepaaDoorIntsWalks
namespace Go.Proofs.YtkoncbkehpoepaaDoor
open Go.ChangeShapes Go.WideShapes Go.ChangeAt Go.RowKit

theorem and63_i64 (b : Int) : bits BinOp.and IntKind.i64 b 63 = b % 64 := by
  have e : BitVec.ofInt 64 b &&& BitVec.ofInt 64 63 = BitVec.ofInt 64 (b % 64) := by
    apply BitVec.eq_of_toNat_eq
    rw [BitVec.toNat_and, BitVec.toNat_ofInt, BitVec.toNat_ofInt, BitVec.toNat_ofInt]
    have h63 : ((63 : Int) % ((2 ^ 64 : Nat) : Int)).toNat = 2 ^ 6 - 1 := by decide
    rw [h63, Nat.and_two_pow_sub_one_eq_mod]
    have : ((2 ^ 64 : Nat) : Int) = 18446744073709551616 := by decide
    rw [this]
    omega
  show IntKind.i64.wrap (((BitVec.ofInt 64 b &&& BitVec.ofInt 64 63).toNat : Nat) : Int) = b % 64
  rw [e, BitVec.toNat_ofInt, IntKind.wrap_i64]
  have : ((2 ^ 64 : Nat) : Int) = 18446744073709551616 := by decide
  rw [this]
  omega

theorem pow_pos (n : Nat) : (0 : Int) < 2 ^ n := Int.pow_pos (by decide)
theorem div_pow_neg (a : Int) (n : Nat) : a / 2 ^ n < 0 ↔ a < 0 := by
  have hp := pow_pos n
  constructor
  · intro h
    by_cases g : a < 0
    · exact g
    · have := Int.ediv_nonneg (show 0 ≤ a by omega) (Int.le_of_lt hp); omega
  · intro h; exact Int.ediv_neg_of_neg_of_pos h hp
theorem opV_shl (a b : Int) : opV 10 a b = wrap64 (a * 2 ^ (b % 64).toNat) := rfl
theorem opV_mul (a b : Int) : opV 7 a b = wrap64 (a * b) := rfl
theorem opV_add (a b : Int) : opV 8 a b = wrap64 (a + b) := rfl
theorem opV_shr (a b : Int) : opV 11 a b = a / 2 ^ (b % 64).toNat := rfl
theorem shl_times (a b : Int) : opV 10 a b = opV 7 a (opV 10 1 (b % 64)) := by
  rw [opV_mul, opV_shl, opV_shl, wrap64_mul_right, Int.one_mul, show b % 64 % 64 = b % 64 by omega]
theorem more_mod (b : Int) : opV 8 b 64 % 64 = b % 64 := by
  rw [opV_add]
  unfold wrap64; omega
theorem shl_more (a b : Int) : opV 10 a (opV 8 b 64) = opV 10 a b := by rw [opV_shl, opV_shl, more_mod]
theorem shr_more (a b : Int) : opV 11 a (opV 8 b 64) = opV 11 a b := by rw [opV_shr, opV_shr, more_mod]
theorem pow_le_62 (k : Nat) (h : k ≤ 62) : (2 : Int) ^ k ≤ 4611686018427387904 := by
  have h1 : (2 : Nat) ^ k ≤ 2 ^ 62 := Nat.pow_le_pow_right (by decide) h
  have h2 : ((2 ^ k : Nat) : Int) = (2 : Int) ^ k := by simp
  rw [← h2]
  exact Int.ofNat_le.2 h1
/-- The limit: 2 to the power of 62 - n. -/
theorem limit_eq (n : Int) (h0 : 0 ≤ n) (h1 : n < 63) : wrap64 (2 ^ (62 - min n 62).toNat) = 2 ^ (62 - n).toNat := by
  have e : min n 62 = n := by omega
  rw [e]
  apply wrap64_of_i64
  have hp := pow_pos (62 - n).toNat
  have := pow_le_62 (62 - n).toNat (by omega)
  unfold I64; omega
theorem limit_neg (n : Int) (h0 : 0 ≤ n) (h1 : n < 63) : wrap64 (-wrap64 (2 ^ (62 - min n 62).toNat)) = -2 ^ (62 - n).toNat := by
  rw [limit_eq n h0 h1]
  apply wrap64_of_i64
  have hp := pow_pos (62 - n).toNat
  have := pow_le_62 (62 - n).toNat (by omega)
  unfold I64; omega
/-- Nothing is lost: back is the number. -/
theorem shift_back (a b : Int) (h1 : -2 ^ (62 - b % 64).toNat ≤ a) (h2 : a < 2 ^ (62 - b % 64).toNat) (h3 : b % 64 < 63) : opV 11 (opV 10 a b) b = a := by
  rw [opV_shr, opV_shl]
  have h0 : 0 ≤ b % 64 := (mod64_range b).1
  generalize b % 64 = n at *
  obtain ⟨m, rfl⟩ := Int.eq_ofNat_of_zero_le h0
  have hp := pow_pos m
  have hq : (2 : Int) ^ (62 - (m : Int)).toNat * 2 ^ m = 4611686018427387904 := by
    rw [← Int.pow_add, show (62 - (m : Int)).toNat + m = 62 by omega]; decide
  have l1 := Int.mul_le_mul_of_nonneg_right h1 (Int.le_of_lt hp)
  have l2 := Int.mul_lt_mul_of_pos_right h2 hp
  rw [Int.neg_mul, hq] at l1
  rw [hq] at l2
  simp only [Int.toNat_natCast]
  rw [wrap64_of_i64 (by unfold I64; omega), Int.mul_ediv_cancel _ (by omega)]
theorem shift_back0 (a b : Int) (ha : I64 a) (h : b % 64 = 0) : opV 11 (opV 10 a b) b = a := by
  rw [opV_shr, opV_shl, h]
  show wrap64 (a * 2 ^ 0) / 2 ^ 0 = a
  simp; exact wrap64_of_i64 ha

section
variable (a b n : Int) (w : World) (hf : Fix w) (r0 : 0 ≤ n) (r1 : n ≤ 63) (hb : bits BinOp.and IntKind.i64 b 63 = n)
variable (e1 : (opV 10 a b != opV 7 a (opV 10 1 n)) = false) (e2 : (opV 10 a (opV 8 b 64) != opV 10 a b) = false) (e3 : (opV 11 a (opV 8 b 64) != opV 11 a b) = false)
def ShiftsOk (w : World) (e : Ending) (w' : World) : Prop := e = .returned (.bool true) ∧ Below w.heap.size w w'
include hf r0 r1 hb e1 e2 e3
set_option maxRecDepth 100000 in
set_option maxHeartbeats 1000000 in
theorem shifts_zero (h0 : (n == 0) = true) (g : (opV 11 (opV 10 a b) b == a) = true) :
    Calls Tryd.prog 6 #[.int .i64 a, .int .i64 b] w (ShiftsOk w) := by
  have hf1 := Lib.hid (wrong_fix hf)
  have HC := Lib.hid (wrong_cell w)
  have HZ := Lib.hid (wrong_free w)
  have HK := Lib.hid doE_ok
  clear hf
  go_enter Tryd.func6, Tryd.ntmps6
  go_wp2_with (first | (go_at_call 16; refine (ldo_any _ _ _ ?k1 _ _ HC.out HZ.out).mono ?_; (case k1 => exact HK.out _ (by decide) (by decide)); rintro e w' ⟨rfl, rfl⟩) | (go_at_call 13; refine (alive_any _ hf1.out).mono ?_; rintro e w' ⟨rfl, hb⟩))
  go_ret
  exact ⟨rfl, wrong_below (by assumption)⟩
set_option maxRecDepth 100000 in
set_option maxHeartbeats 1000000 in
theorem shifts_back (h0 : (n == 0) = false) (h63 : n < 63) (lo : wrap64 (-wrap64 (2 ^ (62 - min n 62).toNat)) ≤ a) (hi : a < wrap64 (2 ^ (62 - min n 62).toNat)) (g : (opV 11 (opV 10 a b) b == a) = true) :
    Calls Tryd.prog 6 #[.int .i64 a, .int .i64 b] w (ShiftsOk w) := by
  have hf1 := Lib.hid (wrong_fix hf)
  have HC := Lib.hid (wrong_cell w)
  have HZ := Lib.hid (wrong_free w)
  have HK := Lib.hid doE_ok
  clear hf
  go_enter Tryd.func6, Tryd.ntmps6
  go_wp2_with (first | (go_at_call 16; refine (ldo_any _ _ _ ?k1 _ _ HC.out HZ.out).mono ?_; (case k1 => exact HK.out _ (by decide) (by decide)); rintro e w' ⟨rfl, rfl⟩) | (go_at_call 13; refine (alive_any _ hf1.out).mono ?_; rintro e w' ⟨rfl, hb⟩))
  go_ret
  exact ⟨rfl, wrong_below (by assumption)⟩
set_option maxRecDepth 100000 in
set_option maxHeartbeats 1000000 in
theorem shifts_low (h0 : (n == 0) = false) (h63 : n < 63) (lo : a < wrap64 (-wrap64 (2 ^ (62 - min n 62).toNat))) (g1 : opV 11 a b < 0) (g2 : a < 0) :
    Calls Tryd.prog 6 #[.int .i64 a, .int .i64 b] w (ShiftsOk w) := by
  have hf1 := Lib.hid (wrong_fix hf)
  have HC := Lib.hid (wrong_cell w)
  have HZ := Lib.hid (wrong_free w)
  have HK := Lib.hid doE_ok
  clear hf
  go_enter Tryd.func6, Tryd.ntmps6
  go_wp2_with (first | (go_at_call 16; refine (ldo_any _ _ _ ?k1 _ _ HC.out HZ.out).mono ?_; (case k1 => exact HK.out _ (by decide) (by decide)); rintro e w' ⟨rfl, rfl⟩) | (go_at_call 13; refine (alive_any _ hf1.out).mono ?_; rintro e w' ⟨rfl, hb⟩))
  go_ret
  exact ⟨rfl, wrong_below (by assumption)⟩
set_option maxRecDepth 100000 in
set_option maxHeartbeats 1000000 in
theorem shifts_high (h0 : (n == 0) = false) (h63 : n < 63) (lo : wrap64 (-wrap64 (2 ^ (62 - min n 62).toNat)) ≤ a) (hi : wrap64 (2 ^ (62 - min n 62).toNat) ≤ a) (g1 : 0 ≤ opV 11 a b) (g2 : 0 ≤ a) :
    Calls Tryd.prog 6 #[.int .i64 a, .int .i64 b] w (ShiftsOk w) := by
  have hf1 := Lib.hid (wrong_fix hf)
  have HC := Lib.hid (wrong_cell w)
  have HZ := Lib.hid (wrong_free w)
  have HK := Lib.hid doE_ok
  clear hf
  go_enter Tryd.func6, Tryd.ntmps6
  go_wp2_with (first | (go_at_call 16; refine (ldo_any _ _ _ ?k1 _ _ HC.out HZ.out).mono ?_; (case k1 => exact HK.out _ (by decide) (by decide)); rintro e w' ⟨rfl, rfl⟩) | (go_at_call 13; refine (alive_any _ hf1.out).mono ?_; rintro e w' ⟨rfl, hb⟩))
  go_ret
  exact ⟨rfl, wrong_below (by assumption)⟩
set_option maxRecDepth 100000 in
set_option maxHeartbeats 1000000 in
theorem shifts_far_neg (h0 : (n == 0) = false) (h63 : ¬ n < 63) (g1 : opV 11 a b < 0) (g2 : a < 0) :
    Calls Tryd.prog 6 #[.int .i64 a, .int .i64 b] w (ShiftsOk w) := by
  have hf1 := Lib.hid (wrong_fix hf)
  have HC := Lib.hid (wrong_cell w)
  have HZ := Lib.hid (wrong_free w)
  have HK := Lib.hid doE_ok
  clear hf
  go_enter Tryd.func6, Tryd.ntmps6
  go_wp2_with (first | (go_at_call 16; refine (ldo_any _ _ _ ?k1 _ _ HC.out HZ.out).mono ?_; (case k1 => exact HK.out _ (by decide) (by decide)); rintro e w' ⟨rfl, rfl⟩) | (go_at_call 13; refine (alive_any _ hf1.out).mono ?_; rintro e w' ⟨rfl, hb⟩))
  go_ret
  exact ⟨rfl, wrong_below (by assumption)⟩
set_option maxRecDepth 100000 in
set_option maxHeartbeats 1000000 in
theorem shifts_far_pos (h0 : (n == 0) = false) (h63 : ¬ n < 63) (g1 : 0 ≤ opV 11 a b) (g2 : 0 ≤ a) :
    Calls Tryd.prog 6 #[.int .i64 a, .int .i64 b] w (ShiftsOk w) := by
  have hf1 := Lib.hid (wrong_fix hf)
  have HC := Lib.hid (wrong_cell w)
  have HZ := Lib.hid (wrong_free w)
  have HK := Lib.hid doE_ok
  clear hf
  go_enter Tryd.func6, Tryd.ntmps6
  go_wp2_with (first | (go_at_call 16; refine (ldo_any _ _ _ ?k1 _ _ HC.out HZ.out).mono ?_; (case k1 => exact HK.out _ (by decide) (by decide)); rintro e w' ⟨rfl, rfl⟩) | (go_at_call 13; refine (alive_any _ hf1.out).mono ?_; rintro e w' ⟨rfl, hb⟩))
  go_ret
  exact ⟨rfl, wrong_below (by assumption)⟩
end
theorem shifts_walk (a b : Int) (ha : I64 a) (w : World) (hf : Fix w) :
    Calls Tryd.prog 6 #[.int .i64 a, .int .i64 b] w fun e w' => e = .returned (.bool true) ∧ Below w.heap.size w w' := by
  have e1 : (opV 10 a b != opV 7 a (opV 10 1 (b % 64))) = false := bne_of_eq (shl_times a b)
  have e2 : (opV 10 a (opV 8 b 64) != opV 10 a b) = false := bne_of_eq (shl_more a b)
  have e3 : (opV 11 a (opV 8 b 64) != opV 11 a b) = false := bne_of_eq (shr_more a b)
  have r := mod64_range b
  have r1 : b % 64 ≤ 63 := by omega
  have sg := div_pow_neg a (b % 64).toNat
  rw [← opV_shr] at sg
  by_cases h0 : b % 64 = 0
  · exact shifts_zero a b _ w hf r.1 r1 (and63_i64 b) e1 e2 e3 (beq_iff_eq.2 h0) (beq_iff_eq.2 (shift_back0 a b ha h0))
  · have h0' : (b % 64 == 0) = false := beq_eq_false_iff_ne.2 h0
    by_cases h63 : b % 64 < 63
    · have le := limit_eq _ r.1 h63
      have ln := limit_neg _ r.1 h63
      by_cases lo : -2 ^ (62 - b % 64).toNat ≤ a
      · by_cases hi : a < 2 ^ (62 - b % 64).toNat
        · exact shifts_back a b _ w hf r.1 r1 (and63_i64 b) e1 e2 e3 h0' h63 (by rw [ln]; exact lo) (by rw [le]; exact hi) (beq_iff_eq.2 (shift_back a b lo hi h63))
        · have hp := pow_pos (62 - b % 64).toNat
          have ga : 0 ≤ a := by omega
          exact shifts_high a b _ w hf r.1 r1 (and63_i64 b) e1 e2 e3 h0' h63 (by rw [ln]; exact lo) (by rw [le]; omega) (by have := sg; omega) ga
      · have hp := pow_pos (62 - b % 64).toNat
        have ga : a < 0 := by omega
        exact shifts_low a b _ w hf r.1 r1 (and63_i64 b) e1 e2 e3 h0' h63 (by rw [ln]; omega) (sg.2 ga) ga
    · by_cases ga : a < 0
      · exact shifts_far_neg a b _ w hf r.1 r1 (and63_i64 b) e1 e2 e3 h0' h63 (sg.2 ga) ga
      · exact shifts_far_pos a b _ w hf r.1 r1 (and63_i64 b) e1 e2 e3 h0' h63 (by have := sg; omega) (by omega)
end Go.Proofs.YtkoncbkehpoepaaDoor

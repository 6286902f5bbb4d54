/-
  Texts of numbers, plainly: digits, the number that digits are, when it is read, and that the text of a number is read as it. No program in this text.
-/
import Derived.Lib.ParseIntBTie
import Derived.Lib.ParseIntBCases
import Derived.Lib.ItoaMem
namespace Go.Proofs.YtdinaedknlkicaaGreatDoor
open Go.Lib

def isDig (c : UInt8) : Bool := decide (48 ≤ c.toNat) && decide (c.toNat ≤ 57)
/-- Digits: one byte or more, each from 0 to 9. -/
def digB (l : List UInt8) : Bool := !l.isEmpty && l.all isDig
/-- The number that digits are, behind those that were acc. -/
def valF (acc : Nat) : List UInt8 → Nat
  | [] => acc
  | c :: r => valF (10 * acc + (c.toNat - 48)) r
def val (l : List UInt8) : Nat := valF 0 l

theorem valF_ge (l : List UInt8) : ∀ acc, acc ≤ valF acc l := by
  induction l with
  | nil => intro acc; exact Nat.le_refl _
  | cons c r ih => intro acc; have := ih (10 * acc + (c.toNat - 48)); unfold valF; omega
theorem valF_append (l r : List UInt8) : ∀ acc, valF acc (l ++ r) = valF (valF acc l) r := by
  induction l with
  | nil => intro acc; rfl
  | cons c t ih => intro acc; exact ih _

/-- What is read of digits. -/
theorem parseUint10_dig (l : List UInt8) : ∀ acc, l.all isDig = true → acc < 18446744073709551616 → parseUint10 acc l = if valF acc l < 18446744073709551616 then .ok (valF acc l) else .range := by
  induction l with
  | nil => intro acc _ ha; unfold parseUint10 valF; rw [if_pos ha]
  | cons c r ih =>
    intro acc hd ha
    simp only [List.all_cons, Bool.and_eq_true, isDig, decide_eq_true_eq] at hd
    obtain ⟨⟨h1, h2⟩, h3⟩ := hd
    have ge := valF_ge r (10 * acc + (c.toNat - 48))
    unfold parseUint10 valF
    rw [if_pos ⟨h1, h2⟩]
    by_cases g1 : 1844674407370955162 ≤ acc
    · rw [if_pos g1, if_neg (by omega)]
    · rw [if_neg g1]
      by_cases g2 : 18446744073709551616 ≤ acc * 10 + (c.toNat - 48)
      · rw [if_pos g2, if_neg (by omega)]
      · rw [if_neg g2, Nat.mul_comm acc 10]
        exact ih _ h3 (by omega)
theorem parse_dig {l : List UInt8} (h : digB l = true) : parseIntB 64 l = if val l ≤ 9223372036854775807 then .ok (val l : Int) else .range := by
  unfold digB at h
  simp only [Bool.and_eq_true, Bool.not_eq_true', List.isEmpty_eq_false_iff] at h
  obtain ⟨h1, h2⟩ := h
  match l, h1, h2 with
  | c :: r, _, h2 =>
    have hc := h2
    simp only [List.all_cons, Bool.and_eq_true, isDig, decide_eq_true_eq] at hc
    rw [parseIntB_64]
    unfold atoiAll
    have e := parseUint10_dig (c :: r) 0 h2 (by decide)
    simp only [show ¬ (c.toNat = 43 ∨ c.toNat = 45) by omega, if_false, parseMag, reduceCtorEq]
    rw [e]
    unfold val
    by_cases g : valF 0 (c :: r) < 18446744073709551616
    · rw [if_pos g]
      by_cases g2 : 9223372036854775808 ≤ valF 0 (c :: r)
      · simp only [show ¬ c.toNat = 45 by omega, not_false_eq_true, g2, and_self, if_true]
        rw [if_neg (by omega)]
      · simp only [show ¬ c.toNat = 45 by omega, not_false_eq_true, g2, and_false, false_and, if_false]
        rw [if_pos (by omega)]
    · rw [if_neg g, if_neg (by omega)]

/-! ### The text of a number -/
theorem dig_of_lt {u : Nat} (h : u < 10) : (UInt8.ofNat (48 + u)).toNat = 48 + u := by
  rw [UInt8.toNat_ofNat']; omega
theorem decDigits_all (u : Nat) : (decDigits u).all isDig = true := by
  induction u using Nat.strongRecOn with
  | _ u ih =>
    rw [decDigits]
    by_cases h : u < 10
    · rw [dif_pos h]; simp only [List.all_cons, List.all_nil, isDig, dig_of_lt h, Bool.and_true, Bool.and_eq_true, decide_eq_true_eq]; omega
    · rw [dif_neg h]
      simp only [List.all_append, ih (u / 10) (by omega), List.all_cons, List.all_nil, isDig, dig_of_lt (show u % 10 < 10 by omega), Bool.and_true, Bool.true_and, Bool.and_eq_true, decide_eq_true_eq]; omega
theorem decDigits_ne (u : Nat) : decDigits u ≠ [] := by
  intro h; have := decDigits_length u; rw [h] at this; have := nDigits_pos u; simp at *; omega
theorem val_decDigits (u : Nat) : val (decDigits u) = u := by
  induction u using Nat.strongRecOn with
  | _ u ih =>
    rw [decDigits]
    by_cases h : u < 10
    · rw [dif_pos h]; unfold val valF valF; rw [dig_of_lt h]; omega
    · rw [dif_neg h]
      unfold val at ih ⊢
      rw [valF_append, ih (u / 10) (by omega)]
      unfold valF valF
      rw [dig_of_lt (by omega)]; omega
theorem digB_decDigits (u : Nat) : digB (decDigits u) = true := by
  unfold digB; simp only [decDigits_all, Bool.and_true, Bool.not_eq_true', List.isEmpty_eq_false_iff]; exact decDigits_ne u
theorem decDigits_head (u : Nat) : ∀ c r, decDigits u = c :: r → 48 ≤ c.toNat ∧ c.toNat ≤ 57 := by
  intro c r h
  have := decDigits_all u
  rw [h] at this
  simp only [List.all_cons, Bool.and_eq_true, isDig, decide_eq_true_eq] at this
  exact this.1
theorem decDigits_inj {u v : Nat} (h : decDigits u = decDigits v) : u = v := by rw [← val_decDigits u, h, val_decDigits v]
theorem itoa_inj {n m : Int} (h : itoa n = itoa m) : n = m := by
  unfold itoa at h
  by_cases hn : n < 0 <;> by_cases hm : m < 0 <;> simp only [hn, hm, if_true, if_false] at h
  · have := decDigits_inj (List.cons.inj h).2; omega
  · have := decDigits_head _ _ _ h.symm; simp at this
  · have := decDigits_head _ _ _ h; simp at this
  · have := decDigits_inj h; omega
theorem itoa_ne (n : Int) : itoa n ≠ [] := by
  unfold itoa; by_cases h : n < 0 <;> simp only [h, if_true, if_false]
  · simp
  · exact decDigits_ne _

/-- Zeros in front do not matter. -/
theorem valF_zeros (k : Nat) (l : List UInt8) : valF 0 (List.replicate k 48 ++ l) = valF 0 l := by
  induction k with
  | zero => rfl
  | succ k ih => rw [List.replicate_succ, List.cons_append]; exact ih
theorem digB_zeros (k : Nat) {l : List UInt8} (h : digB l = true) : digB (List.replicate k 48 ++ l) = true := by
  unfold digB at *
  simp only [Bool.and_eq_true, Bool.not_eq_true', List.isEmpty_eq_false_iff, List.all_append] at *
  refine ⟨by simp [h.1], ?_, h.2⟩
  rw [List.all_eq_true]; intro c hc; rw [List.eq_of_mem_replicate hc]; decide

/-! ### The reference's reading: digit by digit, with the bound asked ahead of each. -/
def refRead (n : Nat) : List UInt8 → Option Nat
  | [] => some n
  | c :: r => if (9223372036854775807 - (c.toNat - 48)) / 10 < n then none else refRead (10 * n + (c.toNat - 48)) r
theorem refRead_dig (l : List UInt8) : ∀ n, l.all isDig = true → n ≤ 9223372036854775807 → refRead n l = if valF n l ≤ 9223372036854775807 then some (valF n l) else none := by
  induction l with
  | nil => intro n _ h; unfold refRead valF; rw [if_pos h]
  | cons c r ih =>
    intro n hd hn
    simp only [List.all_cons, Bool.and_eq_true, isDig, decide_eq_true_eq] at hd
    obtain ⟨⟨h1, h2⟩, h3⟩ := hd
    have ge := valF_ge r (10 * n + (c.toNat - 48))
    unfold refRead valF
    by_cases g : (9223372036854775807 - (c.toNat - 48)) / 10 < n
    · rw [if_pos g, if_neg (by omega)]
    · rw [if_neg g]; exact ih _ h3 (by omega)
end Go.Proofs.YtdinaedknlkicaaGreatDoor

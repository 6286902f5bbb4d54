/-
  Contract of the reference of layer 1: Read. (For seats that do not reach its Text; XRefText holds both.)
-/
import Derived.Test.YtgmfelikmjclbaaGreatDoorReadDefs
import Derived.Test.YtgmfelikmjclbaaGreatDoorChecked
import Derived.WalkKit
import Derived.ProofKit
import Derived.OpenShut
import Derived.RowKit3
import Derived.WalkLawsBesides
import Derived.WalkSpells
import Derived.Lib.Hide
import Derived.LoopTactic
namespace Go.Proofs.YtgmfelikmjclbaaGreatDoor
open Go.ChangeShapes Go.WideShapes Go.ChangeAt Go.RowKit

/-! ### The reference's Read -/
theorem dig_at {s : ByteArray} (h : digB s.data.toList = true) (k : Nat) (hk : k < s.size) : 48 ≤ s[k].toNat ∧ s[k].toNat ≤ 57 := by
  unfold digB at h
  simp only [Bool.and_eq_true] at h
  have hm : s[k] ∈ s.data.toList := by
    have : s[k] = s.data.toList[k]'(by simpa using hk) := rfl
    rw [this]; exact List.getElem_mem _
  have := List.all_eq_true.1 h.2 _ hm
  simpa [isDig] using this
theorem drop_at (s : ByteArray) (k : Nat) (hk : k < s.size) : s.data.toList.drop k = s[k] :: s.data.toList.drop (k + 1) := by
  rw [List.drop_eq_getElem_cons (by simpa using hk)]; rfl
def RefReads (v er : Int) (w : World) (e : Ending) (w' : World) : Prop := e = .returned (.tuple #[.int .i64 v, .int .i64 er]) ∧ w = w'

theorem refRead_form (s : ByteArray) (hs : s.size ≤ 281474976710656) (hd : digB s.data.toList = false) (w : World) : Calls Tryz.prog 61 #[.string s] w (RefReads 0 12 w) := by
  by_cases he : s.size = 0
  · have h1 : s.toList.isEmpty = true := by rw [ByteArray.toList_eq, List.isEmpty_iff, ← List.length_eq_zero_iff]; simpa using he
    clear hd
    go_enter Tryz.func61, Tryz.ntmps61
    go_wp2
    go_ret2
    exact ⟨rfl, rfl⟩
  · have h1 : s.toList.isEmpty = false := by
      rw [ByteArray.toList_eq, List.isEmpty_eq_false_iff]; intro h; apply he; have := congrArg List.length h; simpa using this
    have HD := Lib.hid hd
    have HE := Lib.hid he
    clear hd he
    go_enter Tryz.func61, Tryz.ntmps61
    go_wp2
    go_loop [4] (fun i => ∃ k : Nat, k ≤ s.size ∧ i = .int .i64 k ∧ Hid ((s.data.toList.take k).all isDig = true)) (fun i => s.size - (intOf i).toNat)
    case atStart => exact ⟨0, Nat.zero_le _, rfl, Lib.hid rfl⟩
    case round =>
      obtain ⟨k, hk, rfl, hall⟩ := hrel
      by_cases hlt : k < s.size
      · by_cases g1 : (s[k].toNat : Int) < 48
        · go_wp2
          go_ret2
          exact ⟨rfl, rfl⟩
        · by_cases g2 : 57 < (s[k].toNat : Int)
          · go_wp2
            go_ret2
            exact ⟨rfl, rfl⟩
          · have H := Lib.hid (take_all_succ s k hlt hall.out (by omega) (by omega))
            go_wp2
            go_round
            case rel => exact ⟨k + 1, by omega, by go_num, H⟩
            case measure => simp [intOf]; omega
      · exfalso
        obtain rfl : k = s.size := by omega
        have := hall.out
        rw [List.take_of_length_le (by simp)] at this
        have hd := HD.out
        unfold digB at hd
        rw [this, Bool.and_true, Bool.not_eq_false', List.isEmpty_iff, ← List.length_eq_zero_iff] at hd
        exact HE.out (by simpa using hd)

theorem refRead_step (acc : Nat) (c : UInt8) (r : List UInt8) (h1 : 48 ≤ c.toNat) : refRead acc (c :: r) = if (9223372036854775807 - ((c.toNat : Int) - 48)) / 10 < (acc : Int) then none else refRead (10 * acc + (c.toNat - 48)) r := by
  conv => lhs; unfold refRead
  have hc : c.toNat < 256 := c.toNat_lt
  have e : ((9223372036854775807 - (c.toNat - 48)) / 10 < acc) ↔ ((9223372036854775807 - ((c.toNat : Int) - 48)) / 10 < (acc : Int)) := by omega
  by_cases g : (9223372036854775807 - ((c.toNat : Int) - 48)) / 10 < (acc : Int)
  · rw [if_pos g, if_pos (e.2 g)]
  · rw [if_neg g, if_neg (fun h => g (e.1 h))]
/-- What is returned behind the digits. -/
def outV (o : Option Nat) : Int := match o with | some n => n | none => 0
def outE (o : Option Nat) : Int := match o with | some _ => 0 | none => 16
set_option maxHeartbeats 1000000 in
theorem refRead_digits (s : ByteArray) (hs : s.size ≤ 281474976710656) (hd : digB s.data.toList = true) (w : World) : Calls Tryz.prog 61 #[.string s] w (RefReads (outV (refRead 0 s.data.toList)) (outE (refRead 0 s.data.toList)) w) := by
  have h1 : s.toList.isEmpty = false := by
    unfold digB at hd
    rw [ByteArray.toList_eq]; simp only [Bool.and_eq_true, Bool.not_eq_true'] at hd; exact hd.1
  have D := Lib.hid (fun k hk => dig_at hd k hk)
  clear hd
  go_enter Tryz.func61, Tryz.ntmps61
  go_wp2
  go_loop [4] (fun i => ∃ k : Nat, k ≤ s.size ∧ i = .int .i64 k) (fun i => s.size - (intOf i).toNat)
  case atStart => exact ⟨0, Nat.zero_le _, rfl⟩
  case round =>
    obtain ⟨k, hk, rfl⟩ := hrel
    by_cases hlt : k < s.size
    · have g1 : (48 : Int) ≤ (s[k].toNat : Int) := by have := (D.out k hlt).1; omega
      have g2 : (s[k].toNat : Int) ≤ 57 := by have := (D.out k hlt).2; omega
      go_wp2
      go_round
      case rel => exact ⟨k + 1, by omega, by go_num⟩
      case measure => simp [intOf]; omega
    · go_wp2
      go_loop [5, 6] (fun n i => ∃ (j acc : Nat), j ≤ s.size ∧ i = .int .i64 j ∧ n = .int .i64 acc ∧ acc ≤ 9223372036854775807 ∧ Hid (refRead 0 s.data.toList = refRead acc (s.data.toList.drop j))) (fun _ i => s.size - (intOf i).toNat)
      case atStart => exact ⟨0, 0, Nat.zero_le _, rfl, rfl, by omega, Lib.hid rfl⟩
      case round =>
        obtain ⟨j, acc, hj, rfl, rfl, hacc, hrd⟩ := hrel
        by_cases hjt : j < s.size
        · have g1 : (48 : Int) ≤ (s[j].toNat : Int) := by have := (D.out j hjt).1; omega
          have g2 : (s[j].toNat : Int) ≤ 57 := by have := (D.out j hjt).2; omega
          have st := hrd.out
          rw [drop_at s j hjt, refRead_step acc _ _ (by omega)] at st
          by_cases g : (9223372036854775807 - ((s[j].toNat : Int) - 48)) / 10 < (acc : Int)
          · rw [if_pos g] at st
            have ST := Lib.hid st
            clear st
            go_wp2
            go_ret2
            exact ⟨by rw [ST.out]; rfl, rfl⟩
          · rw [if_neg g] at st
            have ST := Lib.hid st
            have hb : 10 * acc + (s[j].toNat - 48) ≤ 9223372036854775807 := by omega
            clear st
            go_wp2
            go_round
            case rel => exact ⟨j + 1, 10 * acc + (s[j].toNat - 48), by omega, by go_num, congrArg (Value.int .i64) (by omega), hb, ST⟩
            case measure => simp [intOf]; omega
        · have ST : Hid (refRead 0 s.data.toList = some acc) := Lib.hid (by
            rw [hrd.out, List.drop_of_length_le (by simp; omega)]; rfl)
          clear hrd
          go_wp2
          go_ret2
          exact ⟨by rw [ST.out]; rfl, rfl⟩
theorem refRead_any (s : ByteArray) (hs : s.size ≤ 281474976710656) (w : World) : Calls Tryz.prog 61 #[.string s] w (RefReads (rdV s.data.toList) (rdE s.data.toList) w) := by
  unfold rdV rdE
  by_cases hd : digB s.data.toList = true
  · have e := refRead_dig s.data.toList 0 (by unfold digB at hd; simp only [Bool.and_eq_true] at hd; exact hd.2) (by decide)
    have h := refRead_digits s hs hd w
    rw [e] at h
    by_cases hv : val s.data.toList ≤ 9223372036854775807
    · rw [if_pos ⟨hd, hv⟩, if_pos hd, if_pos hv]
      rw [show valF 0 s.data.toList = val s.data.toList from rfl, if_pos hv] at h; exact h
    · rw [if_neg (fun h => hv h.2), if_pos hd, if_neg hv]
      rw [show valF 0 s.data.toList = val s.data.toList from rfl, if_neg hv] at h; exact h
  · rw [if_neg (fun h => hd h.1), if_neg hd]; exact refRead_form s hs (by simpa using hd) w
end Go.Proofs.YtgmfelikmjclbaaGreatDoor

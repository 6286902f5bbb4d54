/-
  Contract of package ints: Read, for every text. (For seats that do not reach Text; XIntsText holds both.)
-/
import Derived.Test.YtdinaedknlkicaaGreatDoorReadDefs
import Derived.Test.YtdinaedknlkicaaGreatDoorChecked
import Derived.WalkKit
import Derived.ProofKit
import Derived.OpenShut
import Derived.RowKit3
import Derived.WalkLawsBesides
import Derived.WalkSpells
import Derived.Lib.Hide
import Derived.Test.YtdinaedknlkicaaGreatDoorShelf
import Derived.LoopTactic
import Derived.WalkSmall
import Derived.Lib.SmallJoins
namespace Go.Proofs.YtdinaedknlkicaaGreatDoor
open Go.ChangeShapes Go.WideShapes Go.ChangeAt Go.RowKit

theorem digits_any (s : ByteArray) (w : World) (hs : s.size ≤ maxLen) :
    Calls Tryz.prog 84 #[.string s] w fun e w' => e = .returned (.bool (digB s.data.toList)) ∧ w = w' := by
  unfold maxLen at hs
  go_enter Tryz.func84, Tryz.ntmps84
  go_wp2
  go_loop [3] (fun i => ∃ k : Nat, k ≤ s.size ∧ i = .int .i64 k ∧ Hid ((s.data.toList.take k).all isDig = true)) (fun i => s.size - (intOf i).toNat)
  case atStart => exact ⟨0, Nat.zero_le _, rfl, Lib.hid rfl⟩
  case round =>
    obtain ⟨k, hk, rfl, hall⟩ := hrel
    by_cases hlt : k < s.size
    · by_cases h1 : (s[k].toNat : Int) < 48
      · have H := Lib.hid (not_dig_at s k hlt (by unfold isDig; simp only [show ¬ 48 ≤ s[k].toNat by omega, decide_false, Bool.false_and]))
        go_wp2
        go_ret
        exact ⟨by rw [H.out]; rfl, rfl⟩
      · by_cases h2 : 57 < (s[k].toNat : Int)
        · have H := Lib.hid (not_dig_at s k hlt (by unfold isDig; simp only [show ¬ s[k].toNat ≤ 57 by omega, decide_false, Bool.and_false]))
          go_wp2
          go_ret
          exact ⟨by rw [H.out]; rfl, rfl⟩
        · have H := Lib.hid (take_all_succ s k hlt hall.out (by omega) (by omega))
          go_wp2
          go_round
          case rel => exact ⟨k + 1, by omega, by go_num, H⟩
          case measure => simp [intOf]; omega
    · obtain rfl : k = s.size := by omega
      have H : Hid (digB s.data.toList = !s.toList.isEmpty) := Lib.hid (by
        have := hall.out
        rw [List.take_of_length_le (by simp)] at this
        unfold digB; rw [this, Bool.and_true, ByteArray.toList_eq])
      clear hall
      go_wp2
      go_ret
      exact ⟨by rw [H.out]; rfl, rfl⟩
/-! ### What strconv reads: ErrRange -/
def ErrFix (w : World) : Prop := ∃ tp p, w.var? Tryz.prog "strconv.ErrRange" = some #[.iface tp p]
theorem gRange : Tryz.prog.globalNamed "strconv.ErrRange" = some 6 := by kernel_rfl
theorem range_lt {w : World} {cs : Array Value} (h : w.var? Tryz.prog "strconv.ErrRange" = some cs) : 6 < w.heap.size := by
  rcases Nat.lt_or_ge 6 w.heap.size with h' | h'
  · exact h'
  · unfold World.var? at h
    simp [gRange, Array.getElem?_eq_none h'] at h
theorem ErrFix.below {w w' : World} (h : ErrFix w) (hb : Below w.heap.size w w') : ErrFix w' := by
  obtain ⟨tp, p, hv⟩ := h
  exact ⟨tp, p, var?_below hb gRange (range_lt hv) hv⟩

theorem parseInt_ok (s : ByteArray) (hs : s.size ≤ 281474976710656) (hd : digB s.data.toList = true) (hv : val s.data.toList ≤ 9223372036854775807) (w : World) :
    Calls Tryz.prog 85 #[.string s, .int .i64 10, .int .i64 64] w fun e w' => e = .returned (.tuple #[.int .i64 (val s.data.toList), .nilIface]) ∧ Below w.heap.size w w' := by
  refine (Tryz.strconv_ParseInt_10_at64_ok s (by omega) (val s.data.toList) (by rw [parse_dig hd, if_pos hv]) w).mono ?_
  rintro e w' ⟨rfl, rfl | ⟨t, rfl⟩⟩
  · exact ⟨rfl, Below.refl _ _⟩
  · exact ⟨rfl, Joins.below_bytesWorld _ _ _ _ (Nat.le_refl _)⟩
theorem parseInt_range (s : ByteArray) (hs : s.size ≤ 281474976710656) (hd : digB s.data.toList = true) (hv : ¬ val s.data.toList ≤ 9223372036854775807) (w : World) (hf : ErrFix w) :
    Calls Tryz.prog 85 #[.string s, .int .i64 10, .int .i64 64] w fun e w' => ∃ x t p, e = .returned (.tuple #[.int .i64 x, .iface t p]) ∧ Below w.heap.size w w' := by
  obtain ⟨tp, p, hr⟩ := hf
  refine (Tryz.strconv_ParseInt_10_at64_range_var s hs (by rw [parse_dig hd, if_neg hv]) tp p w hr).mono ?_
  rintro e w' ⟨N, rfl, _, _, hb⟩
  exact ⟨_, _, _, rfl, hb⟩

def ReadEnds (v er : Int) (w : World) (e : Ending) (w' : World) : Prop := e = .returned (.tuple #[.int .i64 v, .int .i64 er]) ∧ Below w.heap.size w w'
theorem read_form (s : ByteArray) (hs : s.size ≤ 281474976710656) (hd : digB s.data.toList = false) (w : World) : Calls Tryz.prog 62 #[.string s] w (ReadEnds 0 12 w) := by
  have F : ∀ W : World, Calls Tryz.prog 84 #[.string s] W fun e w' => e = .returned (.bool false) ∧ W = w' := fun W => by rw [← hd]; exact digits_any s W (by unfold maxLen; omega)
  have H := Lib.hid F
  clear F hd
  go_enter Tryz.func62, Tryz.ntmps62
  go_wp2_with (go_at_call 84; refine (H.out _).mono ?_; rintro e w' ⟨rfl, rfl⟩)
  go_ret2
  exact ⟨rfl, Below.refl _ _⟩
theorem read_ok (s : ByteArray) (hs : s.size ≤ 281474976710656) (hd : digB s.data.toList = true) (hv : val s.data.toList ≤ 9223372036854775807) (w : World) : Calls Tryz.prog 62 #[.string s] w (ReadEnds (val s.data.toList) 0 w) := by
  have F : ∀ W : World, Calls Tryz.prog 84 #[.string s] W fun e w' => e = .returned (.bool true) ∧ W = w' := fun W => by rw [← hd]; exact digits_any s W (by unfold maxLen; omega)
  have H := Lib.hid F
  have P := Lib.hid (parseInt_ok s hs hd hv)
  clear F hd hv
  go_enter Tryz.func62, Tryz.ntmps62
  go_wp2_with (first | (go_at_call 84; refine (H.out _).mono ?_; rintro e w' ⟨rfl, rfl⟩) | (go_at_call 85; refine (P.out _).mono ?_; rintro e w' ⟨rfl, hb⟩))
  go_ret2
  exact ⟨rfl, hb⟩
theorem read_range (s : ByteArray) (hs : s.size ≤ 281474976710656) (hd : digB s.data.toList = true) (hv : ¬ val s.data.toList ≤ 9223372036854775807) (w : World) (hf : ErrFix w) : Calls Tryz.prog 62 #[.string s] w (ReadEnds 0 16 w) := by
  have F : ∀ W : World, Calls Tryz.prog 84 #[.string s] W fun e w' => e = .returned (.bool true) ∧ W = w' := fun W => by rw [← hd]; exact digits_any s W (by unfold maxLen; omega)
  have H := Lib.hid F
  have P := Lib.hid (parseInt_range s hs hd hv w hf)
  clear F hd hv hf
  go_enter Tryz.func62, Tryz.ntmps62
  go_wp2_with (first | (go_at_call 84; refine (H.out _).mono ?_; rintro e w' ⟨rfl, rfl⟩) | (go_at_call 85; refine P.out.mono ?_; rintro e w' ⟨x, t, p, rfl, hb⟩))
  go_ret2
  exact ⟨rfl, hb⟩
theorem read_any (s : ByteArray) (hs : s.size ≤ 281474976710656) (w : World) (hf : ErrFix w) : Calls Tryz.prog 62 #[.string s] w (ReadEnds (rdV s.data.toList) (rdE s.data.toList) w) := by
  unfold rdV rdE
  by_cases hd : digB s.data.toList = true
  · by_cases hv : val s.data.toList ≤ 9223372036854775807
    · rw [if_pos ⟨hd, hv⟩, if_pos hd, if_pos hv]; exact read_ok s hs hd hv w
    · rw [if_neg (fun h => hv h.2), if_pos hd, if_neg hv]; exact read_range s hs hd hv w hf
  · rw [if_neg (fun h => hd h.1), if_neg hd]; exact read_form s hs (by simpa using hd) w
end Go.Proofs.YtdinaedknlkicaaGreatDoor

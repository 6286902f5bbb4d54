/-
  Contracts of package lexer: behind, cut, check.
-/
import Derived.Test.YtdinaedknlkicaaGreatDoorIntsRead
import Derived.Test.YtdinaedknlkicaaGreatDoorCharsTabs
import Derived.Test.YtdinaedknlkicaaGreatDoorTokRows
import Derived.Deep.RegionHeld3
import Derived.Deep.RegionWith
import Derived.Outline
namespace Go.Proofs.YtdinaedknlkicaaGreatDoor
open Go.ChangeShapes Go.WideShapes Go.ChangeAt Go.RowKit

/-- What the calls of package lexer read: strconv's ErrRange, and the tables of package chars. -/
def LexFix (w : World) : Prop := ErrFix w ∧ Fix w
theorem LexFix.below {w w' : World} (h : LexFix w) (hb : Below w.heap.size w w') : LexFix w' := ⟨h.1.below hb, h.2.below hb⟩
theorem below_then {w w1 w2 : World} (h : Below w.heap.size w w1) (h2 : Below w1.heap.size w1 w2) : Below w.heap.size w w2 := h.trans (h2.mono h.size)

/-! ### What is cut, and what is wrong with it -/
def cutK : List UInt8 → Int
  | [] => 3
  | c :: _ => if isKind 2 c then 1 else if isKind 3 c then 2 else 3
def chkE (k : Int) (l : List UInt8) : Int := if k = 1 then rdE l else if validB k l then 0 else 32
theorem chk_valid (k : Int) (l : List UInt8) : (chkE k l = 0) ↔ validB k l = true := by
  unfold chkE
  by_cases h1 : k = 1
  · subst h1
    rw [if_pos rfl]
    show _ ↔ (rdE l == 0) = true
    rw [beq_iff_eq]
  · rw [if_neg h1]
    cases validB k l <;> simp
theorem cut_chk (l : List UInt8) (h : l ≠ []) : chkE (cutK l) (l.take (tokN l)) = tokE l ∧ (tokE l = 0 → cutK l = tokK l) := by
  cases l with
  | nil => exact absurd rfl h
  | cons c l =>
    cases h2 : isKind 2 c with
    | true =>
      obtain ⟨o1, o2, o3⟩ := tok_two h2 l
      have hc : cutK (c :: l) = 1 := by show (if isKind 2 c then (1 : Int) else _) = 1; rw [if_pos h2]
      rw [o1, o2, o3, hc]
      exact ⟨rfl, fun _ => rfl⟩
    | false =>
      have h2' : ¬ isKind 2 c = true := by rw [h2]; simp
      cases h3 : isKind 3 c with
      | true =>
        obtain ⟨o1, o2, o3⟩ := tok_three h2 h3 l
        have hc : cutK (c :: l) = 2 := by show (if isKind 2 c then (1 : Int) else if isKind 3 c then 2 else 3) = 2; rw [if_neg h2', if_pos h3]
        rw [o1, o2, o3, hc]
        exact ⟨rfl, fun _ => rfl⟩
      | false =>
        have h3' : ¬ isKind 3 c = true := by rw [h3]; simp
        obtain ⟨o1, o2, o3⟩ := tok_other h2 h3 l
        have hc : cutK (c :: l) = 3 := by show (if isKind 2 c then (1 : Int) else if isKind 3 c then 2 else 3) = 3; rw [if_neg h2', if_neg h3']
        have hs := sym_own (c :: l)
        have hl := (sym_le (c :: l)).2
        have hv : validB 3 ((c :: l).take (symL (c :: l))) = decide (0 < symL (c :: l)) := by
          show decide (0 < ((c :: l).take (symL (c :: l))).length ∧ symL ((c :: l).take (symL (c :: l))) = ((c :: l).take (symL (c :: l))).length) = _
          rw [hs, List.length_take, Nat.min_eq_left hl]
          simp
        rw [o1, o2, o3, hc]
        unfold chkE
        rw [if_neg (by decide), hv]
        by_cases hz : symL (c :: l) = 0
        · rw [hz]; exact ⟨rfl, fun h => by cases h⟩
        · rw [if_neg hz, if_neg hz, decide_eq_true (by omega)]
          exact ⟨rfl, fun _ => rfl⟩

set_option maxRecDepth 100000 in
set_option maxHeartbeats 1000000 in
theorem behind_any (k : Int) (s : ByteArray) (a : Nat) (ha : a ≤ s.size) (hs : s.size ≤ maxLen) (w : World) :
    Calls Tryz.prog 30 #[.string s, .int .i64 a, .int .u8 k] w fun e w' => e = .returned (.int .i64 ((a + runN k (s.data.toList.drop a) : Nat) : Int)) ∧ Below w.heap.size w w' := by
  unfold maxLen at hs
  go_enter Tryz.func30, Tryz.ntmps30
  go_wp2_with fail
  go_loopg [1] (s.size - a) (fun g i wx => ∃ j : Nat, j + g = s.size ∧ i = .int .i64 j ∧ Hid (a + runN k (s.data.toList.drop a) = j + runN k (s.data.toList.drop j)) ∧ Hid (Below w.heap.size w wx))
  case atStart => exact ⟨a, by omega, rfl, Lib.hid rfl, Lib.hid (Below.refl _ _)⟩
  case round =>
    obtain ⟨j, hj, rfl, HR, HB⟩ := hrel
    cases gk with
    | zero =>
      obtain rfl : j = s.size := by omega
      have H : Hid (a + runN k (s.data.toList.drop a) = s.size) := Lib.hid (by
        rw [HR.out, List.drop_of_length_le (by simp)]; rfl)
      clear hj HR
      go_wp2_with fail
      go_ret
      exact ⟨by rw [H.out]; rfl, HB.out⟩
    | succ g =>
      have hlt : j < s.size := by omega
      have K := Lib.hid (kind_any (s[j].toNat : Int) (u8_bounds _).1 (u8_bounds _).2)
      cases hq : (kindV (s[j].toNat : Int) == k)
      · have H : Hid (a + runN k (s.data.toList.drop a) = j) := Lib.hid (by rw [HR.out, drop_cons s j hlt, runN_no (kind_not hq)]; rfl)
        clear HR
        go_wp2_with fail
        refine (K.out _).mono ?_
        rintro e w2 ⟨rfl, hb⟩
        go_wp2_with fail
        go_ret
        exact ⟨by rw [H.out]; rfl, below_then HB.out hb⟩
      · have H : Hid (a + runN k (s.data.toList.drop a) = (j + 1) + runN k (s.data.toList.drop (j + 1))) := Lib.hid (by rw [HR.out, drop_cons s j hlt, runN_yes (kind_yes hq)]; omega)
        clear HR
        go_wp2_with fail
        refine (K.out _).mono ?_
        rintro e w2 ⟨rfl, hb⟩
        have HB2 := Lib.hid (below_then HB.out hb)
        clear hb
        go_wp2_with fail
        go_roundg g
        case measure => omega
        case rel => exact ⟨j + 1, by omega, by go_num, H, HB2⟩
end Go.Proofs.YtdinaedknlkicaaGreatDoor

/-
  Contracts of the helpers of layer 2's statements: length and alive.
-/
import Derived.Test.YtdggedngncdbcaaDoorRefChars
namespace Go.Proofs.YtdggedngncdbcaaDoor
open Go.ChangeShapes Go.WideShapes Go.ChangeAt Go.RowKit

/-- What length returns: the length of the symbol at an index, or -1. -/
def lenV (l : List UInt8) (at_ : Int) : Int := if 0 ≤ at_ ∧ at_ ≤ l.length then symL (l.drop at_.toNat) else -1
theorem lenV_zero (l : List UInt8) : lenV l 0 = symL l := by
  unfold lenV
  rw [if_pos (by omega)]; rfl
theorem lenV_nat (l : List UInt8) (k : Nat) (h : k ≤ l.length) : lenV l k = symL (l.drop k) := by
  unfold lenV
  rw [if_pos (by omega)]; rfl
theorem length_any (s : ByteArray) (at_ : Int) (hs : s.size ≤ maxLen) (w : World) (hf : Fix w) :
    Calls Tryd.prog 10 #[.string s, .int .i64 at_] w fun e w' => e = .returned (.int .i64 (lenV s.data.toList at_)) ∧ Draws w w' := by
  have el : s.data.toList.length = s.size := by simp
  have C := symbol_any s at_ hs w hf
  unfold symN symE at C
  unfold lenV
  rw [el] at C ⊢
  by_cases h : 0 ≤ at_ ∧ at_ ≤ s.size
  · rw [if_pos h, if_pos h] at C
    rw [if_pos h]
    have D := Lib.hid C
    clear C h el hf
    go_enter Tryd.func10, Tryd.ntmps10
    go_wp2_with fail
    refine D.out.mono ?_
    rintro e w' ⟨rfl, hd⟩
    go_wp2_with fail
    go_ret
    exact ⟨rfl, hd⟩
  · rw [if_neg h, if_neg h] at C
    rw [if_neg h]
    have D := Lib.hid C
    clear C h el hf
    go_enter Tryd.func10, Tryd.ntmps10
    go_wp2_with fail
    refine D.out.mono ?_
    rintro e w' ⟨rfl, hd⟩
    go_wp2_with fail
    go_ret
    exact ⟨rfl, hd⟩
theorem length_is (s : ByteArray) (at_ v : Int) (h : s.size ≤ maxLen ∧ lenV s.data.toList at_ = v) (w : World) (hf : Fix w) :
    Calls Tryd.prog 10 #[.string s, .int .i64 at_] w fun e w' => e = .returned (.int .i64 v) ∧ Draws w w' := by
  obtain ⟨h0, rfl⟩ := h
  exact length_any s at_ h0 w hf
theorem kind_is (c v : Int) (h : (0 ≤ c ∧ c ≤ 255) ∧ kindV c = v) (w : World) :
    Calls Tryd.prog 16 #[.int .u8 c] w fun e w' => e = .returned (.int .u8 v) ∧ Below w.heap.size w w' := by
  obtain ⟨h0, rfl⟩ := h
  exact kind_any c h0.1 h0.2 w
theorem word_at (s : ByteArray) (v : Bool) (h : wordB s.data.toList = v) (w : World) (hf : Fix w) :
    Calls Tryd.prog 12 #[.string s] w fun e w' => e = .returned (.bool v) ∧ w = w' := by
  subst h
  exact word_any s w hf
theorem Fix.draws {w w' : World} (h : Fix w) (hd : Draws w w') : Fix w' := h.below (hd.below _)
theorem below_step {w w1 w2 : World} (h : Below w.heap.size w w1) (h2 : Below w1.heap.size w1 w2) : Below w.heap.size w w2 := h.trans (h2.mono h.size)

set_option maxRecDepth 100000 in
set_option maxHeartbeats 1000000 in
theorem alive_any (w : World) (hf : Fix w) :
    Calls Tryd.prog 14 #[] w fun e w' => e = .returned (.bool true) ∧ Below w.heap.size w w' := by
  have F := Lib.hid hf
  clear hf
  go_enter Tryd.func14, Tryd.ntmps14
  go_wp2_with fail
  refine (kind_is _ 4 (by decide) _).mono ?_
  rintro e w1 ⟨rfl, hb⟩
  have F1 := Lib.hid (F.out.below hb)
  have B1 := Lib.hid hb
  clear hb
  go_wp2_with fail
  refine (kind_is _ 0 (by decide) _).mono ?_
  rintro e w2 ⟨rfl, hb⟩
  have F2 := Lib.hid (F1.out.below hb)
  have B2 := Lib.hid (below_step B1.out hb)
  clear hb
  go_wp2_with fail
  refine (length_is _ _ 2 (by decide) _ F2.out).mono ?_
  rintro e w3 ⟨rfl, hd⟩
  have F3 := Lib.hid (F2.out.draws hd)
  have B3 := Lib.hid (below_step B2.out (hd.below _))
  clear hd
  go_wp2_with fail
  refine (length_is _ _ 1 (by decide) _ F3.out).mono ?_
  rintro e w4 ⟨rfl, hd⟩
  have F4 := Lib.hid (F3.out.draws hd)
  have B4 := Lib.hid (below_step B3.out (hd.below _))
  clear hd
  go_wp2_with fail
  refine (length_is _ _ 0 (by decide) _ F4.out).mono ?_
  rintro e w5 ⟨rfl, hd⟩
  have F5 := Lib.hid (F4.out.draws hd)
  have B5 := Lib.hid (below_step B4.out (hd.below _))
  clear hd
  go_wp2_with fail
  refine (word_at _ true (by decide) _ F5.out).mono ?_
  rintro e w6 ⟨rfl, rfl⟩
  go_wp2_with fail
  refine (word_at _ false (by decide) _ F5.out).mono ?_
  rintro e w6 ⟨rfl, rfl⟩
  go_wp2_with fail
  go_ret
  exact ⟨rfl, B5.out⟩
end Go.Proofs.YtdggedngncdbcaaDoor

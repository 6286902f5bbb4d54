/-
  What Read answers (layer 1): a number and an error; steps over a text's digits.
-/
import Derived.Test.YtdinaedknlkicaaGreatDoorTextMath
import Derived.ProofKit
namespace Go.Proofs.YtdinaedknlkicaaGreatDoor

theorem take_all_succ (s : ByteArray) (k : Nat) (h : k < s.size) (ha : (s.data.toList.take k).all isDig = true) (h1 : 48 ≤ s[k].toNat) (h2 : s[k].toNat ≤ 57) : (s.data.toList.take (k + 1)).all isDig = true := by
  rw [List.take_succ_eq_append_getElem (by simpa using h), List.all_append, ha]
  show (true && [s[k]].all isDig) = true
  simp only [List.all_cons, List.all_nil, isDig, h1, h2, decide_true, Bool.and_true]
theorem not_dig_at (s : ByteArray) (k : Nat) (h : k < s.size) (hb : isDig s[k] = false) : digB s.data.toList = false := by
  have hm : s[k] ∈ s.data.toList := by
    have : s[k] = s.data.toList[k]'(by simpa using h) := rfl
    rw [this]; exact List.getElem_mem _
  unfold digB
  have : s.data.toList.all isDig = false := by
    rw [List.all_eq_false]; exact ⟨_, hm, by simp [hb]⟩
  rw [this, Bool.and_false]

/-- What Read returns: a number and an error. -/
def rdV (l : List UInt8) : Int := if digB l = true ∧ val l ≤ 9223372036854775807 then val l else 0
def rdE (l : List UInt8) : Int := if digB l = true then (if val l ≤ 9223372036854775807 then 0 else 16) else 12
end Go.Proofs.YtdinaedknlkicaaGreatDoor

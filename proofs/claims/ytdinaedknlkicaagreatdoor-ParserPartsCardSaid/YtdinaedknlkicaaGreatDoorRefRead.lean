/-
  Contract of the reference of layer 1: Read. (For seats that do not reach its Text; XRefText holds both.)
-/
import Derived.Test.YtdinaedknlkicaaGreatDoorReadDefs
import Derived.Test.YtdinaedknlkicaaGreatDoorChecked
import Derived.WalkKit
import Derived.ProofKit
import Derived.OpenShut
import Derived.RowKit3
import Derived.WalkLawsBesides
import Derived.WalkSpells
import Derived.Lib.Hide
import Derived.LoopTactic
namespace Go.Proofs.YtdinaedknlkicaaGreatDoor
open Go.ChangeShapes Go.WideShapes Go.ChangeAt Go.RowKit

/-! ### The reference's Read -/
theorem dig_at {s : ByteArray} (h : digB s.data.toList = true) (k : Nat) (hk : k < s.size) : 48 ≤ s[k].toNat ∧ s[k].toNat ≤ 57 := by
  unfold digB at h
  simp only [Bool.and_eq_true] at h
  have hm : s[k] ∈ s.data.toList := by
    have : s[k] = s.data.toList[k]'(by simpa using hk) := rfl
    rw [this]; exact List.getElem_mem _
  have := List.all_eq_true.1 h.2 _ hm
  simpa [isDig] using this
theorem drop_at (s : ByteArray) (k : Nat) (hk : k < s.size) : s.data.toList.drop k = s[k] :: s.data.toList.drop (k + 1) := by
  rw [List.drop_eq_getElem_cons (by simpa using hk)]; rfl
def RefReads (v er : Int) (w : World) (e : Ending) (w' : World) : Prop := e = .returned (.tuple #[.int .i64 v, .int .i64 er]) ∧ w = w'

theorem refRead_step (acc : Nat) (c : UInt8) (r : List UInt8) (h1 : 48 ≤ c.toNat) : refRead acc (c :: r) = if (9223372036854775807 - ((c.toNat : Int) - 48)) / 10 < (acc : Int) then none else refRead (10 * acc + (c.toNat - 48)) r := by
  conv => lhs; unfold refRead
  have hc : c.toNat < 256 := c.toNat_lt
  have e : ((9223372036854775807 - (c.toNat - 48)) / 10 < acc) ↔ ((9223372036854775807 - ((c.toNat : Int) - 48)) / 10 < (acc : Int)) := by omega
  by_cases g : (9223372036854775807 - ((c.toNat : Int) - 48)) / 10 < (acc : Int)
  · rw [if_pos g, if_pos (e.2 g)]
  · rw [if_neg g, if_neg (fun h => g (e.1 h))]
/-- What is returned behind the digits. -/
def outV (o : Option Nat) : Int := match o with | some n => n | none => 0
def outE (o : Option Nat) : Int := match o with | some _ => 0 | none => 16
end Go.Proofs.YtdinaedknlkicaaGreatDoor

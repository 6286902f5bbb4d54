/-
  Contract of the reference of layer 3: Valid.
-/
import Derived.Test.YtgmfelikmjclbaaGreatDoorqRefWords
import Derived.Test.YtgmfelikmjclbaaGreatDoorRefRead
import Derived.Test.YtgmfelikmjclbaaGreatDoorqTokRows
import Derived.Deep.RegionHeld3
import Derived.Outline
namespace Go.Proofs.YtgmfelikmjclbaaGreatDoor
open Go.ChangeShapes Go.WideShapes Go.ChangeAt Go.RowKit

theorem valid_sym_long (t : ByteArray) (w : World) (b : Nat) (hc : w.cell? ⟨b, 1, none⟩ = some (.string t)) (hb : b < w.heap.size) (ht : t.size ≤ 281474976710656) :
    Calls Tryz.prog 63 #[.string t, .int .i64 0] w fun e w' => e = .returned (.int .i64 (symL t.data.toList)) ∧ w'.cell? ⟨b, 1, none⟩ = some (.string t) ∧ Below w.heap.size w w' := by
  have h := longest_any t 0 (Nat.zero_le _) (by unfold maxLen; omega) w
  rw [List.drop_zero] at h
  refine h.mono ?_
  rintro e w' ⟨rfl, h2⟩
  exact ⟨rfl, (h2.cell (p := ⟨b, 1, none⟩) hb).trans hc, h2⟩
theorem below_one_drew {w w2 : World} {c : Array Value} {T : TypeId} (hb : Below (w.alloc (Obj.cells c T)).drew.heap.size (w.alloc (Obj.cells c T)).drew w2) : Below w.heap.size w w2 :=
  (((Below.refl w.heap.size w).alloc (Nat.le_refl _) _).drew).trans (hb.mono (by simp))
set_option maxRecDepth 100000 in
set_option maxHeartbeats 1000000 in
theorem valid_any (k q : Int) (t : ByteArray) (ht : t.size ≤ 281474976710656) (w : World) :
    Calls Tryz.prog 41 #[.agg #[.int .u8 k, .string t, .int .i64 q]] w fun e w' => e = .returned (.bool (validB k t.data.toList)) ∧ Below w.heap.size w w' := by
  by_cases k1 : k = 1
  · subst k1
    have D := Lib.hid (refRead_any t ht)
    have HV : Hid (validB 1 t.data.toList = (rdE t.data.toList == 0)) := Lib.hid rfl
    go_enter Tryz.func41, Tryz.ntmps41
    go_wp2_with fail
    refine (D.out _).mono ?_
    rintro e w2 ⟨rfl, rfl⟩
    go_wp2_with fail
    go_ret
    exact ⟨by rw [HV.out]; rfl, (Below.refl w.heap.size w).alloc (Nat.le_refl _) _⟩
  have g1 : (k == 1) = false := beq_eq_false_iff_ne.2 k1
  by_cases k2 : k = 2
  · subst k2
    have D := Lib.hid (refWord_any t)
    have HV : Hid (validB 2 t.data.toList = wordB t.data.toList) := Lib.hid rfl
    clear k1 g1
    go_enter Tryz.func41, Tryz.ntmps41
    go_wp2_with fail
    refine (D.out _).mono ?_
    rintro e w2 ⟨rfl, hb⟩
    go_wp2_with fail
    go_ret
    exact ⟨by rw [HV.out]; rfl, below_one hb⟩
  have g2 : (k == 2) = false := beq_eq_false_iff_ne.2 k2
  by_cases k3 : k = 3
  · subst k3
    clear k1 k2 g1 g2
    by_cases hz : 0 < t.size
    · have HV : Hid (validB 3 t.data.toList = ((symL t.data.toList : Int) == t.size)) := Lib.hid (by
        have : t.data.toList.length = t.size := by simp
        unfold validB
        rw [this]
        show decide (0 < t.size ∧ symL t.data.toList = t.size) = _
        rw [Bool.eq_iff_iff, decide_eq_true_iff, beq_iff_eq]
        omega)
      have L := Lib.hid (valid_sym_long t)
      have hd : decide (0 < t.size) = true := decide_eq_true hz
      go_enter Tryz.func41, Tryz.ntmps41
      go_wp2_with fail
      go_region_held3 (fun w' => w'.cell? { block := w.heap.size, off := 1 } = some (.string t)) (go_keep) (first | (go_at_call 63; refine (L.out _ w.heap.size ?_ ?_ ht).mono ?_; (simp [*]); (simp [*]); rintro e w2 ⟨rfl, hc2, hb2⟩))
      go_wp2_with fail
      go_ret
      exact ⟨by rw [HV.out]; rfl, below_one_drew hb2⟩
    · have HV : Hid (validB 3 t.data.toList = false) := Lib.hid (by
        have : t.data.toList.length = t.size := by simp
        unfold validB
        rw [this]
        show decide (0 < t.size ∧ symL t.data.toList = t.size) = _
        rw [decide_eq_false_iff_not]
        omega)
      have hd : decide (0 < t.size) = false := decide_eq_false hz
      go_enter Tryz.func41, Tryz.ntmps41
      go_wp2_with fail
      go_quiet (fail)
      go_wp2_with fail
      go_ret
      exact ⟨by rw [HV.out]; rfl, below_drewN ((Below.refl w.heap.size w).alloc (Nat.le_refl _) _) _⟩
  have g3 : (k == 3) = false := beq_eq_false_iff_ne.2 k3
  have HV : Hid (validB k t.data.toList = false) := Lib.hid (by unfold validB; rw [if_neg k1, if_neg k2, if_neg k3])
  clear k1 k2 k3
  go_enter Tryz.func41, Tryz.ntmps41
  go_wp2_with fail
  go_ret
  exact ⟨by rw [HV.out]; rfl, (Below.refl w.heap.size w).alloc (Nat.le_refl _) _⟩
end Go.Proofs.YtgmfelikmjclbaaGreatDoor

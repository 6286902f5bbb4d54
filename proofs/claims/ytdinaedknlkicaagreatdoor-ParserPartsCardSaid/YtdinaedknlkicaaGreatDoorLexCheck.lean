/-
  Contracts of package lexer: cut, check.
-/
import Derived.Test.YtdinaedknlkicaaGreatDoorLexCut
import Derived.BigQuiet
import Derived.Deep.RegionWith
import Derived.Outline
namespace Go.Proofs.YtdinaedknlkicaaGreatDoor
open Go.ChangeShapes Go.WideShapes Go.ChangeAt Go.RowKit

def CutEnds (l : List UInt8) (w : World) (e : Ending) (w' : World) : Prop :=
  e = .returned (.tuple #[.int .u8 (cutK l), .string ⟨(l.take (tokN l)).toArray⟩]) ∧ Below w.heap.size w w'
theorem cutK_cons (c : UInt8) (l : List UInt8) : cutK (c :: l) = if isKind 2 c then 1 else if isKind 3 c then 2 else 3 := rfl
set_option maxRecDepth 100000 in
set_option maxHeartbeats 1000000 in
theorem cut_any (s : ByteArray) (a : Nat) (ha : a < s.size) (hs : s.size ≤ 1000000) (w : World) (hf : Fix w) :
    Calls Tryz.prog 31 #[.string s, .int .i64 a] w (CutEnds (s.data.toList.drop a) w) := by
  have K := Lib.hid (kind_any (s[a].toNat : Int) (u8_bounds _).1 (u8_bounds _).2)
  have HF := Lib.hid hf
  have hd := drop_cons s a ha
  have el : s.data.toList.length = s.size := by simp
  clear hf
  cases h2 : (kindV (s[a].toNat : Int) == 2)
  · have g2 := kind_not h2
    have g2' : ¬ isKind 2 s[a] = true := by rw [g2]; simp
    cases h3 : (kindV (s[a].toNat : Int) == 3)
    · have g3 := kind_not h3
      have g3' : ¬ isKind 3 s[a] = true := by rw [g3]; simp
      obtain ⟨_, o2, _⟩ := tok_other g2 g3 (s.data.toList.drop (a + 1))
      have o1 := cutK_cons s[a] (s.data.toList.drop (a + 1))
      rw [if_neg g2', if_neg g3'] at o1
      rw [← hd] at o1 o2
      have hr : symL (s.data.toList.drop a) ≤ s.size - a := by
        have := (sym_le (s.data.toList.drop a)).2
        rwa [List.length_drop, el] at this
      have L : Hid (∀ W : World, Fix W → Calls Tryz.prog 61 #[.string s, .int .i64 a] W (SymEnds (symL (s.data.toList.drop a)) 0 W)) := Lib.hid fun W hW => by
        have := symbol_any s (a : Int) (by unfold maxLen; omega) W hW
        unfold symN symE at this
        rwa [el, if_pos ⟨by omega, by omega⟩, if_pos ⟨by omega, by omega⟩, Int.toNat_natCast] at this
      obtain ⟨n, hn⟩ : ∃ n, symL (s.data.toList.drop a) = n := ⟨_, rfl⟩
      rw [hn] at L hr o2
      have HO : Hid (cutK (s.data.toList.drop a) = 3 ∧ tokN (s.data.toList.drop a) = n) := Lib.hid ⟨o1, o2⟩
      clear hd o1 o2 hn el g2 g2' g3 g3'
      go_enter Tryz.func31, Tryz.ntmps31
      go_wp2_with fail
      refine (K.out _).mono ?_
      rintro e w2 ⟨rfl, hb⟩
      have HB := Lib.hid hb
      clear hb
      go_wp2_with fail
      refine (L.out _ (HF.out.below HB.out)).mono ?_
      rintro e w3 ⟨rfl, hb⟩
      have HB2 := Lib.hid (below_then HB.out (hb.below _))
      clear hb
      go_wp2_with fail
      go_quiet (fail)
      go_wp2_with fail
      go_ret2
      refine ⟨?_, below_drewN HB2.out _⟩
      rw [HO.out.1, HO.out.2, ← ext_eq s a n]; rfl
    · have g3 := kind_yes h3
      obtain ⟨_, o2, _⟩ := tok_three g2 g3 (s.data.toList.drop (a + 1))
      have o1 := cutK_cons s[a] (s.data.toList.drop (a + 1))
      rw [if_neg g2', if_pos g3] at o1
      rw [← hd] at o1 o2
      have hr : runN 3 (s.data.toList.drop a) ≤ s.size - a := by
        have := runN_le 3 (s.data.toList.drop a)
        rwa [List.length_drop, el] at this
      have R := Lib.hid (behind_any 3 s a (by omega) (by unfold maxLen; omega))
      obtain ⟨n, hn⟩ : ∃ n, runN 3 (s.data.toList.drop a) = n := ⟨_, rfl⟩
      rw [hn] at R hr o2
      have HO : Hid (cutK (s.data.toList.drop a) = 2 ∧ tokN (s.data.toList.drop a) = n) := Lib.hid ⟨o1, o2⟩
      clear hd o1 o2 hn el g2 g2' g3
      go_enter Tryz.func31, Tryz.ntmps31
      go_wp2_with fail
      refine (K.out _).mono ?_
      rintro e w2 ⟨rfl, hb⟩
      have HB := Lib.hid hb
      clear hb
      go_wp2_with fail
      go_region_with (go_at_call 30; refine (R.out _).mono ?_; rintro e w3 ⟨rfl, hb⟩)
      have HB2 := Lib.hid (HB.out.drew.trans (hb.mono HB.out.size))
      clear hb
      go_wp2_with fail
      go_ret2
      refine ⟨?_, HB2.out⟩
      rw [HO.out.1, HO.out.2, ← ext_eq s a n]; rfl
  · have g2 := kind_yes h2
    obtain ⟨_, o2, _⟩ := tok_two g2 (s.data.toList.drop (a + 1))
    have o1 := cutK_cons s[a] (s.data.toList.drop (a + 1))
    rw [if_pos g2] at o1
    rw [← hd] at o1 o2
    have hr : runN 2 (s.data.toList.drop a) ≤ s.size - a := by
      have := runN_le 2 (s.data.toList.drop a)
      rwa [List.length_drop, el] at this
    have R := Lib.hid (behind_any 2 s a (by omega) (by unfold maxLen; omega))
    obtain ⟨n, hn⟩ : ∃ n, runN 2 (s.data.toList.drop a) = n := ⟨_, rfl⟩
    rw [hn] at R hr o2
    have HO : Hid (cutK (s.data.toList.drop a) = 1 ∧ tokN (s.data.toList.drop a) = n) := Lib.hid ⟨o1, o2⟩
    clear hd o1 o2 hn el g2
    go_enter Tryz.func31, Tryz.ntmps31
    go_wp2_with fail
    refine (K.out _).mono ?_
    rintro e w2 ⟨rfl, hb⟩
    have HB := Lib.hid hb
    clear hb
    go_wp2_with fail
    go_region_with (go_at_call 30; refine (R.out _).mono ?_; rintro e w3 ⟨rfl, hb⟩)
    have HB2 := Lib.hid (HB.out.drew.trans (hb.mono HB.out.size))
    clear hb
    go_wp2_with fail
    go_ret2
    refine ⟨?_, HB2.out⟩
    rw [HO.out.1, HO.out.2, ← ext_eq s a n]; rfl

/-! ### check -/
theorem empty_no (t : ByteArray) (h : 0 < t.size) : t.toList.isEmpty = false := by
  have el : t.data.toList.length = t.size := by simp
  rw [ByteArray.toList_eq]
  cases hl : t.data.toList with
  | nil => rw [hl] at el; simp at el; omega
  | cons c r => rfl
theorem empty_yes (t : ByteArray) (h : ¬ 0 < t.size) : t.toList.isEmpty = true := by
  have el : t.data.toList.length = t.size := by simp
  rw [ByteArray.toList_eq]
  cases hl : t.data.toList with
  | nil => rfl
  | cons c r => rw [hl] at el; simp at el; omega
def CheckEnds (k : Int) (l : List UInt8) (w : World) (e : Ending) (w' : World) : Prop := e = .returned (.int .i64 (chkE k l)) ∧ Below w.heap.size w w'
set_option maxRecDepth 100000 in
set_option maxHeartbeats 1000000 in
theorem check_any (k : Int) (t : ByteArray) (ht : t.size ≤ 281474976710656) (w : World) (hf : LexFix w) :
    Calls Tryz.prog 32 #[.int .u8 k, .string t] w (CheckEnds k t.data.toList w) := by
  have HF := Lib.hid hf
  clear hf
  by_cases k1 : k = 1
  · subst k1
    have D := Lib.hid (read_any t (by omega))
    have HV : Hid (chkE 1 t.data.toList = rdE t.data.toList) := Lib.hid rfl
    go_enter Tryz.func32, Tryz.ntmps32
    go_wp2_with fail
    refine (D.out _ HF.out.1).mono ?_
    rintro e w2 ⟨rfl, hb⟩
    go_wp2_with fail
    go_ret
    exact ⟨by rw [HV.out]; rfl, hb⟩
  have g1 : (k == 1) = false := beq_eq_false_iff_ne.2 k1
  by_cases k2 : k = 2
  · subst k2
    have D := Lib.hid (word_any t)
    have HV : Hid (chkE 2 t.data.toList = if wordB t.data.toList then 0 else 32) := Lib.hid rfl
    clear k1 g1
    cases hw : wordB t.data.toList
    · rw [hw] at HV D
      go_enter Tryz.func32, Tryz.ntmps32
      go_wp2_with fail
      refine (D.out _ HF.out.2).mono ?_
      rintro e w2 ⟨rfl, rfl⟩
      go_wp2_with fail
      go_ret
      exact ⟨by rw [HV.out]; rfl, Below.refl _ _⟩
    · rw [hw] at HV D
      go_enter Tryz.func32, Tryz.ntmps32
      go_wp2_with fail
      refine (D.out _ HF.out.2).mono ?_
      rintro e w2 ⟨rfl, rfl⟩
      go_wp2_with fail
      go_ret
      exact ⟨by rw [HV.out]; rfl, Below.refl _ _⟩
  have g2 : (k == 2) = false := beq_eq_false_iff_ne.2 k2
  by_cases k3 : k = 3
  · subst k3
    clear k1 k2 g1 g2
    have el : t.data.toList.length = t.size := by simp
    have L : Hid (∀ W : World, Fix W → Calls Tryz.prog 61 #[.string t, .int .i64 0] W (SymEnds (symL t.data.toList) 0 W)) := Lib.hid fun W hW => by
      have := symbol_any t 0 (by unfold maxLen; omega) W hW
      unfold symN symE at this
      rwa [el, if_pos ⟨by omega, by omega⟩, if_pos ⟨by omega, by omega⟩, Int.toNat_zero, List.drop_zero] at this
    have HV : chkE 3 t.data.toList = if (0 < t.size ∧ symL t.data.toList = t.size) then 0 else 32 := by
      unfold chkE
      rw [if_neg (by decide)]
      unfold validB
      rw [el]
      show (if decide (0 < t.size ∧ symL t.data.toList = t.size) = true then (0 : Int) else 32) = _
      by_cases h : (0 < t.size ∧ symL t.data.toList = t.size)
      · rw [if_pos h, if_pos (decide_eq_true h)]
      · rw [if_neg h, if_neg (by rw [decide_eq_false h]; simp)]
    obtain ⟨n, hn⟩ : ∃ n, symL t.data.toList = n := ⟨_, rfl⟩
    rw [hn] at L HV
    clear el hn
    by_cases he : n = t.size
    · have q1 : ((n : Int) == t.size) = true := by rw [beq_iff_eq]; omega
      by_cases hz : 0 < t.size
      · have HV2 : Hid (chkE 3 t.data.toList = 0) := Lib.hid (by rw [HV, if_pos ⟨hz, he⟩])
        have q2 := empty_no t hz
        clear HV he
        go_enter Tryz.func32, Tryz.ntmps32
        go_wp2_with fail
        refine (L.out _ HF.out.2).mono ?_
        rintro e w2 ⟨rfl, hb⟩
        have HB := Lib.hid (hb.below w.heap.size)
        clear hb
        go_wp2_with fail
        go_ret
        exact ⟨by rw [HV2.out]; rfl, HB.out⟩
      · have HV2 : Hid (chkE 3 t.data.toList = 32) := Lib.hid (by rw [HV, if_neg (fun h => hz h.1)])
        have q2 := empty_yes t hz
        clear HV he
        go_enter Tryz.func32, Tryz.ntmps32
        go_wp2_with fail
        refine (L.out _ HF.out.2).mono ?_
        rintro e w2 ⟨rfl, hb⟩
        have HB := Lib.hid (hb.below w.heap.size)
        clear hb
        go_wp2_with fail
        go_ret
        exact ⟨by rw [HV2.out]; rfl, HB.out⟩
    · have q1 : ((n : Int) == t.size) = false := by rw [beq_eq_false_iff_ne]; omega
      have HV2 : Hid (chkE 3 t.data.toList = 32) := Lib.hid (by rw [HV, if_neg (fun h => he h.2)])
      clear HV he
      go_enter Tryz.func32, Tryz.ntmps32
      go_wp2_with fail
      refine (L.out _ HF.out.2).mono ?_
      rintro e w2 ⟨rfl, hb⟩
      have HB := Lib.hid (hb.below w.heap.size)
      clear hb
      go_wp2_with fail
      go_ret
      exact ⟨by rw [HV2.out]; rfl, HB.out⟩
  have g3 : (k == 3) = false := beq_eq_false_iff_ne.2 k3
  have HV : Hid (chkE k t.data.toList = 32) := Lib.hid (by
    unfold chkE validB
    rw [if_neg k1, if_neg k1, if_neg k2, if_neg k3]
    rfl)
  clear k1 k2 k3
  go_enter Tryz.func32, Tryz.ntmps32
  go_wp2_with fail
  go_ret
  exact ⟨by rw [HV.out]; rfl, Below.refl _ _⟩
end Go.Proofs.YtdinaedknlkicaaGreatDoor

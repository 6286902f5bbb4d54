/-
  Contract of nodes.Same at the landed code (layer 4).
-/
import Derived.Test.YtdinaedknlkicaaGreatDoorNodeCheck
import Derived.Outline
namespace Go.Proofs.YtdinaedknlkicaaGreatDoor.Nodes
open Go.ChangeShapes Go.WideShapes Go.ChangeAt Go.RowKit

theorem core_more {a b : List Nd} {k : Nat} (ha : k < a.length) (hb : k < b.length) (h : (a.take k).map core = (b.take k).map core) (e : core a[k] = core b[k]) : (a.take (k + 1)).map core = (b.take (k + 1)).map core := by
  rw [List.take_succ_eq_append_getElem ha, List.take_succ_eq_append_getElem hb, List.map_append, List.map_append, h]
  simp [e]
theorem core_differ {a b : List Nd} {k : Nat} (ha : k < a.length) (hb : k < b.length) (e : core a[k] ≠ core b[k]) : ¬ a.map core = b.map core := by
  intro h
  apply e
  have h1 : (a.map core)[k]? = (b.map core)[k]? := by rw [h]
  rw [List.getElem?_map, List.getElem?_map, List.getElem?_eq_getElem ha, List.getElem?_eq_getElem hb] at h1
  simpa using h1
theorem alike_len {a b : List Nd} (h : ¬ a.length = b.length) : alikeB a b = false := decide_eq_false (fun e => h (by simpa using congrArg List.length e))
theorem same_err {a b : List Nd} (h : checkV a ≠ 0) : sameV a b = (false, checkV a) := by unfold sameV; rw [if_neg h]
theorem same_err2 {a b : List Nd} (h : checkV a = 0) (h2 : checkV b ≠ 0) : sameV a b = (false, checkV b) := by unfold sameV; rw [if_pos h, if_neg h2]
theorem same_is {a b : List Nd} (h : checkV a = 0) (h2 : checkV b = 0) : sameV a b = (alikeB a b, 0) := by unfold sameV; rw [if_pos h, if_pos h2]
set_option maxRecDepth 100000 in
set_option maxHeartbeats 2000000 in
theorem nodesSame_any (va vb : Value) (a b : List Nd) (w : World) (hA : ReadsN w va a) (hB : ReadsN w vb b) (hn : a.length ≤ 1000000) (hm : b.length ≤ 1000000) :
    Calls Tryz.prog 23 #[va, vb] w fun e w' => e = .returned (.tuple #[.bool (sameV a b).1, .int .i64 (sameV a b).2]) ∧ Below w.heap.size w w' := by
  obtain ⟨ad, cap, rfl⟩ := hA.shape
  obtain ⟨ad2, cap2, rfl⟩ := hB.shape
  have CA := Lib.hid (fun (W : World) h => nodesCheck_any (.slice ad a.length cap) a W h hn)
  have CB := Lib.hid (fun (W : World) h => nodesCheck_any (.slice ad2 b.length cap2) b W h hm)
  have RA := Lib.hid hA
  have RB := Lib.hid hB
  clear hA hB
  by_cases ha : checkV a = 0
  case neg =>
    have q1 : (checkV a != 0) = true := by rw [bne_iff_ne]; exact ha
    have H := Lib.hid (same_err (b := b) ha)
    clear ha
    go_enter Tryz.func23, Tryz.ntmps23
    go_wp2_with fail
    refine (CA.out _ RA.out).mono ?_
    rintro e w1 ⟨rfl, hb⟩
    have HB := Lib.hid hb
    clear hb
    go_wp2_with fail
    go_ret2
    exact ⟨by rw [H.out]; rfl, HB.out⟩
  by_cases hb0 : checkV b = 0
  case neg =>
    have q1 : (checkV b != 0) = true := by rw [bne_iff_ne]; exact hb0
    have H := Lib.hid (same_err2 ha hb0)
    rw [ha] at CA
    clear ha hb0
    go_enter Tryz.func23, Tryz.ntmps23
    go_wp2_with fail
    refine (CA.out _ RA.out).mono ?_
    rintro e w1 ⟨rfl, hb⟩
    have HB := Lib.hid hb
    have RB1 := Lib.hid (RB.out.below hb)
    clear hb
    go_wp2_with fail
    refine (CB.out _ RB1.out).mono ?_
    rintro e w2 ⟨rfl, hb⟩
    have HB2 := Lib.hid (below_then HB.out hb)
    clear hb
    go_wp2_with fail
    go_ret2
    exact ⟨by rw [H.out]; rfl, HB2.out⟩
  have HS := Lib.hid (same_is ha hb0)
  rw [ha] at CA
  rw [hb0] at CB
  clear ha hb0
  by_cases hl : a.length = b.length
  case neg =>
    have q0 : ((a.length : Int) != b.length) = true := by rw [bne_iff_ne]; omega
    have H : Hid (alikeB a b = false) := Lib.hid (alike_len hl)
    clear hl
    go_enter Tryz.func23, Tryz.ntmps23
    go_wp2_with fail
    refine (CA.out _ RA.out).mono ?_
    rintro e w1 ⟨rfl, hb⟩
    have HB := Lib.hid hb
    have RB1 := Lib.hid (RB.out.below hb)
    clear hb
    go_wp2_with fail
    refine (CB.out _ RB1.out).mono ?_
    rintro e w2 ⟨rfl, hb⟩
    have HB2 := Lib.hid (below_then HB.out hb)
    clear hb
    go_wp2_with fail
    go_ret2
    exact ⟨by rw [HS.out, H.out]; rfl, HB2.out⟩
  have q0 : ((a.length : Int) != b.length) = false := by rw [bne_eq_false_iff_eq]; omega
  have HL := Lib.hid hl
  clear hl
  go_enter Tryz.func23, Tryz.ntmps23
  go_wp2_with fail
  refine (CA.out _ RA.out).mono ?_
  rintro e w1 ⟨rfl, hb⟩
  have HB := Lib.hid hb
  have RB1 := Lib.hid (RB.out.below hb)
  clear hb
  go_wp2_with fail
  refine (CB.out _ RB1.out).mono ?_
  rintro e w2 ⟨rfl, hb⟩
  have HB2 := Lib.hid (below_then HB.out hb)
  clear hb
  go_wp2_with fail
  go_loopg [28] a.length (fun g i wx => ∃ k : Nat, k + g = a.length ∧ i = .int .i64 k ∧ Hid ((a.take k).map core = (b.take k).map core) ∧ Hid (Below w.heap.size w wx))
  case atStart => exact ⟨0, by omega, rfl, Lib.hid rfl, HB2⟩
  case round =>
    obtain ⟨k, hk, rfl, HK, HX⟩ := hrel
    cases gk with
    | zero =>
      obtain rfl : k = a.length := by omega
      have H : Hid (alikeB a b = true) := Lib.hid (by
        have := HK.out
        rw [List.take_length, HL.out, List.take_length] at this
        exact decide_eq_true this)
      clear hk
      go_wp2_with fail
      go_ret2
      exact ⟨by rw [HS.out, H.out]; rfl, HX.out⟩
    | succ g =>
      have hlt : k < a.length := by omega
      have hlt2 : k < b.length := by have := HL.out; omega
      have hlt3 : (k : Int) < b.length := by omega
      obtain ⟨ba, oa, capa, hva, hba, c0, c1, c2, c3, c4⟩ := (RA.out.below HX.out).nd k hlt
      obtain ⟨bb, ob, capb, hvb, hbb, d0, d1, d2, d3, d4⟩ := (RB.out.below HX.out).nd k hlt2
      cases hva
      cases hvb
      have hf : ((a[k].kind == b[k].kind) && ((a[k].n == b[k].n) && ((a[k].a == b[k].a) && (a[k].b == b[k].b)))) = decide (core a[k] = core b[k]) := by
        unfold core
        rw [Bool.eq_iff_iff, decide_eq_true_iff]
        simp
      by_cases hq : core a[k] = core b[k]
      · have H := Lib.hid (core_more hlt hlt2 HK.out hq)
        rw [decide_eq_true hq] at hf
        simp only [Bool.and_eq_true] at hf
        obtain ⟨q1, q2, q3, q4⟩ := hf
        clear hq
        go_wp2_with fail
        go_roundg g
        case measure => omega
        case rel => exact ⟨k + 1, by omega, by go_num, H, Lib.hid ((HX.out.alloc HX.out.size _).alloc (by have := HX.out.size; simp at this ⊢; omega) _)⟩
      · have H : Hid (alikeB a b = false) := Lib.hid (decide_eq_false (core_differ hlt hlt2 hq))
        rw [decide_eq_false hq] at hf
        clear hq
        cases q1 : (a[k].kind == b[k].kind)
        · skip
          clear hf
          go_wp2_with fail
          go_ret2
          exact ⟨by rw [HS.out, H.out]; rfl, (HX.out.alloc HX.out.size _).alloc (by have := HX.out.size; simp at this ⊢; omega) _⟩
        cases q2 : (a[k].n == b[k].n)
        · skip
          clear hf
          go_wp2_with fail
          go_ret2
          exact ⟨by rw [HS.out, H.out]; rfl, (HX.out.alloc HX.out.size _).alloc (by have := HX.out.size; simp at this ⊢; omega) _⟩
        cases q3 : (a[k].a == b[k].a)
        · skip
          clear hf
          go_wp2_with fail
          go_ret2
          exact ⟨by rw [HS.out, H.out]; rfl, (HX.out.alloc HX.out.size _).alloc (by have := HX.out.size; simp at this ⊢; omega) _⟩
        cases q4 : (a[k].b == b[k].b)
        · skip
          clear hf
          go_wp2_with fail
          go_ret2
          exact ⟨by rw [HS.out, H.out]; rfl, (HX.out.alloc HX.out.size _).alloc (by have := HX.out.size; simp at this ⊢; omega) _⟩
        rw [q1, q2, q3, q4] at hf
        cases hf
end Go.Proofs.YtdinaedknlkicaaGreatDoor.Nodes

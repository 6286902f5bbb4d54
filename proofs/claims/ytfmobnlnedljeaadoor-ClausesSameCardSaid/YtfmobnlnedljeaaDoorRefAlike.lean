/-
  Contract of the reference of layer 4: Alike.
-/
import Derived.Test.YtfmobnlnedljeaaDoorRefEqual
import Derived.Test.YtfmobnlnedljeaaDoorNodeSame
import Derived.Outline
import Derived.RegionTactic
import Derived.BigRegion
namespace Go.Proofs.YtfmobnlnedljeaaDoor.Nodes
open Go.ChangeShapes Go.WideShapes Go.ChangeAt Go.RowKit

/-- A node's cells, behind up to two allocations. -/
theorem nd_far {w : World} {b o : Nat} {x : Nd} (h : NdAt w b o x) (hb : b < w.heap.size) (ob : Obj) : NdAt (w.alloc ob) b o x := h.below hb ((Below.refl _ w).alloc (Nat.le_refl _) ob)
theorem two_blocks {w wx : World} (h : Below w.heap.size w wx) (o o2 : Obj) : Below w.heap.size w ((wx.alloc o).alloc o2).drew :=
  below_drewN (((h.alloc h.size o).alloc (by have := h.size; simp; omega) o2)) 1
set_option maxRecDepth 100000 in
set_option maxHeartbeats 2000000 in
theorem refAlike_any (va vb : Value) (a b : List Nd) (w : World) (hA : ReadsN w va a) (hB : ReadsN w vb b) (_hn : a.length ≤ 1000000) :
    Calls Tryd.prog 44 #[va, vb] w fun e w' => e = .returned (.bool (alikeB a b)) ∧ Below w.heap.size w w' := by
  obtain ⟨ad, cap, rfl⟩ := hA.shape
  obtain ⟨ad2, cap2, rfl⟩ := hB.shape
  have RA := Lib.hid hA
  have RB := Lib.hid hB
  clear hA hB
  by_cases hl : a.length = b.length
  case neg =>
    have q0 : ((a.length : Int) != b.length) = true := by rw [bne_iff_ne]; omega
    have H : Hid (alikeB a b = false) := Lib.hid (alike_len hl)
    clear hl
    go_enter Tryd.func44, Tryd.ntmps44
    go_wp2_with fail
    go_ret
    exact ⟨by rw [H.out]; rfl, Below.refl _ _⟩
  have q0 : ((a.length : Int) != b.length) = false := by rw [bne_eq_false_iff_eq]; omega
  have HL := Lib.hid hl
  clear hl
  go_enter Tryd.func44, Tryd.ntmps44
  go_wp2_with fail
  go_loopg [5] a.length (fun g i wx => ∃ k : Nat, k + g = a.length ∧ i = .int .i64 k ∧ Hid ((a.take k).map core = (b.take k).map core) ∧ Hid (Below w.heap.size w wx))
  case atStart => exact ⟨0, by omega, rfl, Lib.hid rfl, Lib.hid (Below.refl _ _)⟩
  case round =>
    obtain ⟨k, hk, rfl, HK, HX⟩ := hrel
    cases gk with
    | zero =>
      obtain rfl : k = a.length := by omega
      have H : Hid (alikeB a b = true) := Lib.hid (by
        have := HK.out
        rw [List.take_length, HL.out, List.take_length] at this
        exact decide_eq_true this)
      clear hk
      go_wp2_with fail
      go_ret
      exact ⟨by rw [H.out]; rfl, HX.out⟩
    | succ g =>
      have hlt : k < a.length := by omega
      have hlt2 : k < b.length := by have := HL.out; omega
      have hlt3 : (k : Int) < b.length := by omega
      obtain ⟨ba, oa, capa, hva, hba, hca⟩ := (RA.out.below HX.out).nd k hlt
      obtain ⟨bb, ob, capb, hvb, hbb, hcb⟩ := (RB.out.below HX.out).nd k hlt2
      cases hva
      cases hvb
      obtain ⟨c0, c1, c2, c3, c4⟩ := hca
      obtain ⟨d0, d1, d2, d3, d4⟩ := hcb
      have ca : ∀ o, NdAt (wr.alloc o) ba (oa + k * 5) a[k] := fun o => nd_far ⟨c0, c1, c2, c3, c4⟩ hba o
      have cb : ∀ o, NdAt (wr.alloc o) bb (ob + k * 5) b[k] := fun o => nd_far ⟨d0, d1, d2, d3, d4⟩ hbb o
      unfold NdAt at ca cb
      have hf : ((a[k].kind == b[k].kind) && ((a[k].n == b[k].n) && ((a[k].a == b[k].a) && (a[k].b == b[k].b)))) = decide (core a[k] = core b[k]) := by
        unfold core
        rw [Bool.eq_iff_iff, decide_eq_true_iff]
        simp
      by_cases hq : core a[k] = core b[k]
      · have H := Lib.hid (core_more hlt hlt2 HK.out hq)
        rw [decide_eq_true hq] at hf
        simp only [Bool.and_eq_true] at hf
        obtain ⟨q1, q2, q3, q4⟩ := hf
        clear hq
        go_wp2_with fail
        go_region
        all_goals
          go_wp2_with fail
          go_roundg g
          case measure => omega
          case rel => exact ⟨k + 1, by omega, by go_num, H, Lib.hid (two_blocks HX.out _ _)⟩
      · have H : Hid (alikeB a b = false) := Lib.hid (decide_eq_false (core_differ hlt hlt2 hq))
        rw [decide_eq_false hq] at hf
        clear hq
        cases q1 : (a[k].kind == b[k].kind)
        · clear hf
          go_wp2_with fail
          go_region
          all_goals
            go_wp2_with fail
            go_ret
            exact ⟨by rw [H.out]; rfl, two_blocks HX.out _ _⟩
        cases q2 : (a[k].n == b[k].n)
        · clear hf
          go_wp2_with fail
          go_region
          all_goals
            go_wp2_with fail
            go_ret
            exact ⟨by rw [H.out]; rfl, two_blocks HX.out _ _⟩
        cases q3 : (a[k].a == b[k].a)
        · clear hf
          go_wp2_with fail
          go_region
          all_goals
            go_wp2_with fail
            go_ret
            exact ⟨by rw [H.out]; rfl, two_blocks HX.out _ _⟩
        cases q4 : (a[k].b == b[k].b)
        · clear hf
          go_wp2_with fail
          go_region
          all_goals
            go_wp2_with fail
            go_ret
            exact ⟨by rw [H.out]; rfl, two_blocks HX.out _ _⟩
        rw [q1, q2, q3, q4] at hf
        cases hf
end Go.Proofs.YtfmobnlnedljeaaDoor.Nodes

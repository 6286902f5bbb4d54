/-
  Contract of the reference of layer 4: Equal.
-/
import Derived.Test.YtfmobnlnedljeaaDoorRefNode
import Derived.Outline
namespace Go.Proofs.YtfmobnlnedljeaaDoor.Nodes
open Go.ChangeShapes Go.WideShapes Go.ChangeAt Go.RowKit

theorem map_more {f : Nd → Int × Int × Int × Int × Int} {a b : List Nd} {k : Nat} (ha : k < a.length) (hb : k < b.length) (h : (a.take k).map f = (b.take k).map f) (e : f a[k] = f b[k]) : (a.take (k + 1)).map f = (b.take (k + 1)).map f := by
  rw [List.take_succ_eq_append_getElem ha, List.take_succ_eq_append_getElem hb, List.map_append, List.map_append, h]
  simp [e]
theorem map_differ {f : Nd → Int × Int × Int × Int × Int} {a b : List Nd} {k : Nat} (ha : k < a.length) (hb : k < b.length) (e : f a[k] ≠ f b[k]) : ¬ a.map f = b.map f := by
  intro h
  apply e
  have h1 : (a.map f)[k]? = (b.map f)[k]? := by rw [h]
  rw [List.getElem?_map, List.getElem?_map, List.getElem?_eq_getElem ha, List.getElem?_eq_getElem hb] at h1
  simpa using h1
theorem equal_len {a b : List Nd} (h : ¬ a.length = b.length) : equalB a b = false := decide_eq_false (fun e => h (by simpa using congrArg List.length e))

set_option maxRecDepth 100000 in
set_option maxHeartbeats 2000000 in
theorem refEqual_any (va vb : Value) (a b : List Nd) (w : World) (hA : ReadsN w va a) (hB : ReadsN w vb b) (_hn : a.length ≤ 1000000) :
    Calls Tryd.prog 41 #[va, vb] w fun e w' => e = .returned (.bool (equalB a b)) ∧ Draws w w' := by
  obtain ⟨ad, cap, rfl⟩ := hA.shape
  obtain ⟨ad2, cap2, rfl⟩ := hB.shape
  have RA := Lib.hid hA
  have RB := Lib.hid hB
  clear hA hB
  by_cases hl : a.length = b.length
  · have q0 : ((a.length : Int) != b.length) = false := by rw [bne_eq_false_iff_eq]; omega
    have HL := Lib.hid hl
    clear hl
    go_enter Tryd.func41, Tryd.ntmps41
    go_wp2_with fail
    go_loopg [5] a.length (fun g i wx => ∃ k : Nat, k + g = a.length ∧ i = .int .i64 k ∧ Hid ((a.take k).map full = (b.take k).map full) ∧ Hid (Draws w wx))
    case atStart => exact ⟨0, by omega, rfl, Lib.hid rfl, Lib.hid (Draws.refl _)⟩
    case round =>
      obtain ⟨k, hk, rfl, HK, DX⟩ := hrel
      cases gk with
      | zero =>
        obtain rfl : k = a.length := by omega
        have H : Hid (equalB a b = true) := Lib.hid (by
          have := HK.out
          rw [List.take_length, HL.out, List.take_length] at this
          exact decide_eq_true this)
        clear hk
        go_wp2_with fail
        go_ret
        exact ⟨by rw [H.out]; rfl, DX.out⟩
      | succ g =>
        have hlt : k < a.length := by omega
        have hlt2 : k < b.length := by have := HL.out; omega
        obtain ⟨ba, oa, capa, hva, hba, c0, c1, c2, c3, c4⟩ := (RA.out.below (DX.out.below _)).nd k hlt
        obtain ⟨bb, ob, capb, hvb, hbb, d0, d1, d2, d3, d4⟩ := (RB.out.below (DX.out.below _)).nd k hlt2
        cases hva
        cases hvb
        have hf : ((a[k].kind == b[k].kind) && ((a[k].n == b[k].n) && ((a[k].a == b[k].a) && ((a[k].b == b[k].b) && (a[k].at_ == b[k].at_))))) = decide (full a[k] = full b[k]) := by
          unfold full
          rw [Bool.eq_iff_iff, decide_eq_true_iff]
          simp
        by_cases hq : full a[k] = full b[k]
        · have H := Lib.hid (map_more hlt hlt2 HK.out hq)
          rw [decide_eq_true hq] at hf
          simp only [Bool.and_eq_true] at hf
          obtain ⟨q1, q2, q3, q4, q5⟩ := hf
          clear hq
          go_wp2_with fail
          go_quiet (fail)
          go_wp2_with fail
          go_roundg g
          case measure => omega
          case rel => exact ⟨k + 1, by omega, by go_num, H, Lib.hid (DX.out.drewN _)⟩
        · have H : Hid (equalB a b = false) := Lib.hid (decide_eq_false (map_differ hlt hlt2 hq))
          rw [decide_eq_false hq] at hf
          clear hq
          cases q1 : (a[k].kind == b[k].kind)
          · clear hf
            go_wp2_with fail
            go_quiet (fail)
            go_wp2_with fail
            go_ret
            exact ⟨by rw [H.out]; rfl, DX.out.drewN _⟩
          · skip
            cases q2 : (a[k].n == b[k].n)
            · clear hf
              go_wp2_with fail
              go_quiet (fail)
              go_wp2_with fail
              go_ret
              exact ⟨by rw [H.out]; rfl, DX.out.drewN _⟩
            · skip
              cases q3 : (a[k].a == b[k].a)
              · clear hf
                go_wp2_with fail
                go_quiet (fail)
                go_wp2_with fail
                go_ret
                exact ⟨by rw [H.out]; rfl, DX.out.drewN _⟩
              · skip
                cases q4 : (a[k].b == b[k].b)
                · clear hf
                  go_wp2_with fail
                  go_quiet (fail)
                  go_wp2_with fail
                  go_ret
                  exact ⟨by rw [H.out]; rfl, DX.out.drewN _⟩
                · skip
                  cases q5 : (a[k].at_ == b[k].at_)
                  · clear hf
                    go_wp2_with fail
                    go_quiet (fail)
                    go_wp2_with fail
                    go_ret
                    exact ⟨by rw [H.out]; rfl, DX.out.drewN _⟩
                  · skip
                    rw [q1, q2, q3, q4, q5] at hf
                    cases hf
  · have q0 : ((a.length : Int) != b.length) = true := by rw [bne_iff_ne]; omega
    have H : Hid (equalB a b = false) := Lib.hid (equal_len hl)
    clear hl
    go_enter Tryd.func41, Tryd.ntmps41
    go_wp2_with fail
    go_ret
    exact ⟨by rw [H.out]; rfl, Draws.refl _⟩
end Go.Proofs.YtfmobnlnedljeaaDoor.Nodes

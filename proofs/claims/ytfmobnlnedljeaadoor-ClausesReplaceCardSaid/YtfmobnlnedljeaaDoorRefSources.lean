/-
  Contracts of the references of layers 8 and 4: Sources, SameSources; Alike of nodes.
-/
import Derived.Test.YtfmobnlnedljeaaDoorRefClause
import Derived.Test.YtfmobnlnedljeaaDoorClauseTells
import Derived.Test.YtfmobnlnedljeaaDoorNodeSame
namespace Go.Proofs.YtfmobnlnedljeaaDoor.Nodes
open Go.ChangeShapes Go.WideShapes Go.ChangeAt Go.RowKit

theorem in_take {l : List Int} {i k : Nat} (hk : k < i) (hi : i < l.length) (e : l[k]'(by omega) = l[i]) : l[i] ∈ l.take i := by
  rw [← e]
  have : (l.take i)[k]? = some (l[k]'(by omega)) := by rw [List.getElem?_take_of_lt hk, List.getElem?_eq_getElem (by omega)]
  exact List.mem_of_getElem? this
theorem not_in_take {l : List Int} {i : Nat} (hi : i < l.length) (h : ∀ j (hj : j < i), l[j]'(by omega) ≠ l[i]) : l[i] ∉ l.take i := by
  intro hm
  obtain ⟨j, hj, e⟩ := List.getElem_of_mem hm
  rw [List.length_take] at hj
  rw [List.getElem_take] at e
  exact h j (by omega) e
set_option maxRecDepth 100000 in
set_option maxHeartbeats 1000000 in
theorem refSources_any (v : Value) (l : List Int) (join : Bool) (w : World) (hR : ReadsI w v l) (hn : l.length ≤ 9223372036854775807) :
    Calls Tryd.prog 22 #[v, .bool join] w fun e w' => e = .returned (.int .i64 (sourcesV l join)) ∧ Draws w w' := by
  obtain ⟨ad, cap, rfl⟩ := hR.shape
  by_cases h4 : 4 < l.length
  · have q4 : (4 : Int) < l.length := by omega
    rw [sources_many h4]
    clear hR
    go_enter Tryd.func22, Tryd.ntmps22
    go_wp2_with fail
    go_ret
    exact ⟨rfl, Draws.refl _⟩
  have q4 : ¬ (4 : Int) < l.length := by omega
  by_cases h0 : l.length = 0
  · have q0 : ((l.length : Int) == 0) = true := by rw [beq_iff_eq]; omega
    rw [sources_none h0]
    clear hR h0
    go_enter Tryd.func22, Tryd.ntmps22
    go_wp2_with fail
    go_ret
    exact ⟨rfl, Draws.refl _⟩
  have q0 : ((l.length : Int) == 0) = false := by rw [beq_eq_false_iff_ne]; omega
  have RI := Lib.hid hR
  have step : ∀ (_ : join = false ∨ (join = true ∧ ((l.length : Int) != 2) = false)), Calls Tryd.prog 22 #[.slice ad l.length cap, .bool join] w fun e w' => e = .returned (.int .i64 (sourcesV l join)) ∧ Draws w w' := by
    intro hj
    have hj2 : join = false ∨ l.length = 2 := hj.imp id (fun e => by have := e.2; rw [bne_eq_false_iff_eq] at this; omega)
    have SO := Lib.hid (fun h => sources_out h4 h0 hj2 h)
    have SI := Lib.hid (fun h => sources_in h4 h0 hj2 h)
    clear hR hj2 h4 h0
    rcases hj with rfl | ⟨rfl, q2⟩
    all_goals
      go_enter Tryd.func22, Tryd.ntmps22
      go_wp2_with fail
      go_loopg [5] l.length (fun g i wx => ∃ k : Nat, k + g = l.length ∧ i = .int .i64 k ∧ Hid ((l.take k).all inS = true) ∧ Hid (w = wx))
      case atStart => exact ⟨0, by omega, rfl, Lib.hid (by simp), Lib.hid rfl⟩
      case round =>
        obtain ⟨k, hk, rfl, HA, HW⟩ := hrel
        obtain rfl := HW.out
        cases gk with
        | zero =>
          obtain rfl : k = l.length := by omega
          have hall : l.all inS = true := by have := HA.out; rwa [List.take_length] at this
          have H := Lib.hid (SI.out hall)
          clear hk hall
          go_wp2_with fail
          go_loopg [6] l.length (fun g i wx => ∃ k : Nat, k + g = l.length ∧ i = .int .i64 k ∧ Hid ((l.take k).Nodup) ∧ Hid (Draws w wx))
          case atStart => exact ⟨0, by omega, rfl, Lib.hid (by simp), Lib.hid (Draws.refl _)⟩
          case round =>
            obtain ⟨i, hi, rfl, HN, DX⟩ := hrel
            cases gk with
            | zero =>
              obtain rfl : i = l.length := by omega
              have ho : onceB l = true := once_yes HN.out
              have H2 : Hid (sourcesV l _ = 0) := Lib.hid (by rw [H.out, ho]; rfl)
              clear hi ho
              go_wp2_with fail
              go_ret
              exact ⟨by rw [H2.out]; rfl, DX.out⟩
            | succ g =>
              have hlt : i < l.length := by omega
              have hlti : (i : Int) < l.length := by omega
              go_wp2_with fail
              go_loopg [7] i (fun g2 j wx => ∃ k : Nat, k + g2 = i ∧ j = .int .i64 k ∧ Hid (∀ j (hj : j < k) (hk : k ≤ i), l[j]'(by omega) ≠ l[i]) ∧ Hid (Draws w wx))
              case atStart => exact ⟨0, by omega, rfl, Lib.hid (fun j hj _ => absurd hj (Nat.not_lt_zero _)), DX⟩
              case round =>
                obtain ⟨j, hj, rfl, HJ, DY⟩ := hrel
                cases gk with
                | zero =>
                  obtain rfl : j = i := by omega
                  have HM := Lib.hid (once_take_more hlt HN.out (not_in_take hlt (fun m hm => HJ.out m hm (Nat.le_refl _))))
                  clear hj
                  go_wp2_with fail
                  go_roundg g
                  case measure => omega
                  case rel => exact ⟨j + 1, by omega, by go_num, HM, DY⟩
                | succ g2 =>
                  have hjl : j < l.length := by omega
                  have hji : (j : Int) < i := by omega
                  have hjl2 : (j : Int) < l.length := by omega
                  have HQ := Lib.hid (fun (e : l[j] = l[i]) => once_not hlt (in_take (by omega) hlt e))
                  have HR2 : Hid (l[j] ≠ l[i] → ∀ m (hm : m < j + 1) (hk : j + 1 ≤ i), l[m]'(by omega) ≠ l[i]) := Lib.hid fun e m hm hk2 => by
                    rcases Nat.lt_succ_iff_lt_or_eq.1 hm with h | rfl
                    · exact HJ.out m h (by omega)
                    · exact e
                  obtain ⟨b1, o1, cp1, e1, hb1, c1⟩ := (RI.out.below (DY.out.below _)).num j hjl
                  obtain ⟨b2, o2, cp2, e2, hb2, c2⟩ := (RI.out.below (DY.out.below _)).num i hlt
                  cases e1
                  cases e2
                  obtain ⟨x, hx⟩ : ∃ x, l[j] = x := ⟨_, rfl⟩
                  obtain ⟨y, hy⟩ : ∃ x, l[i] = x := ⟨_, rfl⟩
                  rw [hx, hy] at HQ
                  have HX := Lib.hid hx
                  have HY := Lib.hid hy
                  rw [hx] at c1
                  rw [hy] at c2
                  clear hx hy
                  by_cases hq : x = y
                  · have ho := HQ.out hq
                    have H2 : Hid (sourcesV l _ = 43) := Lib.hid (by rw [H.out, ho]; rfl)
                    have q1 : (x == y) = true := by rw [beq_iff_eq]; exact hq
                    clear hq ho
                    go_wp2_with fail
                    go_quiet (fail)
                    go_wp2_with fail
                    go_ret
                    exact ⟨by rw [H2.out]; rfl, DY.out.drewN _⟩
                  · have HM := Lib.hid (HR2.out (by rw [HX.out, HY.out]; exact hq))
                    have q1 : (x == y) = false := by rw [beq_eq_false_iff_ne]; exact hq
                    clear hq
                    go_wp2_with fail
                    go_quiet (fail)
                    go_wp2_with fail
                    go_roundg g2
                    case measure => omega
                    case rel => exact ⟨j + 1, by omega, by go_num, HM, Lib.hid (DY.out.drewN _)⟩
        | succ g =>
          have hlt : k < l.length := by omega
          obtain ⟨b, o, cp, e, hb, hc⟩ := RI.out.num k hlt
          cases e
          have HM := Lib.hid (fun (e : inS l[k] = true) => all_more hlt HA.out e)
          have HO := Lib.hid (fun (e : inS l[k] = false) => all_out hlt e)
          obtain ⟨x, hx⟩ : ∃ x, l[k] = x := ⟨_, rfl⟩
          rw [hx] at hc HM HO
          clear hx
          by_cases x0 : x < 0
          · have H := Lib.hid (SO.out (HO.out (inS_low x0)))
            clear HM HO
            go_wp2_with fail
            go_ret
            exact ⟨by rw [H.out]; rfl, Draws.refl _⟩
          by_cases x3 : 3 < x
          · have H := Lib.hid (SO.out (HO.out (inS_high x3)))
            clear HM HO
            go_wp2_with fail
            go_ret
            exact ⟨by rw [H.out]; rfl, Draws.refl _⟩
          have H := Lib.hid (HM.out (decide_eq_true (by omega)))
          have x3' : decide (3 < x) = false := decide_eq_false x3
          clear HM HO
          go_wp2_with fail
          go_roundg g
          case measure => omega
          case rel => exact ⟨k + 1, by omega, by go_num, H, Lib.hid rfl⟩
  by_cases hj : join = false
  · exact step (.inl hj)
  replace hj : join = true := by cases hq : join; exact absurd hq hj; rfl
  by_cases h2 : l.length = 2
  · exact step (.inr ⟨hj, by rw [bne_eq_false_iff_eq]; omega⟩)
  · have q2 : ((l.length : Int) != 2) = true := by rw [bne_iff_ne]; omega
    rw [sources_two h4 hj h2]
    subst hj
    clear step RI hR h0 h4 h2
    go_enter Tryd.func22, Tryd.ntmps22
    go_wp2_with fail
    go_ret
    exact ⟨rfl, Draws.refl _⟩
set_option maxRecDepth 100000 in
set_option maxHeartbeats 1000000 in
theorem refSameSources_any (va vb : Value) (a b : List Int) (w : World) (hA : ReadsI w va a) (hB : ReadsI w vb b) (hn : a.length ≤ 9223372036854775807) :
    Calls Tryd.prog 45 #[va, vb] w fun e w' => e = .returned (.bool (decide (a = b))) ∧ Draws w w' := by
  obtain ⟨ad, cap, rfl⟩ := hA.shape
  obtain ⟨ad2, cap2, rfl⟩ := hB.shape
  have RA := Lib.hid hA
  have RB := Lib.hid hB
  clear hA hB
  by_cases hl : a.length = b.length
  · have q0 : ((a.length : Int) != b.length) = false := by rw [bne_eq_false_iff_eq]; omega
    have HL := Lib.hid hl
    clear hl
    go_enter Tryd.func45, Tryd.ntmps45
    go_wp2_with fail
    go_loopg [5] a.length (fun g i wx => ∃ k : Nat, k + g = a.length ∧ i = .int .i64 k ∧ Hid (a.take k = b.take k) ∧ Hid (Draws w wx))
    case atStart => exact ⟨0, by omega, rfl, Lib.hid rfl, Lib.hid (Draws.refl _)⟩
    case round =>
      obtain ⟨k, hk, rfl, HK, DX⟩ := hrel
      cases gk with
      | zero =>
        obtain rfl : k = a.length := by omega
        have H : Hid (decide (a = b) = true) := Lib.hid (by
          have := HK.out
          rw [List.take_length, HL.out, List.take_length] at this
          exact decide_eq_true this)
        clear hk
        go_wp2_with fail
        go_ret
        exact ⟨by rw [H.out]; rfl, DX.out⟩
      | succ g =>
        have hlt : k < a.length := by omega
        have hlt2 : k < b.length := by have := HL.out; omega
        have hlt3 : (k : Int) < b.length := by omega
        obtain ⟨ba, oa, capa, hva, hba, c0⟩ := (RA.out.below (DX.out.below _)).num k hlt
        obtain ⟨bb, ob, capb, hvb, hbb, d0⟩ := (RB.out.below (DX.out.below _)).num k hlt2
        cases hva
        cases hvb
        by_cases hq : a[k] = b[k]
        · have H := Lib.hid (take_same hlt hlt2 HK.out hq)
          have q1 : (a[k] != b[k]) = false := by rw [bne_eq_false_iff_eq]; exact hq
          clear hq
          go_wp2_with fail
          go_quiet (fail)
          go_wp2_with fail
          go_roundg g
          case measure => omega
          case rel => exact ⟨k + 1, by omega, by go_num, H, Lib.hid (DX.out.drewN _)⟩
        · have H : Hid (decide (a = b) = false) := Lib.hid (decide_eq_false (ints_differ hlt hlt2 hq))
          have q1 : (a[k] != b[k]) = true := by rw [bne_iff_ne]; exact hq
          clear hq
          go_wp2_with fail
          go_quiet (fail)
          go_wp2_with fail
          go_ret
          exact ⟨by rw [H.out]; rfl, DX.out.drewN _⟩
  · have q0 : ((a.length : Int) != b.length) = true := by rw [bne_iff_ne]; omega
    have H : Hid (decide (a = b) = false) := Lib.hid (decide_eq_false fun e => hl (by rw [e]))
    clear hl
    go_enter Tryd.func45, Tryd.ntmps45
    go_wp2_with fail
    go_ret
    exact ⟨by rw [H.out]; rfl, Draws.refl _⟩
end Go.Proofs.YtfmobnlnedljeaaDoor.Nodes

/-
  Texts of this seat in one: RefClause; RefSources; RefQuery; RefEqual; RefAlike; RefSame.
-/
import Derived.Test.YtdinaedknlkicaaGreatDoorPackB1
import Derived.Test.YtdinaedknlkicaaGreatDoorNodeSame
import Derived.Test.YtdinaedknlkicaaGreatDoorRefCheck
import Derived.Outline
import Derived.Test.YtdinaedknlkicaaGreatDoorRefNode
import Derived.RegionTactic
import Derived.BigRegion
/-
  Contracts of the reference of layer 8: Name, Source, Fits, Window, Sources, SameSources.
-/
namespace Go.Proofs.YtdinaedknlkicaaGreatDoor.Nodes
open Go.ChangeShapes Go.WideShapes Go.ChangeAt Go.RowKit

theorem inS_low {n : Int} (h : n < 0) : inS n = false := decide_eq_false (by omega)
theorem inS_high {n : Int} (h : 3 < n) : inS n = false := decide_eq_false (by omega)
abbrev nameBox : Obj := .cells #[.string ⟨#[97]⟩, .string ⟨#[98]⟩, .string ⟨#[99]⟩, .string ⟨#[100]⟩] 9
theorem name_cells (w : World) : ∀ k : Nat, k < 4 → (w.alloc nameBox).cell? ⟨w.heap.size, k, none⟩ = some (.string (nameAt k)) := by
  have e : (w.alloc nameBox).heap[w.heap.size]? = some nameBox := heap_alloc_new _ _
  intro k hk
  unfold World.cell?
  simp only [e]
  match k, hk with
  | 0, _ => rfl
  | 1, _ => rfl
  | 2, _ => rfl
  | 3, _ => rfl
/-! ### Windows -/
theorem refFits_any (x : Wn) (w : World) : Calls Tryz.prog 28 #[winVal x] w fun e w' => e = .returned (.bool (fitsW x)) ∧ Below w.heap.size w w' := by
  obtain ⟨k, s, e⟩ := x
  unfold winVal
  simp only
  have no : ∀ (_ : ¬ (1 ≤ s ∧ s ≤ 1073741824 ∧ ((k = 2 ∧ 1 ≤ e ∧ e ≤ s ∧ s ≤ 16 * e) ∨ ((k = 1 ∨ k = 3) ∧ e = 0)))), fitsW ⟨k, s, e⟩ = false := fun h => decide_eq_false h
  have yes : ∀ (_ : (1 ≤ s ∧ s ≤ 1073741824 ∧ ((k = 2 ∧ 1 ≤ e ∧ e ≤ s ∧ s ≤ 16 * e) ∨ ((k = 1 ∨ k = 3) ∧ e = 0)))), fitsW ⟨k, s, e⟩ = true := fun h => decide_eq_true h
  by_cases h1 : s < 1
  · rw [no (by omega)]
    clear no yes
    go_enter Tryz.func28, Tryz.ntmps28
    go_wp2_with fail
    go_ret
    exact ⟨rfl, box_below _ _⟩
  by_cases h2 : 1073741824 < s
  · rw [no (by omega)]
    clear no yes
    go_enter Tryz.func28, Tryz.ntmps28
    go_wp2_with fail
    go_ret
    exact ⟨rfl, box_below _ _⟩
  by_cases k2 : k = 2
  · subst k2
    by_cases h3 : 1 ≤ e
    · by_cases h4 : e ≤ s
      · have hw : wrap64 (16 * e) = 16 * e := by unfold wrap64; omega
        by_cases h5 : s ≤ 16 * e
        · rw [yes (by omega)]
          clear no yes
          go_enter Tryz.func28, Tryz.ntmps28
          go_wp2_with fail
          go_ret
          exact ⟨rfl, box_below _ _⟩
        · rw [no (by omega)]
          have h6 : decide (s ≤ 16 * e) = false := decide_eq_false h5
          clear no yes
          go_enter Tryz.func28, Tryz.ntmps28
          go_wp2_with fail
          go_ret
          exact ⟨rfl, box_below _ _⟩
      · rw [no (by omega)]
        have h6 : decide (e ≤ s) = false := decide_eq_false h4
        clear no yes
        go_enter Tryz.func28, Tryz.ntmps28
        go_wp2_with fail
        go_ret
        exact ⟨rfl, box_below _ _⟩
    · rw [no (by omega)]
      have h6 : decide (1 ≤ e) = false := decide_eq_false h3
      clear no yes
      go_enter Tryz.func28, Tryz.ntmps28
      go_wp2_with fail
      go_ret
      exact ⟨rfl, box_below _ _⟩
  have q2 : (k == 2) = false := by rw [beq_eq_false_iff_ne]; exact k2
  have q : (k = 1 ∨ ((k == 1) = false ∧ k = 3)) ∨ ((k == 1) = false ∧ (k == 3) = false) := by
    by_cases h : k = 1
    · exact .inl (.inl h)
    · by_cases h' : k = 3
      · exact .inl (.inr ⟨by rw [beq_eq_false_iff_ne]; exact h, h'⟩)
      · exact .inr ⟨by rw [beq_eq_false_iff_ne]; exact h, by rw [beq_eq_false_iff_ne]; exact h'⟩
  rcases q with q | ⟨q, q3⟩
  · have hk : k = 1 ∨ k = 3 := q.imp id (·.2)
    cases h0 : (e == 0)
    · rw [no (by rw [beq_eq_false_iff_ne] at h0; omega)]
      clear no yes hk k2
      rcases q with rfl | ⟨q, rfl⟩
      all_goals
        go_enter Tryz.func28, Tryz.ntmps28
        go_wp2_with fail
        go_ret
        exact ⟨rfl, box_below _ _⟩
    · rw [yes (by rw [beq_iff_eq] at h0; omega)]
      clear no yes hk k2
      rcases q with rfl | ⟨q, rfl⟩
      all_goals
        go_enter Tryz.func28, Tryz.ntmps28
        go_wp2_with fail
        go_ret
        exact ⟨rfl, box_below _ _⟩
  · rw [no (by rw [beq_eq_false_iff_ne] at q q3; omega)]
    clear no yes k2
    go_enter Tryz.func28, Tryz.ntmps28
    go_wp2_with fail
    go_ret
    exact ⟨rfl, box_below _ _⟩
end Go.Proofs.YtdinaedknlkicaaGreatDoor.Nodes
/-
  Contracts of the references of layers 8 and 4: Sources, SameSources; Alike of nodes.
-/
namespace Go.Proofs.YtdinaedknlkicaaGreatDoor.Nodes
open Go.ChangeShapes Go.WideShapes Go.ChangeAt Go.RowKit

theorem in_take {l : List Int} {i k : Nat} (hk : k < i) (hi : i < l.length) (e : l[k]'(by omega) = l[i]) : l[i] ∈ l.take i := by
  rw [← e]
  have : (l.take i)[k]? = some (l[k]'(by omega)) := by rw [List.getElem?_take_of_lt hk, List.getElem?_eq_getElem (by omega)]
  exact List.mem_of_getElem? this
theorem not_in_take {l : List Int} {i : Nat} (hi : i < l.length) (h : ∀ j (hj : j < i), l[j]'(by omega) ≠ l[i]) : l[i] ∉ l.take i := by
  intro hm
  obtain ⟨j, hj, e⟩ := List.getElem_of_mem hm
  rw [List.length_take] at hj
  rw [List.getElem_take] at e
  exact h j (by omega) e
set_option maxRecDepth 100000 in
set_option maxHeartbeats 1000000 in
theorem refSources_any (v : Value) (l : List Int) (join : Bool) (w : World) (hR : ReadsI w v l) (hn : l.length ≤ 9223372036854775807) :
    Calls Tryz.prog 27 #[v, .bool join] w fun e w' => e = .returned (.int .i64 (sourcesV l join)) ∧ Draws w w' := by
  obtain ⟨ad, cap, rfl⟩ := hR.shape
  by_cases h4 : 4 < l.length
  · have q4 : (4 : Int) < l.length := by omega
    rw [sources_many h4]
    clear hR
    go_enter Tryz.func27, Tryz.ntmps27
    go_wp2_with fail
    go_ret
    exact ⟨rfl, Draws.refl _⟩
  have q4 : ¬ (4 : Int) < l.length := by omega
  by_cases h0 : l.length = 0
  · have q0 : ((l.length : Int) == 0) = true := by rw [beq_iff_eq]; omega
    rw [sources_none h0]
    clear hR h0
    go_enter Tryz.func27, Tryz.ntmps27
    go_wp2_with fail
    go_ret
    exact ⟨rfl, Draws.refl _⟩
  have q0 : ((l.length : Int) == 0) = false := by rw [beq_eq_false_iff_ne]; omega
  have RI := Lib.hid hR
  have step : ∀ (_ : join = false ∨ (join = true ∧ ((l.length : Int) != 2) = false)), Calls Tryz.prog 27 #[.slice ad l.length cap, .bool join] w fun e w' => e = .returned (.int .i64 (sourcesV l join)) ∧ Draws w w' := by
    intro hj
    have hj2 : join = false ∨ l.length = 2 := hj.imp id (fun e => by have := e.2; rw [bne_eq_false_iff_eq] at this; omega)
    have SO := Lib.hid (fun h => sources_out h4 h0 hj2 h)
    have SI := Lib.hid (fun h => sources_in h4 h0 hj2 h)
    clear hR hj2 h4 h0
    rcases hj with rfl | ⟨rfl, q2⟩
    all_goals
      go_enter Tryz.func27, Tryz.ntmps27
      go_wp2_with fail
      go_loopg [5] l.length (fun g i wx => ∃ k : Nat, k + g = l.length ∧ i = .int .i64 k ∧ Hid ((l.take k).all inS = true) ∧ Hid (w = wx))
      case atStart => exact ⟨0, by omega, rfl, Lib.hid (by simp), Lib.hid rfl⟩
      case round =>
        obtain ⟨k, hk, rfl, HA, HW⟩ := hrel
        obtain rfl := HW.out
        cases gk with
        | zero =>
          obtain rfl : k = l.length := by omega
          have hall : l.all inS = true := by have := HA.out; rwa [List.take_length] at this
          have H := Lib.hid (SI.out hall)
          clear hk hall
          go_wp2_with fail
          go_loopg [6] l.length (fun g i wx => ∃ k : Nat, k + g = l.length ∧ i = .int .i64 k ∧ Hid ((l.take k).Nodup) ∧ Hid (Draws w wx))
          case atStart => exact ⟨0, by omega, rfl, Lib.hid (by simp), Lib.hid (Draws.refl _)⟩
          case round =>
            obtain ⟨i, hi, rfl, HN, DX⟩ := hrel
            cases gk with
            | zero =>
              obtain rfl : i = l.length := by omega
              have ho : onceB l = true := once_yes HN.out
              have H2 : Hid (sourcesV l _ = 0) := Lib.hid (by rw [H.out, ho]; rfl)
              clear hi ho
              go_wp2_with fail
              go_ret
              exact ⟨by rw [H2.out]; rfl, DX.out⟩
            | succ g =>
              have hlt : i < l.length := by omega
              have hlti : (i : Int) < l.length := by omega
              go_wp2_with fail
              go_loopg [7] i (fun g2 j wx => ∃ k : Nat, k + g2 = i ∧ j = .int .i64 k ∧ Hid (∀ j (hj : j < k) (hk : k ≤ i), l[j]'(by omega) ≠ l[i]) ∧ Hid (Draws w wx))
              case atStart => exact ⟨0, by omega, rfl, Lib.hid (fun j hj _ => absurd hj (Nat.not_lt_zero _)), DX⟩
              case round =>
                obtain ⟨j, hj, rfl, HJ, DY⟩ := hrel
                cases gk with
                | zero =>
                  obtain rfl : j = i := by omega
                  have HM := Lib.hid (once_take_more hlt HN.out (not_in_take hlt (fun m hm => HJ.out m hm (Nat.le_refl _))))
                  clear hj
                  go_wp2_with fail
                  go_roundg g
                  case measure => omega
                  case rel => exact ⟨j + 1, by omega, by go_num, HM, DY⟩
                | succ g2 =>
                  have hjl : j < l.length := by omega
                  have hji : (j : Int) < i := by omega
                  have hjl2 : (j : Int) < l.length := by omega
                  have HQ := Lib.hid (fun (e : l[j] = l[i]) => once_not hlt (in_take (by omega) hlt e))
                  have HR2 : Hid (l[j] ≠ l[i] → ∀ m (hm : m < j + 1) (hk : j + 1 ≤ i), l[m]'(by omega) ≠ l[i]) := Lib.hid fun e m hm hk2 => by
                    rcases Nat.lt_succ_iff_lt_or_eq.1 hm with h | rfl
                    · exact HJ.out m h (by omega)
                    · exact e
                  obtain ⟨b1, o1, cp1, e1, hb1, c1⟩ := (RI.out.below (DY.out.below _)).num j hjl
                  obtain ⟨b2, o2, cp2, e2, hb2, c2⟩ := (RI.out.below (DY.out.below _)).num i hlt
                  cases e1
                  cases e2
                  obtain ⟨x, hx⟩ : ∃ x, l[j] = x := ⟨_, rfl⟩
                  obtain ⟨y, hy⟩ : ∃ x, l[i] = x := ⟨_, rfl⟩
                  rw [hx, hy] at HQ
                  have HX := Lib.hid hx
                  have HY := Lib.hid hy
                  rw [hx] at c1
                  rw [hy] at c2
                  clear hx hy
                  by_cases hq : x = y
                  · have ho := HQ.out hq
                    have H2 : Hid (sourcesV l _ = 43) := Lib.hid (by rw [H.out, ho]; rfl)
                    have q1 : (x == y) = true := by rw [beq_iff_eq]; exact hq
                    clear hq ho
                    go_wp2_with fail
                    go_quiet (fail)
                    go_wp2_with fail
                    go_ret
                    exact ⟨by rw [H2.out]; rfl, DY.out.drewN _⟩
                  · have HM := Lib.hid (HR2.out (by rw [HX.out, HY.out]; exact hq))
                    have q1 : (x == y) = false := by rw [beq_eq_false_iff_ne]; exact hq
                    clear hq
                    go_wp2_with fail
                    go_quiet (fail)
                    go_wp2_with fail
                    go_roundg g2
                    case measure => omega
                    case rel => exact ⟨j + 1, by omega, by go_num, HM, Lib.hid (DY.out.drewN _)⟩
        | succ g =>
          have hlt : k < l.length := by omega
          obtain ⟨b, o, cp, e, hb, hc⟩ := RI.out.num k hlt
          cases e
          have HM := Lib.hid (fun (e : inS l[k] = true) => all_more hlt HA.out e)
          have HO := Lib.hid (fun (e : inS l[k] = false) => all_out hlt e)
          obtain ⟨x, hx⟩ : ∃ x, l[k] = x := ⟨_, rfl⟩
          rw [hx] at hc HM HO
          clear hx
          by_cases x0 : x < 0
          · have H := Lib.hid (SO.out (HO.out (inS_low x0)))
            clear HM HO
            go_wp2_with fail
            go_ret
            exact ⟨by rw [H.out]; rfl, Draws.refl _⟩
          by_cases x3 : 3 < x
          · have H := Lib.hid (SO.out (HO.out (inS_high x3)))
            clear HM HO
            go_wp2_with fail
            go_ret
            exact ⟨by rw [H.out]; rfl, Draws.refl _⟩
          have H := Lib.hid (HM.out (decide_eq_true (by omega)))
          have x3' : decide (3 < x) = false := decide_eq_false x3
          clear HM HO
          go_wp2_with fail
          go_roundg g
          case measure => omega
          case rel => exact ⟨k + 1, by omega, by go_num, H, Lib.hid rfl⟩
  by_cases hj : join = false
  · exact step (.inl hj)
  replace hj : join = true := by cases hq : join; exact absurd hq hj; rfl
  by_cases h2 : l.length = 2
  · exact step (.inr ⟨hj, by rw [bne_eq_false_iff_eq]; omega⟩)
  · have q2 : ((l.length : Int) != 2) = true := by rw [bne_iff_ne]; omega
    rw [sources_two h4 hj h2]
    subst hj
    clear step RI hR h0 h4 h2
    go_enter Tryz.func27, Tryz.ntmps27
    go_wp2_with fail
    go_ret
    exact ⟨rfl, Draws.refl _⟩
set_option maxRecDepth 100000 in
set_option maxHeartbeats 1000000 in
theorem refSameSources_any (va vb : Value) (a b : List Int) (w : World) (hA : ReadsI w va a) (hB : ReadsI w vb b) (hn : a.length ≤ 9223372036854775807) :
    Calls Tryz.prog 10 #[va, vb] w fun e w' => e = .returned (.bool (decide (a = b))) ∧ Draws w w' := by
  obtain ⟨ad, cap, rfl⟩ := hA.shape
  obtain ⟨ad2, cap2, rfl⟩ := hB.shape
  have RA := Lib.hid hA
  have RB := Lib.hid hB
  clear hA hB
  by_cases hl : a.length = b.length
  · have q0 : ((a.length : Int) != b.length) = false := by rw [bne_eq_false_iff_eq]; omega
    have HL := Lib.hid hl
    clear hl
    go_enter Tryz.func10, Tryz.ntmps10
    go_wp2_with fail
    go_loopg [5] a.length (fun g i wx => ∃ k : Nat, k + g = a.length ∧ i = .int .i64 k ∧ Hid (a.take k = b.take k) ∧ Hid (Draws w wx))
    case atStart => exact ⟨0, by omega, rfl, Lib.hid rfl, Lib.hid (Draws.refl _)⟩
    case round =>
      obtain ⟨k, hk, rfl, HK, DX⟩ := hrel
      cases gk with
      | zero =>
        obtain rfl : k = a.length := by omega
        have H : Hid (decide (a = b) = true) := Lib.hid (by
          have := HK.out
          rw [List.take_length, HL.out, List.take_length] at this
          exact decide_eq_true this)
        clear hk
        go_wp2_with fail
        go_ret
        exact ⟨by rw [H.out]; rfl, DX.out⟩
      | succ g =>
        have hlt : k < a.length := by omega
        have hlt2 : k < b.length := by have := HL.out; omega
        have hlt3 : (k : Int) < b.length := by omega
        obtain ⟨ba, oa, capa, hva, hba, c0⟩ := (RA.out.below (DX.out.below _)).num k hlt
        obtain ⟨bb, ob, capb, hvb, hbb, d0⟩ := (RB.out.below (DX.out.below _)).num k hlt2
        cases hva
        cases hvb
        by_cases hq : a[k] = b[k]
        · have H := Lib.hid (take_same hlt hlt2 HK.out hq)
          have q1 : (a[k] != b[k]) = false := by rw [bne_eq_false_iff_eq]; exact hq
          clear hq
          go_wp2_with fail
          go_quiet (fail)
          go_wp2_with fail
          go_roundg g
          case measure => omega
          case rel => exact ⟨k + 1, by omega, by go_num, H, Lib.hid (DX.out.drewN _)⟩
        · have H : Hid (decide (a = b) = false) := Lib.hid (decide_eq_false (ints_differ hlt hlt2 hq))
          have q1 : (a[k] != b[k]) = true := by rw [bne_iff_ne]; exact hq
          clear hq
          go_wp2_with fail
          go_quiet (fail)
          go_wp2_with fail
          go_ret
          exact ⟨by rw [H.out]; rfl, DX.out.drewN _⟩
  · have q0 : ((a.length : Int) != b.length) = true := by rw [bne_iff_ne]; omega
    have H : Hid (decide (a = b) = false) := Lib.hid (decide_eq_false fun e => hl (by rw [e]))
    clear hl
    go_enter Tryz.func10, Tryz.ntmps10
    go_wp2_with fail
    go_ret
    exact ⟨by rw [H.out]; rfl, Draws.refl _⟩
end Go.Proofs.YtdinaedknlkicaaGreatDoor.Nodes
/-
  Contracts of the reference of layer 8: Great, Check.
-/
namespace Go.Proofs.YtdinaedknlkicaaGreatDoor.Nodes
open Go.ChangeShapes Go.WideShapes Go.ChangeAt Go.RowKit

theorem greatQ_arg {q : Qy} (h : 70 < q.arg.length) : greatQ q = true := decide_eq_true (.inl h)
theorem greatQ_cond {q : Qy} (h : 70 < q.cond.length) : greatQ q = true := decide_eq_true (.inr (.inl h))
theorem greatQ_src {q : Qy} (h : 10 < q.src.length) : greatQ q = true := decide_eq_true (.inr (.inr h))
theorem greatQ_no {q : Qy} (h : ¬ 70 < q.arg.length) (h2 : ¬ 70 < q.cond.length) (h3 : ¬ 10 < q.src.length) : greatQ q = false := decide_eq_false (by omega)
set_option maxRecDepth 100000 in
set_option maxHeartbeats 2000000 in
theorem refGreat_any (s : Sl) (q : Qy) (w : World) (hR : ReadsQ w s q) :
    Calls Tryz.prog 17 #[qyVal s q] w fun e w' => e = .returned (.bool (greatQ q)) ∧ Below w.heap.size w w' := by
  have S0 := Lib.hid (sq_start w s q)
  have GA := Lib.hid (great_any s.arg q.arg (w.alloc (qyBox s q)) (hR.arg.below (box_below _ _)))
  have GC := Lib.hid (great_any s.cond q.cond (w.alloc (qyBox s q)) (hR.cond.below (box_below _ _)))
  obtain ⟨sa, ss, sc⟩ := s
  have hsrc : ReadsI w ss q.src := hR.src
  obtain ⟨ad, cap, rfl⟩ := hsrc.shape
  unfold qyBox at S0 GA GC
  unfold qyVal qyRow
  dsimp only at GA GC ⊢
  clear hR hsrc
  by_cases h1 : 70 < q.arg.length
  · rw [decide_eq_true h1] at GA
    rw [greatQ_arg h1]
    clear h1 GC
    go_enter Tryz.func17, Tryz.ntmps17
    go_wp2_with fail
    refine (GA.out).mono ?_
    rintro e w0' ⟨rfl, rfl⟩
    go_wp2_with fail
    go_ret
    exact ⟨rfl, S0.out.base⟩
  rw [decide_eq_false h1] at GA
  by_cases h2 : 70 < q.cond.length
  · rw [decide_eq_true h2] at GC
    rw [greatQ_cond h2]
    clear h1 h2
    go_enter Tryz.func17, Tryz.ntmps17
    go_wp2_with fail
    refine (GA.out).mono ?_
    rintro e w0' ⟨rfl, rfl⟩
    go_wp2_with fail
    refine (GC.out).mono ?_
    rintro e w0' ⟨rfl, rfl⟩
    go_wp2_with fail
    go_ret
    exact ⟨rfl, S0.out.base⟩
  rw [decide_eq_false h2] at GC
  by_cases h3 : 10 < q.src.length
  · rw [greatQ_src h3]
    have hd : decide ((10 : Int) < q.src.length) = true := decide_eq_true (by omega)
    clear h1 h2 h3
    go_enter Tryz.func17, Tryz.ntmps17
    go_wp2_with fail
    refine (GA.out).mono ?_
    rintro e w0' ⟨rfl, rfl⟩
    go_wp2_with fail
    refine (GC.out).mono ?_
    rintro e w0' ⟨rfl, rfl⟩
    go_wp2_with fail
    go_ret
    exact ⟨rfl, S0.out.base⟩
  rw [greatQ_no h1 h2 h3]
  have hd : decide ((10 : Int) < q.src.length) = false := decide_eq_false (by omega)
  clear h1 h2 h3
  go_enter Tryz.func17, Tryz.ntmps17
  go_wp2_with fail
  refine (GA.out).mono ?_
  rintro e w0' ⟨rfl, rfl⟩
  go_wp2_with fail
  refine (GC.out).mono ?_
  rintro e w0' ⟨rfl, rfl⟩
  go_wp2_with fail
  go_ret
  exact ⟨rfl, S0.out.base⟩
set_option maxRecDepth 100000 in
set_option maxHeartbeats 2000000 in
theorem refCheckQ_any (s : Sl) (q : Qy) (w : World) (hR : ReadsQ w s q) (ha : q.arg.length ≤ 1000000) (hc : q.cond.length ≤ 1000000) (hs : q.src.length ≤ 9223372036854775807) :
    Calls Tryz.prog 9 #[qyVal s q] w fun e w' => e = .returned (.int .i64 (checkQ q)) ∧ Below w.heap.size w w' := by
  have AR := Lib.hid (fun (W : World) (h : SQ w W s q) => to_sq h (refCheck_any s.arg q.arg W (hR.arg.below h.base) ha))
  have CO := Lib.hid (fun (W : World) (h : SQ w W s q) => to_sq h (refCheck_any s.cond q.cond W (hR.cond.below h.base) hc))
  have SO := Lib.hid (fun (W : World) (h : SQ w W s q) => to_sq h (by_draws (refSources_any s.src q.src q.join W (hR.src.below h.base) hs)))
  have WI := Lib.hid (fun (W : World) (h : SQ w W s q) => to_sq h (refFits_any q.win W))
  have S0 := Lib.hid (sq_start w s q)
  obtain ⟨sa, ss, sc⟩ := s
  have harg : ReadsN w sa q.arg := hR.arg
  have hcnd : ReadsN w sc q.cond := hR.cond
  obtain ⟨ada, capa, rfl⟩ := harg.shape
  obtain ⟨adc, capc, rfl⟩ := hcnd.shape
  unfold qyBox at S0
  unfold winVal at WI
  unfold qyVal qyRow
  dsimp only at AR CO SO WI S0 ⊢
  obtain ⟨ea, hea⟩ : ∃ e, argV q.agg q.arg = e := ⟨_, rfl⟩
  obtain ⟨ec, hec⟩ : ∃ e, condV q.cond = e := ⟨_, rfl⟩
  obtain ⟨es, hes⟩ : ∃ e, sourcesV q.src q.join = e := ⟨_, rfl⟩
  rw [hes] at SO
  clear hR harg hcnd ha hc hs
  by_cases xa0 : q.agg < 1
  · have H : Hid (checkQ q = 8) := Lib.hid (if_pos (decide_eq_false (by omega)))
    have hd0 : decide (q.agg < 1) = true := decide_eq_true xa0
    clear hea hec hes
    go_enter Tryz.func9, Tryz.ntmps9
    go_wp2_with fail
    go_ret
    exact ⟨by rw [H.out]; rfl, S0.out.base⟩
  have hd0 : decide (q.agg < 1) = false := decide_eq_false xa0
  by_cases xa4 : 4 < q.agg
  · have H : Hid (checkQ q = 8) := Lib.hid (if_pos (decide_eq_false (by omega)))
    have hd1 : decide (4 < q.agg) = true := decide_eq_true xa4
    clear hea hec hes
    go_enter Tryz.func9, Tryz.ntmps9
    go_wp2_with fail
    go_ret
    exact ⟨by rw [H.out]; rfl, S0.out.base⟩
  have hd1 : decide (4 < q.agg) = false := decide_eq_false xa4
  by_cases xl0 : q.late < 1
  · have H : Hid (checkQ q = 8) := Lib.hid (if_pos (decide_eq_false (by omega)))
    have hd2 : decide (q.late < 1) = true := decide_eq_true xl0
    clear hea hec hes
    go_enter Tryz.func9, Tryz.ntmps9
    go_wp2_with fail
    go_ret
    exact ⟨by rw [H.out]; rfl, S0.out.base⟩
  have hd2 : decide (q.late < 1) = false := decide_eq_false xl0
  by_cases xl2 : 2 < q.late
  · have H : Hid (checkQ q = 8) := Lib.hid (if_pos (decide_eq_false (by omega)))
    have hd3 : decide (2 < q.late) = true := decide_eq_true xl2
    clear hea hec hes
    go_enter Tryz.func9, Tryz.ntmps9
    go_wp2_with fail
    go_ret
    exact ⟨by rw [H.out]; rfl, S0.out.base⟩
  have hd3 : decide (2 < q.late) = false := decide_eq_false xl2
  have hh : headB q = true := decide_eq_true (by omega)
  have n1 : ¬ headB q = false := by rw [hh]; simp
  clear xa0 xa4 xl0 xl2
  by_cases g1 : q.agg = 1
  · have qg : (q.agg == 1) = true := by rw [beq_iff_eq]; exact g1
    have qg2 : (q.agg != 1) = false := by rw [bne_eq_false_iff_eq]; exact g1
    have hav : argV q.agg q.arg = if q.arg.length = 0 then 0 else 8 := by unfold argV; rw [if_pos g1]
    by_cases a0 : q.arg.length = 0
    · rw [if_pos a0] at hav
      obtain rfl : ea = 0 := hea.symm.trans hav
      have hal : decide ((0 : Int) < q.arg.length) = false := decide_eq_false (by omega)
      have hal2 : decide (0 < q.arg.length) = false := decide_eq_false (by omega)
      have hal3 : ¬ (0 : Int) < q.arg.length := by omega
      clear hav a0 g1
      by_cases c0 : q.cond.length = 0
      · have hec0 : condV q.cond = 0 := by unfold condV; rw [if_pos c0]
        have hcl : decide ((0 : Int) < q.cond.length) = false := decide_eq_false (by omega)
        have hcl2 : decide (0 < q.cond.length) = false := decide_eq_false (by omega)
        have hcl3 : ¬ (0 : Int) < q.cond.length := by omega
        obtain rfl : ec = 0 := hec.symm.trans hec0
        clear hec0 c0
        by_cases z2 : es = 0
        case neg =>
          have qz : (es != 0) = true := by rw [bne_iff_ne]; exact z2
          have H : Hid (checkQ q = es) := Lib.hid (by unfold checkQ; rw [if_neg n1, if_neg (by rw [hea]; simp), if_neg (by rw [hec]; simp), if_pos (by rw [hes]; exact z2), hes])
          clear hh n1 hea hec hes z2
          go_enter Tryz.func9, Tryz.ntmps9
          go_wp2_with fail
          refine (SO.out _ S0.out).mono ?_
          rintro e w1 ⟨rfl, hs⟩
          have S1 := Lib.hid hs
          obtain ⟨c0, c1, c2, c3, c4, c5, c6, c7, c8, c9⟩ := S1.out.at_.cells
          dsimp only at c1 c2 c4
          clear hs
          go_wp2_with fail
          refine (SO.out _ S1.out).mono ?_
          rintro e w2 ⟨rfl, hs⟩
          have S2 := Lib.hid hs
          clear c0 c1 c2 c3 c4 c5 c6 c7 c8 c9
          obtain ⟨c0, c1, c2, c3, c4, c5, c6, c7, c8, c9⟩ := S2.out.at_.cells
          dsimp only at c1 c2 c4
          clear hs
          go_wp2_with fail
          go_ret
          exact ⟨by rw [H.out]; rfl, S2.out.base⟩
        subst z2
        cases hw : fitsW q.win
        · rw [hw] at WI
          have H : Hid (checkQ q = 8) := Lib.hid (by unfold checkQ; rw [if_neg n1, if_neg (by rw [hea]; simp), if_neg (by rw [hec]; simp), if_neg (by rw [hes]; simp), windowV_no hw]; rfl)
          clear hh n1 hea hec hes hw
          go_enter Tryz.func9, Tryz.ntmps9
          go_wp2_with fail
          refine (SO.out _ S0.out).mono ?_
          rintro e w1 ⟨rfl, hs⟩
          have S1 := Lib.hid hs
          obtain ⟨c0, c1, c2, c3, c4, c5, c6, c7, c8, c9⟩ := S1.out.at_.cells
          dsimp only at c1 c2 c4
          clear hs
          go_wp2_with fail
          refine (WI.out _ S1.out).mono ?_
          rintro e w2 ⟨rfl, hs⟩
          have S2 := Lib.hid hs
          clear c0 c1 c2 c3 c4 c5 c6 c7 c8 c9
          obtain ⟨c0, c1, c2, c3, c4, c5, c6, c7, c8, c9⟩ := S2.out.at_.cells
          dsimp only at c1 c2 c4
          clear hs
          go_wp2_with fail
          go_ret
          exact ⟨by rw [H.out]; rfl, S2.out.base⟩
        rw [hw] at WI
        have ht : checkQ q = tailV q := checkQ_tail hh hea hec hes (windowV_yes hw)
        clear hea hec hes n1 hh hw
        by_cases hj : q.join = false
        · have H : Hid (checkQ q = 0) := Lib.hid (by rw [ht]; unfold tailV; rw [if_neg (fun e => by rw [hj] at e; cases e.1)])
          have HJ := Lib.hid hj
          clear ht hj
          go_enter Tryz.func9, Tryz.ntmps9
          go_wp2_with fail
          refine (SO.out _ S0.out).mono ?_
          rintro e w1 ⟨rfl, hs⟩
          have S1 := Lib.hid hs
          obtain ⟨c0, c1, c2, c3, c4, c5, c6, c7, c8, c9⟩ := S1.out.at_.cells
          dsimp only at c1 c2 c4
          clear hs
          go_wp2_with fail
          refine (WI.out _ S1.out).mono ?_
          rintro e w2 ⟨rfl, hs⟩
          have S2 := Lib.hid hs
          clear c0 c1 c2 c3 c4 c5 c6 c7 c8 c9
          have hj := HJ.out
          obtain ⟨c0, c1, c2, c3, c4, c5, c6, c7, c8, c9⟩ := S2.out.at_.cells
          dsimp only at c1 c2 c4
          clear hs
          go_wp2_with fail
          go_ret
          exact ⟨by rw [H.out]; rfl, S2.out.base⟩
        replace hj : q.join = true := by cases hq : q.join; exact absurd hq hj; rfl
        by_cases hk : q.win.kind = 1
        · have H : Hid (checkQ q = 0) := Lib.hid (by rw [ht]; unfold tailV; rw [if_neg (fun e => e.2 hk)])
          have qk : (q.win.kind != 1) = false := by rw [bne_eq_false_iff_eq]; exact hk
          have HJ := Lib.hid (And.intro hj qk)
          clear ht hk hj qk
          go_enter Tryz.func9, Tryz.ntmps9
          go_wp2_with fail
          refine (SO.out _ S0.out).mono ?_
          rintro e w1 ⟨rfl, hs⟩
          have S1 := Lib.hid hs
          obtain ⟨c0, c1, c2, c3, c4, c5, c6, c7, c8, c9⟩ := S1.out.at_.cells
          dsimp only at c1 c2 c4
          clear hs
          go_wp2_with fail
          refine (WI.out _ S1.out).mono ?_
          rintro e w2 ⟨rfl, hs⟩
          have S2 := Lib.hid hs
          clear c0 c1 c2 c3 c4 c5 c6 c7 c8 c9
          obtain ⟨hj, qk⟩ := HJ.out
          obtain ⟨c0, c1, c2, c3, c4, c5, c6, c7, c8, c9⟩ := S2.out.at_.cells
          dsimp only at c1 c2 c4
          clear hs
          go_wp2_with fail
          go_ret
          exact ⟨by rw [H.out]; rfl, S2.out.base⟩
        have H : Hid (checkQ q = 8) := Lib.hid (by rw [ht]; unfold tailV; rw [if_pos ⟨hj, hk⟩])
        have qk : (q.win.kind != 1) = true := by rw [bne_iff_ne]; exact hk
        have HJ := Lib.hid (And.intro hj qk)
        clear ht hk hj qk
        go_enter Tryz.func9, Tryz.ntmps9
        go_wp2_with fail
        refine (SO.out _ S0.out).mono ?_
        rintro e w1 ⟨rfl, hs⟩
        have S1 := Lib.hid hs
        obtain ⟨c0, c1, c2, c3, c4, c5, c6, c7, c8, c9⟩ := S1.out.at_.cells
        dsimp only at c1 c2 c4
        clear hs
        go_wp2_with fail
        refine (WI.out _ S1.out).mono ?_
        rintro e w2 ⟨rfl, hs⟩
        have S2 := Lib.hid hs
        clear c0 c1 c2 c3 c4 c5 c6 c7 c8 c9
        obtain ⟨hj, qk⟩ := HJ.out
        obtain ⟨c0, c1, c2, c3, c4, c5, c6, c7, c8, c9⟩ := S2.out.at_.cells
        dsimp only at c1 c2 c4
        clear hs
        go_wp2_with fail
        go_ret
        exact ⟨by rw [H.out]; rfl, S2.out.base⟩
      have hcl : decide ((0 : Int) < q.cond.length) = true := decide_eq_true (by omega)
      have hcl2 : decide (0 < q.cond.length) = true := decide_eq_true (by omega)
      have hcl3 : (0 : Int) < q.cond.length := by omega
      have hcv : condV q.cond = checkV q.cond := by unfold condV; rw [if_neg c0]
      rw [← hcv, hec] at CO
      clear hcv c0
      by_cases z1 : ec = 0
      case neg =>
        have qz1 : (ec != 0) = true := by rw [bne_iff_ne]; exact z1
        have H : Hid (checkQ q = ec) := Lib.hid (by unfold checkQ; rw [if_neg n1, if_neg (by rw [hea]; simp), if_pos (by rw [hec]; exact z1), hec])
        clear hh n1 hea hec hes z1
        go_enter Tryz.func9, Tryz.ntmps9
        go_wp2_with fail
        refine (CO.out _ S0.out).mono ?_
        rintro e w1 ⟨rfl, hs⟩
        have S1 := Lib.hid hs
        obtain ⟨c0, c1, c2, c3, c4, c5, c6, c7, c8, c9⟩ := S1.out.at_.cells
        dsimp only at c1 c2 c4
        clear hs
        go_wp2_with fail
        refine (CO.out _ S1.out).mono ?_
        rintro e w2 ⟨rfl, hs⟩
        have S2 := Lib.hid hs
        clear c0 c1 c2 c3 c4 c5 c6 c7 c8 c9
        obtain ⟨c0, c1, c2, c3, c4, c5, c6, c7, c8, c9⟩ := S2.out.at_.cells
        dsimp only at c1 c2 c4
        clear hs
        go_wp2_with fail
        go_ret
        exact ⟨by rw [H.out]; rfl, S2.out.base⟩
      subst z1
      by_cases z2 : es = 0
      case neg =>
        have qz : (es != 0) = true := by rw [bne_iff_ne]; exact z2
        have H : Hid (checkQ q = es) := Lib.hid (by unfold checkQ; rw [if_neg n1, if_neg (by rw [hea]; simp), if_neg (by rw [hec]; simp), if_pos (by rw [hes]; exact z2), hes])
        clear hh n1 hea hec hes z2
        go_enter Tryz.func9, Tryz.ntmps9
        go_wp2_with fail
        refine (CO.out _ S0.out).mono ?_
        rintro e w1 ⟨rfl, hs⟩
        have S1 := Lib.hid hs
        obtain ⟨c0, c1, c2, c3, c4, c5, c6, c7, c8, c9⟩ := S1.out.at_.cells
        dsimp only at c1 c2 c4
        clear hs
        go_wp2_with fail
        refine (SO.out _ S1.out).mono ?_
        rintro e w2 ⟨rfl, hs⟩
        have S2 := Lib.hid hs
        clear c0 c1 c2 c3 c4 c5 c6 c7 c8 c9
        obtain ⟨c0, c1, c2, c3, c4, c5, c6, c7, c8, c9⟩ := S2.out.at_.cells
        dsimp only at c1 c2 c4
        clear hs
        go_wp2_with fail
        refine (SO.out _ S2.out).mono ?_
        rintro e w3 ⟨rfl, hs⟩
        have S3 := Lib.hid hs
        clear c0 c1 c2 c3 c4 c5 c6 c7 c8 c9
        obtain ⟨c0, c1, c2, c3, c4, c5, c6, c7, c8, c9⟩ := S3.out.at_.cells
        dsimp only at c1 c2 c4
        clear hs
        go_wp2_with fail
        go_ret
        exact ⟨by rw [H.out]; rfl, S3.out.base⟩
      subst z2
      cases hw : fitsW q.win
      · rw [hw] at WI
        have H : Hid (checkQ q = 8) := Lib.hid (by unfold checkQ; rw [if_neg n1, if_neg (by rw [hea]; simp), if_neg (by rw [hec]; simp), if_neg (by rw [hes]; simp), windowV_no hw]; rfl)
        clear hh n1 hea hec hes hw
        go_enter Tryz.func9, Tryz.ntmps9
        go_wp2_with fail
        refine (CO.out _ S0.out).mono ?_
        rintro e w1 ⟨rfl, hs⟩
        have S1 := Lib.hid hs
        obtain ⟨c0, c1, c2, c3, c4, c5, c6, c7, c8, c9⟩ := S1.out.at_.cells
        dsimp only at c1 c2 c4
        clear hs
        go_wp2_with fail
        refine (SO.out _ S1.out).mono ?_
        rintro e w2 ⟨rfl, hs⟩
        have S2 := Lib.hid hs
        clear c0 c1 c2 c3 c4 c5 c6 c7 c8 c9
        obtain ⟨c0, c1, c2, c3, c4, c5, c6, c7, c8, c9⟩ := S2.out.at_.cells
        dsimp only at c1 c2 c4
        clear hs
        go_wp2_with fail
        refine (WI.out _ S2.out).mono ?_
        rintro e w3 ⟨rfl, hs⟩
        have S3 := Lib.hid hs
        clear c0 c1 c2 c3 c4 c5 c6 c7 c8 c9
        obtain ⟨c0, c1, c2, c3, c4, c5, c6, c7, c8, c9⟩ := S3.out.at_.cells
        dsimp only at c1 c2 c4
        clear hs
        go_wp2_with fail
        go_ret
        exact ⟨by rw [H.out]; rfl, S3.out.base⟩
      rw [hw] at WI
      have ht : checkQ q = tailV q := checkQ_tail hh hea hec hes (windowV_yes hw)
      clear hea hec hes n1 hh hw
      by_cases hj : q.join = false
      · have H : Hid (checkQ q = 0) := Lib.hid (by rw [ht]; unfold tailV; rw [if_neg (fun e => by rw [hj] at e; cases e.1)])
        have HJ := Lib.hid hj
        clear ht hj
        go_enter Tryz.func9, Tryz.ntmps9
        go_wp2_with fail
        refine (CO.out _ S0.out).mono ?_
        rintro e w1 ⟨rfl, hs⟩
        have S1 := Lib.hid hs
        obtain ⟨c0, c1, c2, c3, c4, c5, c6, c7, c8, c9⟩ := S1.out.at_.cells
        dsimp only at c1 c2 c4
        clear hs
        go_wp2_with fail
        refine (SO.out _ S1.out).mono ?_
        rintro e w2 ⟨rfl, hs⟩
        have S2 := Lib.hid hs
        clear c0 c1 c2 c3 c4 c5 c6 c7 c8 c9
        obtain ⟨c0, c1, c2, c3, c4, c5, c6, c7, c8, c9⟩ := S2.out.at_.cells
        dsimp only at c1 c2 c4
        clear hs
        go_wp2_with fail
        refine (WI.out _ S2.out).mono ?_
        rintro e w3 ⟨rfl, hs⟩
        have S3 := Lib.hid hs
        clear c0 c1 c2 c3 c4 c5 c6 c7 c8 c9
        have hj := HJ.out
        obtain ⟨c0, c1, c2, c3, c4, c5, c6, c7, c8, c9⟩ := S3.out.at_.cells
        dsimp only at c1 c2 c4
        clear hs
        go_wp2_with fail
        go_ret
        exact ⟨by rw [H.out]; rfl, S3.out.base⟩
      replace hj : q.join = true := by cases hq : q.join; exact absurd hq hj; rfl
      by_cases hk : q.win.kind = 1
      · have H : Hid (checkQ q = 0) := Lib.hid (by rw [ht]; unfold tailV; rw [if_neg (fun e => e.2 hk)])
        have qk : (q.win.kind != 1) = false := by rw [bne_eq_false_iff_eq]; exact hk
        have HJ := Lib.hid (And.intro hj qk)
        clear ht hk hj qk
        go_enter Tryz.func9, Tryz.ntmps9
        go_wp2_with fail
        refine (CO.out _ S0.out).mono ?_
        rintro e w1 ⟨rfl, hs⟩
        have S1 := Lib.hid hs
        obtain ⟨c0, c1, c2, c3, c4, c5, c6, c7, c8, c9⟩ := S1.out.at_.cells
        dsimp only at c1 c2 c4
        clear hs
        go_wp2_with fail
        refine (SO.out _ S1.out).mono ?_
        rintro e w2 ⟨rfl, hs⟩
        have S2 := Lib.hid hs
        clear c0 c1 c2 c3 c4 c5 c6 c7 c8 c9
        obtain ⟨c0, c1, c2, c3, c4, c5, c6, c7, c8, c9⟩ := S2.out.at_.cells
        dsimp only at c1 c2 c4
        clear hs
        go_wp2_with fail
        refine (WI.out _ S2.out).mono ?_
        rintro e w3 ⟨rfl, hs⟩
        have S3 := Lib.hid hs
        clear c0 c1 c2 c3 c4 c5 c6 c7 c8 c9
        obtain ⟨hj, qk⟩ := HJ.out
        obtain ⟨c0, c1, c2, c3, c4, c5, c6, c7, c8, c9⟩ := S3.out.at_.cells
        dsimp only at c1 c2 c4
        clear hs
        go_wp2_with fail
        go_ret
        exact ⟨by rw [H.out]; rfl, S3.out.base⟩
      have H : Hid (checkQ q = 8) := Lib.hid (by rw [ht]; unfold tailV; rw [if_pos ⟨hj, hk⟩])
      have qk : (q.win.kind != 1) = true := by rw [bne_iff_ne]; exact hk
      have HJ := Lib.hid (And.intro hj qk)
      clear ht hk hj qk
      go_enter Tryz.func9, Tryz.ntmps9
      go_wp2_with fail
      refine (CO.out _ S0.out).mono ?_
      rintro e w1 ⟨rfl, hs⟩
      have S1 := Lib.hid hs
      obtain ⟨c0, c1, c2, c3, c4, c5, c6, c7, c8, c9⟩ := S1.out.at_.cells
      dsimp only at c1 c2 c4
      clear hs
      go_wp2_with fail
      refine (SO.out _ S1.out).mono ?_
      rintro e w2 ⟨rfl, hs⟩
      have S2 := Lib.hid hs
      clear c0 c1 c2 c3 c4 c5 c6 c7 c8 c9
      obtain ⟨c0, c1, c2, c3, c4, c5, c6, c7, c8, c9⟩ := S2.out.at_.cells
      dsimp only at c1 c2 c4
      clear hs
      go_wp2_with fail
      refine (WI.out _ S2.out).mono ?_
      rintro e w3 ⟨rfl, hs⟩
      have S3 := Lib.hid hs
      clear c0 c1 c2 c3 c4 c5 c6 c7 c8 c9
      obtain ⟨hj, qk⟩ := HJ.out
      obtain ⟨c0, c1, c2, c3, c4, c5, c6, c7, c8, c9⟩ := S3.out.at_.cells
      dsimp only at c1 c2 c4
      clear hs
      go_wp2_with fail
      go_ret
      exact ⟨by rw [H.out]; rfl, S3.out.base⟩
    · rw [if_neg a0] at hav
      have H : Hid (checkQ q = 8) := Lib.hid (by unfold checkQ; rw [if_neg n1, if_pos (by rw [hav]; simp), hav])
      have hal : decide ((0 : Int) < q.arg.length) = true := decide_eq_true (by omega)
      have hal2 : decide (0 < q.arg.length) = true := decide_eq_true (by omega)
      have hal3 : (0 : Int) < q.arg.length := by omega
      clear hh n1 hea hec hes hav a0 g1
      go_enter Tryz.func9, Tryz.ntmps9
      go_wp2_with fail
      go_ret
      exact ⟨by rw [H.out]; rfl, S0.out.base⟩
  · have qg : (q.agg == 1) = false := by rw [beq_eq_false_iff_ne]; exact g1
    have qg2 : (q.agg != 1) = true := by rw [bne_iff_ne]; exact g1
    have hav : argV q.agg q.arg = checkV q.arg := by unfold argV; rw [if_neg g1]
    rw [← hav, hea] at AR
    clear hav g1
    by_cases z0 : ea = 0
    case neg =>
      have qz0 : (ea != 0) = true := by rw [bne_iff_ne]; exact z0
      have H : Hid (checkQ q = ea) := Lib.hid (by unfold checkQ; rw [if_neg n1, if_pos (by rw [hea]; exact z0), hea])
      clear hh n1 hea hec hes z0
      go_enter Tryz.func9, Tryz.ntmps9
      go_wp2_with fail
      refine (AR.out _ S0.out).mono ?_
      rintro e w1 ⟨rfl, hs⟩
      have S1 := Lib.hid hs
      obtain ⟨c0, c1, c2, c3, c4, c5, c6, c7, c8, c9⟩ := S1.out.at_.cells
      dsimp only at c1 c2 c4
      clear hs
      go_wp2_with fail
      refine (AR.out _ S1.out).mono ?_
      rintro e w2 ⟨rfl, hs⟩
      have S2 := Lib.hid hs
      clear c0 c1 c2 c3 c4 c5 c6 c7 c8 c9
      obtain ⟨c0, c1, c2, c3, c4, c5, c6, c7, c8, c9⟩ := S2.out.at_.cells
      dsimp only at c1 c2 c4
      clear hs
      go_wp2_with fail
      go_ret
      exact ⟨by rw [H.out]; rfl, S2.out.base⟩
    subst z0
    by_cases c0 : q.cond.length = 0
    · have hec0 : condV q.cond = 0 := by unfold condV; rw [if_pos c0]
      have hcl : decide ((0 : Int) < q.cond.length) = false := decide_eq_false (by omega)
      have hcl2 : decide (0 < q.cond.length) = false := decide_eq_false (by omega)
      have hcl3 : ¬ (0 : Int) < q.cond.length := by omega
      obtain rfl : ec = 0 := hec.symm.trans hec0
      clear hec0 c0
      by_cases z2 : es = 0
      case neg =>
        have qz : (es != 0) = true := by rw [bne_iff_ne]; exact z2
        have H : Hid (checkQ q = es) := Lib.hid (by unfold checkQ; rw [if_neg n1, if_neg (by rw [hea]; simp), if_neg (by rw [hec]; simp), if_pos (by rw [hes]; exact z2), hes])
        clear hh n1 hea hec hes z2
        go_enter Tryz.func9, Tryz.ntmps9
        go_wp2_with fail
        refine (AR.out _ S0.out).mono ?_
        rintro e w1 ⟨rfl, hs⟩
        have S1 := Lib.hid hs
        obtain ⟨c0, c1, c2, c3, c4, c5, c6, c7, c8, c9⟩ := S1.out.at_.cells
        dsimp only at c1 c2 c4
        clear hs
        go_wp2_with fail
        refine (SO.out _ S1.out).mono ?_
        rintro e w2 ⟨rfl, hs⟩
        have S2 := Lib.hid hs
        clear c0 c1 c2 c3 c4 c5 c6 c7 c8 c9
        obtain ⟨c0, c1, c2, c3, c4, c5, c6, c7, c8, c9⟩ := S2.out.at_.cells
        dsimp only at c1 c2 c4
        clear hs
        go_wp2_with fail
        refine (SO.out _ S2.out).mono ?_
        rintro e w3 ⟨rfl, hs⟩
        have S3 := Lib.hid hs
        clear c0 c1 c2 c3 c4 c5 c6 c7 c8 c9
        obtain ⟨c0, c1, c2, c3, c4, c5, c6, c7, c8, c9⟩ := S3.out.at_.cells
        dsimp only at c1 c2 c4
        clear hs
        go_wp2_with fail
        go_ret
        exact ⟨by rw [H.out]; rfl, S3.out.base⟩
      subst z2
      cases hw : fitsW q.win
      · rw [hw] at WI
        have H : Hid (checkQ q = 8) := Lib.hid (by unfold checkQ; rw [if_neg n1, if_neg (by rw [hea]; simp), if_neg (by rw [hec]; simp), if_neg (by rw [hes]; simp), windowV_no hw]; rfl)
        clear hh n1 hea hec hes hw
        go_enter Tryz.func9, Tryz.ntmps9
        go_wp2_with fail
        refine (AR.out _ S0.out).mono ?_
        rintro e w1 ⟨rfl, hs⟩
        have S1 := Lib.hid hs
        obtain ⟨c0, c1, c2, c3, c4, c5, c6, c7, c8, c9⟩ := S1.out.at_.cells
        dsimp only at c1 c2 c4
        clear hs
        go_wp2_with fail
        refine (SO.out _ S1.out).mono ?_
        rintro e w2 ⟨rfl, hs⟩
        have S2 := Lib.hid hs
        clear c0 c1 c2 c3 c4 c5 c6 c7 c8 c9
        obtain ⟨c0, c1, c2, c3, c4, c5, c6, c7, c8, c9⟩ := S2.out.at_.cells
        dsimp only at c1 c2 c4
        clear hs
        go_wp2_with fail
        refine (WI.out _ S2.out).mono ?_
        rintro e w3 ⟨rfl, hs⟩
        have S3 := Lib.hid hs
        clear c0 c1 c2 c3 c4 c5 c6 c7 c8 c9
        obtain ⟨c0, c1, c2, c3, c4, c5, c6, c7, c8, c9⟩ := S3.out.at_.cells
        dsimp only at c1 c2 c4
        clear hs
        go_wp2_with fail
        go_ret
        exact ⟨by rw [H.out]; rfl, S3.out.base⟩
      rw [hw] at WI
      have ht : checkQ q = tailV q := checkQ_tail hh hea hec hes (windowV_yes hw)
      clear hea hec hes n1 hh hw
      by_cases hj : q.join = false
      · have H : Hid (checkQ q = 0) := Lib.hid (by rw [ht]; unfold tailV; rw [if_neg (fun e => by rw [hj] at e; cases e.1)])
        have HJ := Lib.hid hj
        clear ht hj
        go_enter Tryz.func9, Tryz.ntmps9
        go_wp2_with fail
        refine (AR.out _ S0.out).mono ?_
        rintro e w1 ⟨rfl, hs⟩
        have S1 := Lib.hid hs
        obtain ⟨c0, c1, c2, c3, c4, c5, c6, c7, c8, c9⟩ := S1.out.at_.cells
        dsimp only at c1 c2 c4
        clear hs
        go_wp2_with fail
        refine (SO.out _ S1.out).mono ?_
        rintro e w2 ⟨rfl, hs⟩
        have S2 := Lib.hid hs
        clear c0 c1 c2 c3 c4 c5 c6 c7 c8 c9
        obtain ⟨c0, c1, c2, c3, c4, c5, c6, c7, c8, c9⟩ := S2.out.at_.cells
        dsimp only at c1 c2 c4
        clear hs
        go_wp2_with fail
        refine (WI.out _ S2.out).mono ?_
        rintro e w3 ⟨rfl, hs⟩
        have S3 := Lib.hid hs
        clear c0 c1 c2 c3 c4 c5 c6 c7 c8 c9
        have hj := HJ.out
        obtain ⟨c0, c1, c2, c3, c4, c5, c6, c7, c8, c9⟩ := S3.out.at_.cells
        dsimp only at c1 c2 c4
        clear hs
        go_wp2_with fail
        go_ret
        exact ⟨by rw [H.out]; rfl, S3.out.base⟩
      replace hj : q.join = true := by cases hq : q.join; exact absurd hq hj; rfl
      by_cases hk : q.win.kind = 1
      · have H : Hid (checkQ q = 0) := Lib.hid (by rw [ht]; unfold tailV; rw [if_neg (fun e => e.2 hk)])
        have qk : (q.win.kind != 1) = false := by rw [bne_eq_false_iff_eq]; exact hk
        have HJ := Lib.hid (And.intro hj qk)
        clear ht hk hj qk
        go_enter Tryz.func9, Tryz.ntmps9
        go_wp2_with fail
        refine (AR.out _ S0.out).mono ?_
        rintro e w1 ⟨rfl, hs⟩
        have S1 := Lib.hid hs
        obtain ⟨c0, c1, c2, c3, c4, c5, c6, c7, c8, c9⟩ := S1.out.at_.cells
        dsimp only at c1 c2 c4
        clear hs
        go_wp2_with fail
        refine (SO.out _ S1.out).mono ?_
        rintro e w2 ⟨rfl, hs⟩
        have S2 := Lib.hid hs
        clear c0 c1 c2 c3 c4 c5 c6 c7 c8 c9
        obtain ⟨c0, c1, c2, c3, c4, c5, c6, c7, c8, c9⟩ := S2.out.at_.cells
        dsimp only at c1 c2 c4
        clear hs
        go_wp2_with fail
        refine (WI.out _ S2.out).mono ?_
        rintro e w3 ⟨rfl, hs⟩
        have S3 := Lib.hid hs
        clear c0 c1 c2 c3 c4 c5 c6 c7 c8 c9
        obtain ⟨hj, qk⟩ := HJ.out
        obtain ⟨c0, c1, c2, c3, c4, c5, c6, c7, c8, c9⟩ := S3.out.at_.cells
        dsimp only at c1 c2 c4
        clear hs
        go_wp2_with fail
        go_ret
        exact ⟨by rw [H.out]; rfl, S3.out.base⟩
      have H : Hid (checkQ q = 8) := Lib.hid (by rw [ht]; unfold tailV; rw [if_pos ⟨hj, hk⟩])
      have qk : (q.win.kind != 1) = true := by rw [bne_iff_ne]; exact hk
      have HJ := Lib.hid (And.intro hj qk)
      clear ht hk hj qk
      go_enter Tryz.func9, Tryz.ntmps9
      go_wp2_with fail
      refine (AR.out _ S0.out).mono ?_
      rintro e w1 ⟨rfl, hs⟩
      have S1 := Lib.hid hs
      obtain ⟨c0, c1, c2, c3, c4, c5, c6, c7, c8, c9⟩ := S1.out.at_.cells
      dsimp only at c1 c2 c4
      clear hs
      go_wp2_with fail
      refine (SO.out _ S1.out).mono ?_
      rintro e w2 ⟨rfl, hs⟩
      have S2 := Lib.hid hs
      clear c0 c1 c2 c3 c4 c5 c6 c7 c8 c9
      obtain ⟨c0, c1, c2, c3, c4, c5, c6, c7, c8, c9⟩ := S2.out.at_.cells
      dsimp only at c1 c2 c4
      clear hs
      go_wp2_with fail
      refine (WI.out _ S2.out).mono ?_
      rintro e w3 ⟨rfl, hs⟩
      have S3 := Lib.hid hs
      clear c0 c1 c2 c3 c4 c5 c6 c7 c8 c9
      obtain ⟨hj, qk⟩ := HJ.out
      obtain ⟨c0, c1, c2, c3, c4, c5, c6, c7, c8, c9⟩ := S3.out.at_.cells
      dsimp only at c1 c2 c4
      clear hs
      go_wp2_with fail
      go_ret
      exact ⟨by rw [H.out]; rfl, S3.out.base⟩
    have hcl : decide ((0 : Int) < q.cond.length) = true := decide_eq_true (by omega)
    have hcl2 : decide (0 < q.cond.length) = true := decide_eq_true (by omega)
    have hcl3 : (0 : Int) < q.cond.length := by omega
    have hcv : condV q.cond = checkV q.cond := by unfold condV; rw [if_neg c0]
    rw [← hcv, hec] at CO
    clear hcv c0
    by_cases z1 : ec = 0
    case neg =>
      have qz1 : (ec != 0) = true := by rw [bne_iff_ne]; exact z1
      have H : Hid (checkQ q = ec) := Lib.hid (by unfold checkQ; rw [if_neg n1, if_neg (by rw [hea]; simp), if_pos (by rw [hec]; exact z1), hec])
      clear hh n1 hea hec hes z1
      go_enter Tryz.func9, Tryz.ntmps9
      go_wp2_with fail
      refine (AR.out _ S0.out).mono ?_
      rintro e w1 ⟨rfl, hs⟩
      have S1 := Lib.hid hs
      obtain ⟨c0, c1, c2, c3, c4, c5, c6, c7, c8, c9⟩ := S1.out.at_.cells
      dsimp only at c1 c2 c4
      clear hs
      go_wp2_with fail
      refine (CO.out _ S1.out).mono ?_
      rintro e w2 ⟨rfl, hs⟩
      have S2 := Lib.hid hs
      clear c0 c1 c2 c3 c4 c5 c6 c7 c8 c9
      obtain ⟨c0, c1, c2, c3, c4, c5, c6, c7, c8, c9⟩ := S2.out.at_.cells
      dsimp only at c1 c2 c4
      clear hs
      go_wp2_with fail
      refine (CO.out _ S2.out).mono ?_
      rintro e w3 ⟨rfl, hs⟩
      have S3 := Lib.hid hs
      clear c0 c1 c2 c3 c4 c5 c6 c7 c8 c9
      obtain ⟨c0, c1, c2, c3, c4, c5, c6, c7, c8, c9⟩ := S3.out.at_.cells
      dsimp only at c1 c2 c4
      clear hs
      go_wp2_with fail
      go_ret
      exact ⟨by rw [H.out]; rfl, S3.out.base⟩
    subst z1
    by_cases z2 : es = 0
    case neg =>
      have qz : (es != 0) = true := by rw [bne_iff_ne]; exact z2
      have H : Hid (checkQ q = es) := Lib.hid (by unfold checkQ; rw [if_neg n1, if_neg (by rw [hea]; simp), if_neg (by rw [hec]; simp), if_pos (by rw [hes]; exact z2), hes])
      clear hh n1 hea hec hes z2
      go_enter Tryz.func9, Tryz.ntmps9
      go_wp2_with fail
      refine (AR.out _ S0.out).mono ?_
      rintro e w1 ⟨rfl, hs⟩
      have S1 := Lib.hid hs
      obtain ⟨c0, c1, c2, c3, c4, c5, c6, c7, c8, c9⟩ := S1.out.at_.cells
      dsimp only at c1 c2 c4
      clear hs
      go_wp2_with fail
      refine (CO.out _ S1.out).mono ?_
      rintro e w2 ⟨rfl, hs⟩
      have S2 := Lib.hid hs
      clear c0 c1 c2 c3 c4 c5 c6 c7 c8 c9
      obtain ⟨c0, c1, c2, c3, c4, c5, c6, c7, c8, c9⟩ := S2.out.at_.cells
      dsimp only at c1 c2 c4
      clear hs
      go_wp2_with fail
      refine (SO.out _ S2.out).mono ?_
      rintro e w3 ⟨rfl, hs⟩
      have S3 := Lib.hid hs
      clear c0 c1 c2 c3 c4 c5 c6 c7 c8 c9
      obtain ⟨c0, c1, c2, c3, c4, c5, c6, c7, c8, c9⟩ := S3.out.at_.cells
      dsimp only at c1 c2 c4
      clear hs
      go_wp2_with fail
      refine (SO.out _ S3.out).mono ?_
      rintro e w4 ⟨rfl, hs⟩
      have S4 := Lib.hid hs
      clear c0 c1 c2 c3 c4 c5 c6 c7 c8 c9
      obtain ⟨c0, c1, c2, c3, c4, c5, c6, c7, c8, c9⟩ := S4.out.at_.cells
      dsimp only at c1 c2 c4
      clear hs
      go_wp2_with fail
      go_ret
      exact ⟨by rw [H.out]; rfl, S4.out.base⟩
    subst z2
    cases hw : fitsW q.win
    · rw [hw] at WI
      have H : Hid (checkQ q = 8) := Lib.hid (by unfold checkQ; rw [if_neg n1, if_neg (by rw [hea]; simp), if_neg (by rw [hec]; simp), if_neg (by rw [hes]; simp), windowV_no hw]; rfl)
      clear hh n1 hea hec hes hw
      go_enter Tryz.func9, Tryz.ntmps9
      go_wp2_with fail
      refine (AR.out _ S0.out).mono ?_
      rintro e w1 ⟨rfl, hs⟩
      have S1 := Lib.hid hs
      obtain ⟨c0, c1, c2, c3, c4, c5, c6, c7, c8, c9⟩ := S1.out.at_.cells
      dsimp only at c1 c2 c4
      clear hs
      go_wp2_with fail
      refine (CO.out _ S1.out).mono ?_
      rintro e w2 ⟨rfl, hs⟩
      have S2 := Lib.hid hs
      clear c0 c1 c2 c3 c4 c5 c6 c7 c8 c9
      obtain ⟨c0, c1, c2, c3, c4, c5, c6, c7, c8, c9⟩ := S2.out.at_.cells
      dsimp only at c1 c2 c4
      clear hs
      go_wp2_with fail
      refine (SO.out _ S2.out).mono ?_
      rintro e w3 ⟨rfl, hs⟩
      have S3 := Lib.hid hs
      clear c0 c1 c2 c3 c4 c5 c6 c7 c8 c9
      obtain ⟨c0, c1, c2, c3, c4, c5, c6, c7, c8, c9⟩ := S3.out.at_.cells
      dsimp only at c1 c2 c4
      clear hs
      go_wp2_with fail
      refine (WI.out _ S3.out).mono ?_
      rintro e w4 ⟨rfl, hs⟩
      have S4 := Lib.hid hs
      clear c0 c1 c2 c3 c4 c5 c6 c7 c8 c9
      obtain ⟨c0, c1, c2, c3, c4, c5, c6, c7, c8, c9⟩ := S4.out.at_.cells
      dsimp only at c1 c2 c4
      clear hs
      go_wp2_with fail
      go_ret
      exact ⟨by rw [H.out]; rfl, S4.out.base⟩
    rw [hw] at WI
    have ht : checkQ q = tailV q := checkQ_tail hh hea hec hes (windowV_yes hw)
    clear hea hec hes n1 hh hw
    by_cases hj : q.join = false
    · have H : Hid (checkQ q = 0) := Lib.hid (by rw [ht]; unfold tailV; rw [if_neg (fun e => by rw [hj] at e; cases e.1)])
      have HJ := Lib.hid hj
      clear ht hj
      go_enter Tryz.func9, Tryz.ntmps9
      go_wp2_with fail
      refine (AR.out _ S0.out).mono ?_
      rintro e w1 ⟨rfl, hs⟩
      have S1 := Lib.hid hs
      obtain ⟨c0, c1, c2, c3, c4, c5, c6, c7, c8, c9⟩ := S1.out.at_.cells
      dsimp only at c1 c2 c4
      clear hs
      go_wp2_with fail
      refine (CO.out _ S1.out).mono ?_
      rintro e w2 ⟨rfl, hs⟩
      have S2 := Lib.hid hs
      clear c0 c1 c2 c3 c4 c5 c6 c7 c8 c9
      obtain ⟨c0, c1, c2, c3, c4, c5, c6, c7, c8, c9⟩ := S2.out.at_.cells
      dsimp only at c1 c2 c4
      clear hs
      go_wp2_with fail
      refine (SO.out _ S2.out).mono ?_
      rintro e w3 ⟨rfl, hs⟩
      have S3 := Lib.hid hs
      clear c0 c1 c2 c3 c4 c5 c6 c7 c8 c9
      obtain ⟨c0, c1, c2, c3, c4, c5, c6, c7, c8, c9⟩ := S3.out.at_.cells
      dsimp only at c1 c2 c4
      clear hs
      go_wp2_with fail
      refine (WI.out _ S3.out).mono ?_
      rintro e w4 ⟨rfl, hs⟩
      have S4 := Lib.hid hs
      clear c0 c1 c2 c3 c4 c5 c6 c7 c8 c9
      have hj := HJ.out
      obtain ⟨c0, c1, c2, c3, c4, c5, c6, c7, c8, c9⟩ := S4.out.at_.cells
      dsimp only at c1 c2 c4
      clear hs
      go_wp2_with fail
      go_ret
      exact ⟨by rw [H.out]; rfl, S4.out.base⟩
    replace hj : q.join = true := by cases hq : q.join; exact absurd hq hj; rfl
    by_cases hk : q.win.kind = 1
    · have H : Hid (checkQ q = 0) := Lib.hid (by rw [ht]; unfold tailV; rw [if_neg (fun e => e.2 hk)])
      have qk : (q.win.kind != 1) = false := by rw [bne_eq_false_iff_eq]; exact hk
      have HJ := Lib.hid (And.intro hj qk)
      clear ht hk hj qk
      go_enter Tryz.func9, Tryz.ntmps9
      go_wp2_with fail
      refine (AR.out _ S0.out).mono ?_
      rintro e w1 ⟨rfl, hs⟩
      have S1 := Lib.hid hs
      obtain ⟨c0, c1, c2, c3, c4, c5, c6, c7, c8, c9⟩ := S1.out.at_.cells
      dsimp only at c1 c2 c4
      clear hs
      go_wp2_with fail
      refine (CO.out _ S1.out).mono ?_
      rintro e w2 ⟨rfl, hs⟩
      have S2 := Lib.hid hs
      clear c0 c1 c2 c3 c4 c5 c6 c7 c8 c9
      obtain ⟨c0, c1, c2, c3, c4, c5, c6, c7, c8, c9⟩ := S2.out.at_.cells
      dsimp only at c1 c2 c4
      clear hs
      go_wp2_with fail
      refine (SO.out _ S2.out).mono ?_
      rintro e w3 ⟨rfl, hs⟩
      have S3 := Lib.hid hs
      clear c0 c1 c2 c3 c4 c5 c6 c7 c8 c9
      obtain ⟨c0, c1, c2, c3, c4, c5, c6, c7, c8, c9⟩ := S3.out.at_.cells
      dsimp only at c1 c2 c4
      clear hs
      go_wp2_with fail
      refine (WI.out _ S3.out).mono ?_
      rintro e w4 ⟨rfl, hs⟩
      have S4 := Lib.hid hs
      clear c0 c1 c2 c3 c4 c5 c6 c7 c8 c9
      obtain ⟨hj, qk⟩ := HJ.out
      obtain ⟨c0, c1, c2, c3, c4, c5, c6, c7, c8, c9⟩ := S4.out.at_.cells
      dsimp only at c1 c2 c4
      clear hs
      go_wp2_with fail
      go_ret
      exact ⟨by rw [H.out]; rfl, S4.out.base⟩
    have H : Hid (checkQ q = 8) := Lib.hid (by rw [ht]; unfold tailV; rw [if_pos ⟨hj, hk⟩])
    have qk : (q.win.kind != 1) = true := by rw [bne_iff_ne]; exact hk
    have HJ := Lib.hid (And.intro hj qk)
    clear ht hk hj qk
    go_enter Tryz.func9, Tryz.ntmps9
    go_wp2_with fail
    refine (AR.out _ S0.out).mono ?_
    rintro e w1 ⟨rfl, hs⟩
    have S1 := Lib.hid hs
    obtain ⟨c0, c1, c2, c3, c4, c5, c6, c7, c8, c9⟩ := S1.out.at_.cells
    dsimp only at c1 c2 c4
    clear hs
    go_wp2_with fail
    refine (CO.out _ S1.out).mono ?_
    rintro e w2 ⟨rfl, hs⟩
    have S2 := Lib.hid hs
    clear c0 c1 c2 c3 c4 c5 c6 c7 c8 c9
    obtain ⟨c0, c1, c2, c3, c4, c5, c6, c7, c8, c9⟩ := S2.out.at_.cells
    dsimp only at c1 c2 c4
    clear hs
    go_wp2_with fail
    refine (SO.out _ S2.out).mono ?_
    rintro e w3 ⟨rfl, hs⟩
    have S3 := Lib.hid hs
    clear c0 c1 c2 c3 c4 c5 c6 c7 c8 c9
    obtain ⟨c0, c1, c2, c3, c4, c5, c6, c7, c8, c9⟩ := S3.out.at_.cells
    dsimp only at c1 c2 c4
    clear hs
    go_wp2_with fail
    refine (WI.out _ S3.out).mono ?_
    rintro e w4 ⟨rfl, hs⟩
    have S4 := Lib.hid hs
    clear c0 c1 c2 c3 c4 c5 c6 c7 c8 c9
    obtain ⟨hj, qk⟩ := HJ.out
    obtain ⟨c0, c1, c2, c3, c4, c5, c6, c7, c8, c9⟩ := S4.out.at_.cells
    dsimp only at c1 c2 c4
    clear hs
    go_wp2_with fail
    go_ret
    exact ⟨by rw [H.out]; rfl, S4.out.base⟩
end Go.Proofs.YtdinaedknlkicaaGreatDoor.Nodes
/-
  Contract of the reference of layer 4: Equal.
-/
namespace Go.Proofs.YtdinaedknlkicaaGreatDoor.Nodes
open Go.ChangeShapes Go.WideShapes Go.ChangeAt Go.RowKit

theorem map_more {f : Nd → Int × Int × Int × Int × Int} {a b : List Nd} {k : Nat} (ha : k < a.length) (hb : k < b.length) (h : (a.take k).map f = (b.take k).map f) (e : f a[k] = f b[k]) : (a.take (k + 1)).map f = (b.take (k + 1)).map f := by
  rw [List.take_succ_eq_append_getElem ha, List.take_succ_eq_append_getElem hb, List.map_append, List.map_append, h]
  simp [e]
theorem map_differ {f : Nd → Int × Int × Int × Int × Int} {a b : List Nd} {k : Nat} (ha : k < a.length) (hb : k < b.length) (e : f a[k] ≠ f b[k]) : ¬ a.map f = b.map f := by
  intro h
  apply e
  have h1 : (a.map f)[k]? = (b.map f)[k]? := by rw [h]
  rw [List.getElem?_map, List.getElem?_map, List.getElem?_eq_getElem ha, List.getElem?_eq_getElem hb] at h1
  simpa using h1
theorem equal_len {a b : List Nd} (h : ¬ a.length = b.length) : equalB a b = false := decide_eq_false (fun e => h (by simpa using congrArg List.length e))

set_option maxRecDepth 100000 in
set_option maxHeartbeats 2000000 in
theorem refEqual_any (va vb : Value) (a b : List Nd) (w : World) (hA : ReadsN w va a) (hB : ReadsN w vb b) (_hn : a.length ≤ 1000000) :
    Calls Tryz.prog 22 #[va, vb] w fun e w' => e = .returned (.bool (equalB a b)) ∧ Draws w w' := by
  obtain ⟨ad, cap, rfl⟩ := hA.shape
  obtain ⟨ad2, cap2, rfl⟩ := hB.shape
  have RA := Lib.hid hA
  have RB := Lib.hid hB
  clear hA hB
  by_cases hl : a.length = b.length
  · have q0 : ((a.length : Int) != b.length) = false := by rw [bne_eq_false_iff_eq]; omega
    have HL := Lib.hid hl
    clear hl
    go_enter Tryz.func22, Tryz.ntmps22
    go_wp2_with fail
    go_loopg [5] a.length (fun g i wx => ∃ k : Nat, k + g = a.length ∧ i = .int .i64 k ∧ Hid ((a.take k).map full = (b.take k).map full) ∧ Hid (Draws w wx))
    case atStart => exact ⟨0, by omega, rfl, Lib.hid rfl, Lib.hid (Draws.refl _)⟩
    case round =>
      obtain ⟨k, hk, rfl, HK, DX⟩ := hrel
      cases gk with
      | zero =>
        obtain rfl : k = a.length := by omega
        have H : Hid (equalB a b = true) := Lib.hid (by
          have := HK.out
          rw [List.take_length, HL.out, List.take_length] at this
          exact decide_eq_true this)
        clear hk
        go_wp2_with fail
        go_ret
        exact ⟨by rw [H.out]; rfl, DX.out⟩
      | succ g =>
        have hlt : k < a.length := by omega
        have hlt2 : k < b.length := by have := HL.out; omega
        obtain ⟨ba, oa, capa, hva, hba, c0, c1, c2, c3, c4⟩ := (RA.out.below (DX.out.below _)).nd k hlt
        obtain ⟨bb, ob, capb, hvb, hbb, d0, d1, d2, d3, d4⟩ := (RB.out.below (DX.out.below _)).nd k hlt2
        cases hva
        cases hvb
        have hf : ((a[k].kind == b[k].kind) && ((a[k].n == b[k].n) && ((a[k].a == b[k].a) && ((a[k].b == b[k].b) && (a[k].at_ == b[k].at_))))) = decide (full a[k] = full b[k]) := by
          unfold full
          rw [Bool.eq_iff_iff, decide_eq_true_iff]
          simp
        by_cases hq : full a[k] = full b[k]
        · have H := Lib.hid (map_more hlt hlt2 HK.out hq)
          rw [decide_eq_true hq] at hf
          simp only [Bool.and_eq_true] at hf
          obtain ⟨q1, q2, q3, q4, q5⟩ := hf
          clear hq
          go_wp2_with fail
          go_quiet (fail)
          go_wp2_with fail
          go_roundg g
          case measure => omega
          case rel => exact ⟨k + 1, by omega, by go_num, H, Lib.hid (DX.out.drewN _)⟩
        · have H : Hid (equalB a b = false) := Lib.hid (decide_eq_false (map_differ hlt hlt2 hq))
          rw [decide_eq_false hq] at hf
          clear hq
          cases q1 : (a[k].kind == b[k].kind)
          · clear hf
            go_wp2_with fail
            go_quiet (fail)
            go_wp2_with fail
            go_ret
            exact ⟨by rw [H.out]; rfl, DX.out.drewN _⟩
          · skip
            cases q2 : (a[k].n == b[k].n)
            · clear hf
              go_wp2_with fail
              go_quiet (fail)
              go_wp2_with fail
              go_ret
              exact ⟨by rw [H.out]; rfl, DX.out.drewN _⟩
            · skip
              cases q3 : (a[k].a == b[k].a)
              · clear hf
                go_wp2_with fail
                go_quiet (fail)
                go_wp2_with fail
                go_ret
                exact ⟨by rw [H.out]; rfl, DX.out.drewN _⟩
              · skip
                cases q4 : (a[k].b == b[k].b)
                · clear hf
                  go_wp2_with fail
                  go_quiet (fail)
                  go_wp2_with fail
                  go_ret
                  exact ⟨by rw [H.out]; rfl, DX.out.drewN _⟩
                · skip
                  cases q5 : (a[k].at_ == b[k].at_)
                  · clear hf
                    go_wp2_with fail
                    go_quiet (fail)
                    go_wp2_with fail
                    go_ret
                    exact ⟨by rw [H.out]; rfl, DX.out.drewN _⟩
                  · skip
                    rw [q1, q2, q3, q4, q5] at hf
                    cases hf
  · have q0 : ((a.length : Int) != b.length) = true := by rw [bne_iff_ne]; omega
    have H : Hid (equalB a b = false) := Lib.hid (equal_len hl)
    clear hl
    go_enter Tryz.func22, Tryz.ntmps22
    go_wp2_with fail
    go_ret
    exact ⟨by rw [H.out]; rfl, Draws.refl _⟩
end Go.Proofs.YtdinaedknlkicaaGreatDoor.Nodes
/-
  Contract of the reference of layer 4: Alike.
-/
namespace Go.Proofs.YtdinaedknlkicaaGreatDoor.Nodes
open Go.ChangeShapes Go.WideShapes Go.ChangeAt Go.RowKit

/-- A node's cells, behind up to two allocations. -/
theorem nd_far {w : World} {b o : Nat} {x : Nd} (h : NdAt w b o x) (hb : b < w.heap.size) (ob : Obj) : NdAt (w.alloc ob) b o x := h.below hb ((Below.refl _ w).alloc (Nat.le_refl _) ob)
theorem two_blocks {w wx : World} (h : Below w.heap.size w wx) (o o2 : Obj) : Below w.heap.size w ((wx.alloc o).alloc o2).drew :=
  below_drewN (((h.alloc h.size o).alloc (by have := h.size; simp; omega) o2)) 1
set_option maxRecDepth 100000 in
set_option maxHeartbeats 2000000 in
theorem refAlike_any (va vb : Value) (a b : List Nd) (w : World) (hA : ReadsN w va a) (hB : ReadsN w vb b) (_hn : a.length ≤ 1000000) :
    Calls Tryz.prog 39 #[va, vb] w fun e w' => e = .returned (.bool (alikeB a b)) ∧ Below w.heap.size w w' := by
  obtain ⟨ad, cap, rfl⟩ := hA.shape
  obtain ⟨ad2, cap2, rfl⟩ := hB.shape
  have RA := Lib.hid hA
  have RB := Lib.hid hB
  clear hA hB
  by_cases hl : a.length = b.length
  case neg =>
    have q0 : ((a.length : Int) != b.length) = true := by rw [bne_iff_ne]; omega
    have H : Hid (alikeB a b = false) := Lib.hid (alike_len hl)
    clear hl
    go_enter Tryz.func39, Tryz.ntmps39
    go_wp2_with fail
    go_ret
    exact ⟨by rw [H.out]; rfl, Below.refl _ _⟩
  have q0 : ((a.length : Int) != b.length) = false := by rw [bne_eq_false_iff_eq]; omega
  have HL := Lib.hid hl
  clear hl
  go_enter Tryz.func39, Tryz.ntmps39
  go_wp2_with fail
  go_loopg [5] a.length (fun g i wx => ∃ k : Nat, k + g = a.length ∧ i = .int .i64 k ∧ Hid ((a.take k).map core = (b.take k).map core) ∧ Hid (Below w.heap.size w wx))
  case atStart => exact ⟨0, by omega, rfl, Lib.hid rfl, Lib.hid (Below.refl _ _)⟩
  case round =>
    obtain ⟨k, hk, rfl, HK, HX⟩ := hrel
    cases gk with
    | zero =>
      obtain rfl : k = a.length := by omega
      have H : Hid (alikeB a b = true) := Lib.hid (by
        have := HK.out
        rw [List.take_length, HL.out, List.take_length] at this
        exact decide_eq_true this)
      clear hk
      go_wp2_with fail
      go_ret
      exact ⟨by rw [H.out]; rfl, HX.out⟩
    | succ g =>
      have hlt : k < a.length := by omega
      have hlt2 : k < b.length := by have := HL.out; omega
      have hlt3 : (k : Int) < b.length := by omega
      obtain ⟨ba, oa, capa, hva, hba, hca⟩ := (RA.out.below HX.out).nd k hlt
      obtain ⟨bb, ob, capb, hvb, hbb, hcb⟩ := (RB.out.below HX.out).nd k hlt2
      cases hva
      cases hvb
      obtain ⟨c0, c1, c2, c3, c4⟩ := hca
      obtain ⟨d0, d1, d2, d3, d4⟩ := hcb
      have ca : ∀ o, NdAt (wr.alloc o) ba (oa + k * 5) a[k] := fun o => nd_far ⟨c0, c1, c2, c3, c4⟩ hba o
      have cb : ∀ o, NdAt (wr.alloc o) bb (ob + k * 5) b[k] := fun o => nd_far ⟨d0, d1, d2, d3, d4⟩ hbb o
      unfold NdAt at ca cb
      have hf : ((a[k].kind == b[k].kind) && ((a[k].n == b[k].n) && ((a[k].a == b[k].a) && (a[k].b == b[k].b)))) = decide (core a[k] = core b[k]) := by
        unfold core
        rw [Bool.eq_iff_iff, decide_eq_true_iff]
        simp
      by_cases hq : core a[k] = core b[k]
      · have H := Lib.hid (core_more hlt hlt2 HK.out hq)
        rw [decide_eq_true hq] at hf
        simp only [Bool.and_eq_true] at hf
        obtain ⟨q1, q2, q3, q4⟩ := hf
        clear hq
        go_wp2_with fail
        go_region
        all_goals
          go_wp2_with fail
          go_roundg g
          case measure => omega
          case rel => exact ⟨k + 1, by omega, by go_num, H, Lib.hid (two_blocks HX.out _ _)⟩
      · have H : Hid (alikeB a b = false) := Lib.hid (decide_eq_false (core_differ hlt hlt2 hq))
        rw [decide_eq_false hq] at hf
        clear hq
        cases q1 : (a[k].kind == b[k].kind)
        · clear hf
          go_wp2_with fail
          go_region
          all_goals
            go_wp2_with fail
            go_ret
            exact ⟨by rw [H.out]; rfl, two_blocks HX.out _ _⟩
        cases q2 : (a[k].n == b[k].n)
        · clear hf
          go_wp2_with fail
          go_region
          all_goals
            go_wp2_with fail
            go_ret
            exact ⟨by rw [H.out]; rfl, two_blocks HX.out _ _⟩
        cases q3 : (a[k].a == b[k].a)
        · clear hf
          go_wp2_with fail
          go_region
          all_goals
            go_wp2_with fail
            go_ret
            exact ⟨by rw [H.out]; rfl, two_blocks HX.out _ _⟩
        cases q4 : (a[k].b == b[k].b)
        · clear hf
          go_wp2_with fail
          go_region
          all_goals
            go_wp2_with fail
            go_ret
            exact ⟨by rw [H.out]; rfl, two_blocks HX.out _ _⟩
        rw [q1, q2, q3, q4] at hf
        cases hf
end Go.Proofs.YtdinaedknlkicaaGreatDoor.Nodes
/-
  Contracts of the reference of layer 8: Alike, Equal, Same.
-/
namespace Go.Proofs.YtdinaedknlkicaaGreatDoor.Nodes
open Go.ChangeShapes Go.WideShapes Go.ChangeAt Go.RowKit

theorem alikeQ_parts (p q : Qy) : alikeQ p q = ((p.agg == q.agg) && (alikeB p.arg q.arg && (decide (p.src = q.src) && ((p.join == q.join) && (alikeB p.cond q.cond && ((p.win.kind == q.win.kind) && ((p.win.size == q.win.size) && ((p.win.every == q.win.every) && ((p.key == q.key) && (p.late == q.late)))))))))) := by
  unfold alikeQ headsB restB coreQ
  rw [Bool.eq_iff_iff]
  simp only [Bool.and_eq_true, decide_eq_true_iff, beq_iff_eq, Prod.mk.injEq]
  constructor
  · rintro ⟨⟨h1, h2, ⟨h3, h4, h5⟩, h6, h7⟩, h8, h9, h10⟩
    exact ⟨h1, h9, h8, h2, h10, h3, h4, h5, h6, h7⟩
  · rintro ⟨h1, h9, h8, h2, h10, h3, h4, h5, h6, h7⟩
    exact ⟨⟨h1, h2, ⟨h3, h4, h5⟩, h6, h7⟩, h8, h9, h10⟩
set_option maxRecDepth 100000 in
set_option maxHeartbeats 2000000 in
theorem refAlikeQ_any (s t : Sl) (p q : Qy) (w : World) (hP : ReadsQ w s p) (hQ : ReadsQ w t q) (hpa : p.arg.length ≤ 1000000) (hpc : p.cond.length ≤ 1000000) (hps : p.src.length ≤ 9223372036854775807) :
    Calls Tryz.prog 15 #[qyVal s p, qyVal t q] w fun e w' => e = .returned (.bool (alikeQ p q)) ∧ Below w.heap.size w w' := by
  have L1 := Lib.hid (fun (W : World) (h : SP w W s p t q) => to_sp h (refAlike_any s.arg t.arg p.arg q.arg W (hP.arg.below h.base) (hQ.arg.below h.base) hpa))
  have EQ := Lib.hid (fun (W : World) (h : SP w W s p t q) => to_sp h (by_draws (refSameSources_any s.src t.src p.src q.src W (hP.src.below h.base) (hQ.src.below h.base) hps)))
  have L2 := Lib.hid (fun (W : World) (h : SP w W s p t q) => to_sp h (refAlike_any s.cond t.cond p.cond q.cond W (hP.cond.below h.base) (hQ.cond.below h.base) hpc))
  have S0 := Lib.hid (sp_start w s t p q)
  have HP := alikeQ_parts p q
  unfold qyBox at S0
  unfold qyVal qyRow
  clear hP hQ hpa hpc hps
  cases x0 : (p.agg == q.agg)
  · have H : Hid (alikeQ p q = false) := Lib.hid (by rw [HP, x0]; rfl)
    clear HP
    go_enter Tryz.func15, Tryz.ntmps15
    obtain ⟨c0, c1, c2, c3, c4, c5, c6, c7, c8, c9⟩ := S0.out.one.cells
    obtain ⟨d0, d1, d2, d3, d4, d5, d6, d7, d8, d9⟩ := S0.out.two.cells
    go_wp2_with fail
    go_ret
    exact ⟨by rw [H.out]; rfl, S0.out.base⟩
  rw [x0, Bool.true_and] at HP
  cases x1 : alikeB p.arg q.arg
  · have H : Hid (alikeQ p q = false) := Lib.hid (by rw [HP, x1]; rfl)
    rw [x1] at L1
    clear HP x1
    go_enter Tryz.func15, Tryz.ntmps15
    obtain ⟨c0, c1, c2, c3, c4, c5, c6, c7, c8, c9⟩ := S0.out.one.cells
    obtain ⟨d0, d1, d2, d3, d4, d5, d6, d7, d8, d9⟩ := S0.out.two.cells
    go_wp2_with fail
    refine (L1.out _ S0.out).mono ?_
    rintro e w1 ⟨rfl, hs⟩
    have S1 := Lib.hid hs
    clear c0 c1 c2 c3 c4 c5 c6 c7 c8 c9 d0 d1 d2 d3 d4 d5 d6 d7 d8 d9
    obtain ⟨c0, c1, c2, c3, c4, c5, c6, c7, c8, c9⟩ := S1.out.one.cells
    obtain ⟨d0, d1, d2, d3, d4, d5, d6, d7, d8, d9⟩ := S1.out.two.cells
    clear hs
    go_wp2_with fail
    go_ret
    exact ⟨by rw [H.out]; rfl, S1.out.base⟩
  rw [x1, Bool.true_and] at HP
  rw [x1] at L1
  cases x2 : decide (p.src = q.src)
  · have H : Hid (alikeQ p q = false) := Lib.hid (by rw [HP, x2]; rfl)
    rw [x2] at EQ
    clear HP x1 x2
    go_enter Tryz.func15, Tryz.ntmps15
    obtain ⟨c0, c1, c2, c3, c4, c5, c6, c7, c8, c9⟩ := S0.out.one.cells
    obtain ⟨d0, d1, d2, d3, d4, d5, d6, d7, d8, d9⟩ := S0.out.two.cells
    go_wp2_with fail
    refine (L1.out _ S0.out).mono ?_
    rintro e w1 ⟨rfl, hs⟩
    have S1 := Lib.hid hs
    clear c0 c1 c2 c3 c4 c5 c6 c7 c8 c9 d0 d1 d2 d3 d4 d5 d6 d7 d8 d9
    obtain ⟨c0, c1, c2, c3, c4, c5, c6, c7, c8, c9⟩ := S1.out.one.cells
    obtain ⟨d0, d1, d2, d3, d4, d5, d6, d7, d8, d9⟩ := S1.out.two.cells
    clear hs
    go_wp2_with fail
    refine (EQ.out _ S1.out).mono ?_
    rintro e w2 ⟨rfl, hs⟩
    have S2 := Lib.hid hs
    clear c0 c1 c2 c3 c4 c5 c6 c7 c8 c9 d0 d1 d2 d3 d4 d5 d6 d7 d8 d9
    obtain ⟨c0, c1, c2, c3, c4, c5, c6, c7, c8, c9⟩ := S2.out.one.cells
    obtain ⟨d0, d1, d2, d3, d4, d5, d6, d7, d8, d9⟩ := S2.out.two.cells
    clear hs
    go_wp2_with fail
    go_ret
    exact ⟨by rw [H.out]; rfl, S2.out.base⟩
  rw [x2, Bool.true_and] at HP
  rw [x2] at EQ
  by_cases e3 : p.join = q.join
  case neg =>
    have x3 : (p.join == q.join) = false := by rw [beq_eq_false_iff_ne]; exact e3
    have H : Hid (alikeQ p q = false) := Lib.hid (by rw [HP, x3]; rfl)
    have X3 := Lib.hid x3
    clear HP x1 x2 x3 e3
    go_enter Tryz.func15, Tryz.ntmps15
    obtain ⟨c0, c1, c2, c3, c4, c5, c6, c7, c8, c9⟩ := S0.out.one.cells
    obtain ⟨d0, d1, d2, d3, d4, d5, d6, d7, d8, d9⟩ := S0.out.two.cells
    go_wp2_with fail
    refine (L1.out _ S0.out).mono ?_
    rintro e w1 ⟨rfl, hs⟩
    have S1 := Lib.hid hs
    clear c0 c1 c2 c3 c4 c5 c6 c7 c8 c9 d0 d1 d2 d3 d4 d5 d6 d7 d8 d9
    obtain ⟨c0, c1, c2, c3, c4, c5, c6, c7, c8, c9⟩ := S1.out.one.cells
    obtain ⟨d0, d1, d2, d3, d4, d5, d6, d7, d8, d9⟩ := S1.out.two.cells
    clear hs
    go_wp2_with fail
    refine (EQ.out _ S1.out).mono ?_
    rintro e w2 ⟨rfl, hs⟩
    have S2 := Lib.hid hs
    clear c0 c1 c2 c3 c4 c5 c6 c7 c8 c9 d0 d1 d2 d3 d4 d5 d6 d7 d8 d9
    have x3 := X3.out
    obtain ⟨c0, c1, c2, c3, c4, c5, c6, c7, c8, c9⟩ := S2.out.one.cells
    obtain ⟨d0, d1, d2, d3, d4, d5, d6, d7, d8, d9⟩ := S2.out.two.cells
    clear hs
    go_wp2_with fail
    go_ret
    exact ⟨by rw [H.out]; rfl, S2.out.base⟩
  have x3 : (p.join == q.join) = true := by rw [beq_iff_eq]; exact e3
  rw [x3, Bool.true_and] at HP
  have X3 := Lib.hid x3
  clear x1 x2 x3 e3
  cases x4 : alikeB p.cond q.cond
  · have H : Hid (alikeQ p q = false) := Lib.hid (by rw [HP, x4]; rfl)
    rw [x4] at L2
    clear HP x4
    go_enter Tryz.func15, Tryz.ntmps15
    obtain ⟨c0, c1, c2, c3, c4, c5, c6, c7, c8, c9⟩ := S0.out.one.cells
    obtain ⟨d0, d1, d2, d3, d4, d5, d6, d7, d8, d9⟩ := S0.out.two.cells
    go_wp2_with fail
    refine (L1.out _ S0.out).mono ?_
    rintro e w1 ⟨rfl, hs⟩
    have S1 := Lib.hid hs
    clear c0 c1 c2 c3 c4 c5 c6 c7 c8 c9 d0 d1 d2 d3 d4 d5 d6 d7 d8 d9
    obtain ⟨c0, c1, c2, c3, c4, c5, c6, c7, c8, c9⟩ := S1.out.one.cells
    obtain ⟨d0, d1, d2, d3, d4, d5, d6, d7, d8, d9⟩ := S1.out.two.cells
    clear hs
    go_wp2_with fail
    refine (EQ.out _ S1.out).mono ?_
    rintro e w2 ⟨rfl, hs⟩
    have S2 := Lib.hid hs
    clear c0 c1 c2 c3 c4 c5 c6 c7 c8 c9 d0 d1 d2 d3 d4 d5 d6 d7 d8 d9
    have x3 := X3.out
    obtain ⟨c0, c1, c2, c3, c4, c5, c6, c7, c8, c9⟩ := S2.out.one.cells
    obtain ⟨d0, d1, d2, d3, d4, d5, d6, d7, d8, d9⟩ := S2.out.two.cells
    clear hs
    go_wp2_with fail
    refine (L2.out _ S2.out).mono ?_
    rintro e w3 ⟨rfl, hs⟩
    have S3 := Lib.hid hs
    clear c0 c1 c2 c3 c4 c5 c6 c7 c8 c9 d0 d1 d2 d3 d4 d5 d6 d7 d8 d9
    obtain ⟨c0, c1, c2, c3, c4, c5, c6, c7, c8, c9⟩ := S3.out.one.cells
    obtain ⟨d0, d1, d2, d3, d4, d5, d6, d7, d8, d9⟩ := S3.out.two.cells
    clear hs
    go_wp2_with fail
    go_ret
    exact ⟨by rw [H.out]; rfl, S3.out.base⟩
  rw [x4, Bool.true_and] at HP
  rw [x4] at L2
  clear x4
  by_cases e5 : p.win.kind = q.win.kind
  case neg =>
    have x5 : (p.win.kind == q.win.kind) = false := by rw [beq_eq_false_iff_ne]; exact e5
    have H : Hid (alikeQ p q = false) := Lib.hid (by rw [HP, x5]; rfl)
    have X5 := Lib.hid x5
    clear HP x5 e5
    go_enter Tryz.func15, Tryz.ntmps15
    obtain ⟨c0, c1, c2, c3, c4, c5, c6, c7, c8, c9⟩ := S0.out.one.cells
    obtain ⟨d0, d1, d2, d3, d4, d5, d6, d7, d8, d9⟩ := S0.out.two.cells
    go_wp2_with fail
    refine (L1.out _ S0.out).mono ?_
    rintro e w1 ⟨rfl, hs⟩
    have S1 := Lib.hid hs
    clear c0 c1 c2 c3 c4 c5 c6 c7 c8 c9 d0 d1 d2 d3 d4 d5 d6 d7 d8 d9
    obtain ⟨c0, c1, c2, c3, c4, c5, c6, c7, c8, c9⟩ := S1.out.one.cells
    obtain ⟨d0, d1, d2, d3, d4, d5, d6, d7, d8, d9⟩ := S1.out.two.cells
    clear hs
    go_wp2_with fail
    refine (EQ.out _ S1.out).mono ?_
    rintro e w2 ⟨rfl, hs⟩
    have S2 := Lib.hid hs
    clear c0 c1 c2 c3 c4 c5 c6 c7 c8 c9 d0 d1 d2 d3 d4 d5 d6 d7 d8 d9
    have x3 := X3.out
    obtain ⟨c0, c1, c2, c3, c4, c5, c6, c7, c8, c9⟩ := S2.out.one.cells
    obtain ⟨d0, d1, d2, d3, d4, d5, d6, d7, d8, d9⟩ := S2.out.two.cells
    clear hs
    go_wp2_with fail
    refine (L2.out _ S2.out).mono ?_
    rintro e w3 ⟨rfl, hs⟩
    have S3 := Lib.hid hs
    clear c0 c1 c2 c3 c4 c5 c6 c7 c8 c9 d0 d1 d2 d3 d4 d5 d6 d7 d8 d9
    have x5 := X5.out
    obtain ⟨c0, c1, c2, c3, c4, c5, c6, c7, c8, c9⟩ := S3.out.one.cells
    obtain ⟨d0, d1, d2, d3, d4, d5, d6, d7, d8, d9⟩ := S3.out.two.cells
    clear hs
    go_wp2_with fail
    go_ret
    exact ⟨by rw [H.out]; rfl, S3.out.base⟩
  have x5 : (p.win.kind == q.win.kind) = true := by rw [beq_iff_eq]; exact e5
  rw [x5, Bool.true_and] at HP
  have X5 := Lib.hid x5
  clear x5 e5
  by_cases e6 : p.win.size = q.win.size
  case neg =>
    have x6 : (p.win.size == q.win.size) = false := by rw [beq_eq_false_iff_ne]; exact e6
    have H : Hid (alikeQ p q = false) := Lib.hid (by rw [HP, x6]; rfl)
    have X6 := Lib.hid x6
    clear HP x6 e6
    go_enter Tryz.func15, Tryz.ntmps15
    obtain ⟨c0, c1, c2, c3, c4, c5, c6, c7, c8, c9⟩ := S0.out.one.cells
    obtain ⟨d0, d1, d2, d3, d4, d5, d6, d7, d8, d9⟩ := S0.out.two.cells
    go_wp2_with fail
    refine (L1.out _ S0.out).mono ?_
    rintro e w1 ⟨rfl, hs⟩
    have S1 := Lib.hid hs
    clear c0 c1 c2 c3 c4 c5 c6 c7 c8 c9 d0 d1 d2 d3 d4 d5 d6 d7 d8 d9
    obtain ⟨c0, c1, c2, c3, c4, c5, c6, c7, c8, c9⟩ := S1.out.one.cells
    obtain ⟨d0, d1, d2, d3, d4, d5, d6, d7, d8, d9⟩ := S1.out.two.cells
    clear hs
    go_wp2_with fail
    refine (EQ.out _ S1.out).mono ?_
    rintro e w2 ⟨rfl, hs⟩
    have S2 := Lib.hid hs
    clear c0 c1 c2 c3 c4 c5 c6 c7 c8 c9 d0 d1 d2 d3 d4 d5 d6 d7 d8 d9
    have x3 := X3.out
    obtain ⟨c0, c1, c2, c3, c4, c5, c6, c7, c8, c9⟩ := S2.out.one.cells
    obtain ⟨d0, d1, d2, d3, d4, d5, d6, d7, d8, d9⟩ := S2.out.two.cells
    clear hs
    go_wp2_with fail
    refine (L2.out _ S2.out).mono ?_
    rintro e w3 ⟨rfl, hs⟩
    have S3 := Lib.hid hs
    clear c0 c1 c2 c3 c4 c5 c6 c7 c8 c9 d0 d1 d2 d3 d4 d5 d6 d7 d8 d9
    have x5 := X5.out
    have x6 := X6.out
    obtain ⟨c0, c1, c2, c3, c4, c5, c6, c7, c8, c9⟩ := S3.out.one.cells
    obtain ⟨d0, d1, d2, d3, d4, d5, d6, d7, d8, d9⟩ := S3.out.two.cells
    clear hs
    go_wp2_with fail
    go_ret
    exact ⟨by rw [H.out]; rfl, S3.out.base⟩
  have x6 : (p.win.size == q.win.size) = true := by rw [beq_iff_eq]; exact e6
  rw [x6, Bool.true_and] at HP
  have X6 := Lib.hid x6
  clear x6 e6
  by_cases e7 : p.win.every = q.win.every
  case neg =>
    have x7 : (p.win.every == q.win.every) = false := by rw [beq_eq_false_iff_ne]; exact e7
    have H : Hid (alikeQ p q = false) := Lib.hid (by rw [HP, x7]; rfl)
    have X7 := Lib.hid x7
    clear HP x7 e7
    go_enter Tryz.func15, Tryz.ntmps15
    obtain ⟨c0, c1, c2, c3, c4, c5, c6, c7, c8, c9⟩ := S0.out.one.cells
    obtain ⟨d0, d1, d2, d3, d4, d5, d6, d7, d8, d9⟩ := S0.out.two.cells
    go_wp2_with fail
    refine (L1.out _ S0.out).mono ?_
    rintro e w1 ⟨rfl, hs⟩
    have S1 := Lib.hid hs
    clear c0 c1 c2 c3 c4 c5 c6 c7 c8 c9 d0 d1 d2 d3 d4 d5 d6 d7 d8 d9
    obtain ⟨c0, c1, c2, c3, c4, c5, c6, c7, c8, c9⟩ := S1.out.one.cells
    obtain ⟨d0, d1, d2, d3, d4, d5, d6, d7, d8, d9⟩ := S1.out.two.cells
    clear hs
    go_wp2_with fail
    refine (EQ.out _ S1.out).mono ?_
    rintro e w2 ⟨rfl, hs⟩
    have S2 := Lib.hid hs
    clear c0 c1 c2 c3 c4 c5 c6 c7 c8 c9 d0 d1 d2 d3 d4 d5 d6 d7 d8 d9
    have x3 := X3.out
    obtain ⟨c0, c1, c2, c3, c4, c5, c6, c7, c8, c9⟩ := S2.out.one.cells
    obtain ⟨d0, d1, d2, d3, d4, d5, d6, d7, d8, d9⟩ := S2.out.two.cells
    clear hs
    go_wp2_with fail
    refine (L2.out _ S2.out).mono ?_
    rintro e w3 ⟨rfl, hs⟩
    have S3 := Lib.hid hs
    clear c0 c1 c2 c3 c4 c5 c6 c7 c8 c9 d0 d1 d2 d3 d4 d5 d6 d7 d8 d9
    have x5 := X5.out
    have x6 := X6.out
    have x7 := X7.out
    obtain ⟨c0, c1, c2, c3, c4, c5, c6, c7, c8, c9⟩ := S3.out.one.cells
    obtain ⟨d0, d1, d2, d3, d4, d5, d6, d7, d8, d9⟩ := S3.out.two.cells
    clear hs
    go_wp2_with fail
    go_ret
    exact ⟨by rw [H.out]; rfl, S3.out.base⟩
  have x7 : (p.win.every == q.win.every) = true := by rw [beq_iff_eq]; exact e7
  rw [x7, Bool.true_and] at HP
  have X7 := Lib.hid x7
  clear x7 e7
  by_cases e8 : p.key = q.key
  case neg =>
    have x8 : (p.key == q.key) = false := by rw [beq_eq_false_iff_ne]; exact e8
    have H : Hid (alikeQ p q = false) := Lib.hid (by rw [HP, x8]; rfl)
    have X8 := Lib.hid x8
    clear HP x8 e8
    go_enter Tryz.func15, Tryz.ntmps15
    obtain ⟨c0, c1, c2, c3, c4, c5, c6, c7, c8, c9⟩ := S0.out.one.cells
    obtain ⟨d0, d1, d2, d3, d4, d5, d6, d7, d8, d9⟩ := S0.out.two.cells
    go_wp2_with fail
    refine (L1.out _ S0.out).mono ?_
    rintro e w1 ⟨rfl, hs⟩
    have S1 := Lib.hid hs
    clear c0 c1 c2 c3 c4 c5 c6 c7 c8 c9 d0 d1 d2 d3 d4 d5 d6 d7 d8 d9
    obtain ⟨c0, c1, c2, c3, c4, c5, c6, c7, c8, c9⟩ := S1.out.one.cells
    obtain ⟨d0, d1, d2, d3, d4, d5, d6, d7, d8, d9⟩ := S1.out.two.cells
    clear hs
    go_wp2_with fail
    refine (EQ.out _ S1.out).mono ?_
    rintro e w2 ⟨rfl, hs⟩
    have S2 := Lib.hid hs
    clear c0 c1 c2 c3 c4 c5 c6 c7 c8 c9 d0 d1 d2 d3 d4 d5 d6 d7 d8 d9
    have x3 := X3.out
    obtain ⟨c0, c1, c2, c3, c4, c5, c6, c7, c8, c9⟩ := S2.out.one.cells
    obtain ⟨d0, d1, d2, d3, d4, d5, d6, d7, d8, d9⟩ := S2.out.two.cells
    clear hs
    go_wp2_with fail
    refine (L2.out _ S2.out).mono ?_
    rintro e w3 ⟨rfl, hs⟩
    have S3 := Lib.hid hs
    clear c0 c1 c2 c3 c4 c5 c6 c7 c8 c9 d0 d1 d2 d3 d4 d5 d6 d7 d8 d9
    have x5 := X5.out
    have x6 := X6.out
    have x7 := X7.out
    have x8 := X8.out
    obtain ⟨c0, c1, c2, c3, c4, c5, c6, c7, c8, c9⟩ := S3.out.one.cells
    obtain ⟨d0, d1, d2, d3, d4, d5, d6, d7, d8, d9⟩ := S3.out.two.cells
    clear hs
    go_wp2_with fail
    go_ret
    exact ⟨by rw [H.out]; rfl, S3.out.base⟩
  have x8 : (p.key == q.key) = true := by rw [beq_iff_eq]; exact e8
  rw [x8, Bool.true_and] at HP
  have X8 := Lib.hid x8
  clear x8 e8
  obtain ⟨y, hy⟩ : ∃ y, (p.late == q.late) = y := ⟨_, rfl⟩
  rw [hy] at HP
  have H := Lib.hid HP
  have X9 := Lib.hid hy
  clear HP hy
  go_enter Tryz.func15, Tryz.ntmps15
  obtain ⟨c0, c1, c2, c3, c4, c5, c6, c7, c8, c9⟩ := S0.out.one.cells
  obtain ⟨d0, d1, d2, d3, d4, d5, d6, d7, d8, d9⟩ := S0.out.two.cells
  go_wp2_with fail
  refine (L1.out _ S0.out).mono ?_
  rintro e w1 ⟨rfl, hs⟩
  have S1 := Lib.hid hs
  clear c0 c1 c2 c3 c4 c5 c6 c7 c8 c9 d0 d1 d2 d3 d4 d5 d6 d7 d8 d9
  obtain ⟨c0, c1, c2, c3, c4, c5, c6, c7, c8, c9⟩ := S1.out.one.cells
  obtain ⟨d0, d1, d2, d3, d4, d5, d6, d7, d8, d9⟩ := S1.out.two.cells
  clear hs
  go_wp2_with fail
  refine (EQ.out _ S1.out).mono ?_
  rintro e w2 ⟨rfl, hs⟩
  have S2 := Lib.hid hs
  clear c0 c1 c2 c3 c4 c5 c6 c7 c8 c9 d0 d1 d2 d3 d4 d5 d6 d7 d8 d9
  have x3 := X3.out
  obtain ⟨c0, c1, c2, c3, c4, c5, c6, c7, c8, c9⟩ := S2.out.one.cells
  obtain ⟨d0, d1, d2, d3, d4, d5, d6, d7, d8, d9⟩ := S2.out.two.cells
  clear hs
  go_wp2_with fail
  refine (L2.out _ S2.out).mono ?_
  rintro e w3 ⟨rfl, hs⟩
  have S3 := Lib.hid hs
  clear c0 c1 c2 c3 c4 c5 c6 c7 c8 c9 d0 d1 d2 d3 d4 d5 d6 d7 d8 d9
  have x5 := X5.out
  have x6 := X6.out
  have x7 := X7.out
  have x8 := X8.out
  have x9 := X9.out
  obtain ⟨c0, c1, c2, c3, c4, c5, c6, c7, c8, c9⟩ := S3.out.one.cells
  obtain ⟨d0, d1, d2, d3, d4, d5, d6, d7, d8, d9⟩ := S3.out.two.cells
  clear hs
  go_wp2_with fail
  go_ret
  exact ⟨by rw [H.out]; rfl, S3.out.base⟩
set_option maxRecDepth 100000 in
set_option maxHeartbeats 2000000 in
theorem refEqualQ_any (s t : Sl) (p q : Qy) (w : World) (hP : ReadsQ w s p) (hQ : ReadsQ w t q) (hpa : p.arg.length ≤ 1000000) (hpc : p.cond.length ≤ 1000000) (hps : p.src.length ≤ 9223372036854775807) :
    Calls Tryz.prog 29 #[qyVal s p, qyVal t q] w fun e w' => e = .returned (.bool (equalQ p q)) ∧ Below w.heap.size w w' := by
  have AL := Lib.hid (fun (W : World) (h : SP w W s p t q) => to_sp h (refAlikeQ_any s t p q W (hP.below h.base) (hQ.below h.base) hpa hpc hps))
  have E1 := Lib.hid (fun (W : World) (h : SP w W s p t q) => to_sp h (by_draws (refEqual_any s.arg t.arg p.arg q.arg W (hP.arg.below h.base) (hQ.arg.below h.base) hpa)))
  have E2 := Lib.hid (fun (W : World) (h : SP w W s p t q) => to_sp h (by_draws (refEqual_any s.cond t.cond p.cond q.cond W (hP.cond.below h.base) (hQ.cond.below h.base) hpc)))
  have S0 := Lib.hid (sp_start w s t p q)
  unfold qyBox at S0
  unfold qyVal qyRow at AL ⊢
  have HP : equalQ p q = (alikeQ p q && (equalB p.arg q.arg && equalB p.cond q.cond)) := rfl
  clear hP hQ hpa hpc hps
  cases x0 : alikeQ p q
  · have H : Hid (equalQ p q = false) := Lib.hid (by rw [HP, x0]; rfl)
    rw [x0] at AL
    clear HP x0
    go_enter Tryz.func29, Tryz.ntmps29
    obtain ⟨c0, c1, c2, c3, c4, c5, c6, c7, c8, c9⟩ := S0.out.one.cells
    obtain ⟨d0, d1, d2, d3, d4, d5, d6, d7, d8, d9⟩ := S0.out.two.cells
    go_wp2_with fail
    refine (AL.out _ S0.out).mono ?_
    rintro e w1 ⟨rfl, hs⟩
    have S1 := Lib.hid hs
    clear c0 c1 c2 c3 c4 c5 c6 c7 c8 c9 d0 d1 d2 d3 d4 d5 d6 d7 d8 d9
    obtain ⟨c0, c1, c2, c3, c4, c5, c6, c7, c8, c9⟩ := S1.out.one.cells
    obtain ⟨d0, d1, d2, d3, d4, d5, d6, d7, d8, d9⟩ := S1.out.two.cells
    clear hs
    go_wp2_with fail
    go_ret
    exact ⟨by rw [H.out]; rfl, S1.out.base⟩
  rw [x0, Bool.true_and] at HP
  rw [x0] at AL
  cases x1 : equalB p.arg q.arg
  · have H : Hid (equalQ p q = false) := Lib.hid (by rw [HP, x1]; rfl)
    rw [x1] at E1
    clear HP x0 x1
    go_enter Tryz.func29, Tryz.ntmps29
    obtain ⟨c0, c1, c2, c3, c4, c5, c6, c7, c8, c9⟩ := S0.out.one.cells
    obtain ⟨d0, d1, d2, d3, d4, d5, d6, d7, d8, d9⟩ := S0.out.two.cells
    go_wp2_with fail
    refine (AL.out _ S0.out).mono ?_
    rintro e w1 ⟨rfl, hs⟩
    have S1 := Lib.hid hs
    clear c0 c1 c2 c3 c4 c5 c6 c7 c8 c9 d0 d1 d2 d3 d4 d5 d6 d7 d8 d9
    obtain ⟨c0, c1, c2, c3, c4, c5, c6, c7, c8, c9⟩ := S1.out.one.cells
    obtain ⟨d0, d1, d2, d3, d4, d5, d6, d7, d8, d9⟩ := S1.out.two.cells
    clear hs
    go_wp2_with fail
    refine (E1.out _ S1.out).mono ?_
    rintro e w2 ⟨rfl, hs⟩
    have S2 := Lib.hid hs
    clear c0 c1 c2 c3 c4 c5 c6 c7 c8 c9 d0 d1 d2 d3 d4 d5 d6 d7 d8 d9
    obtain ⟨c0, c1, c2, c3, c4, c5, c6, c7, c8, c9⟩ := S2.out.one.cells
    obtain ⟨d0, d1, d2, d3, d4, d5, d6, d7, d8, d9⟩ := S2.out.two.cells
    clear hs
    go_wp2_with fail
    go_ret
    exact ⟨by rw [H.out]; rfl, S2.out.base⟩
  rw [x1, Bool.true_and] at HP
  rw [x1] at E1
  obtain ⟨y, hy⟩ : ∃ y, equalB p.cond q.cond = y := ⟨_, rfl⟩
  rw [hy] at HP E2
  have H := Lib.hid HP
  clear HP x0 x1 hy
  go_enter Tryz.func29, Tryz.ntmps29
  obtain ⟨c0, c1, c2, c3, c4, c5, c6, c7, c8, c9⟩ := S0.out.one.cells
  obtain ⟨d0, d1, d2, d3, d4, d5, d6, d7, d8, d9⟩ := S0.out.two.cells
  go_wp2_with fail
  refine (AL.out _ S0.out).mono ?_
  rintro e w1 ⟨rfl, hs⟩
  have S1 := Lib.hid hs
  clear c0 c1 c2 c3 c4 c5 c6 c7 c8 c9 d0 d1 d2 d3 d4 d5 d6 d7 d8 d9
  obtain ⟨c0, c1, c2, c3, c4, c5, c6, c7, c8, c9⟩ := S1.out.one.cells
  obtain ⟨d0, d1, d2, d3, d4, d5, d6, d7, d8, d9⟩ := S1.out.two.cells
  clear hs
  go_wp2_with fail
  refine (E1.out _ S1.out).mono ?_
  rintro e w2 ⟨rfl, hs⟩
  have S2 := Lib.hid hs
  clear c0 c1 c2 c3 c4 c5 c6 c7 c8 c9 d0 d1 d2 d3 d4 d5 d6 d7 d8 d9
  obtain ⟨c0, c1, c2, c3, c4, c5, c6, c7, c8, c9⟩ := S2.out.one.cells
  obtain ⟨d0, d1, d2, d3, d4, d5, d6, d7, d8, d9⟩ := S2.out.two.cells
  clear hs
  go_wp2_with fail
  refine (E2.out _ S2.out).mono ?_
  rintro e w3 ⟨rfl, hs⟩
  have S3 := Lib.hid hs
  clear c0 c1 c2 c3 c4 c5 c6 c7 c8 c9 d0 d1 d2 d3 d4 d5 d6 d7 d8 d9
  obtain ⟨c0, c1, c2, c3, c4, c5, c6, c7, c8, c9⟩ := S3.out.one.cells
  obtain ⟨d0, d1, d2, d3, d4, d5, d6, d7, d8, d9⟩ := S3.out.two.cells
  clear hs
  go_wp2_with fail
  go_ret
  exact ⟨by rw [H.out]; rfl, S3.out.base⟩
end Go.Proofs.YtdinaedknlkicaaGreatDoor.Nodes

/-
  Contracts of package clauses at the landed code (layer 8): Sources, Window; slices.Equal.
-/
import Derived.Test.YtfmobnlnedljeaaDoorClauseParts
namespace Go.Proofs.YtfmobnlnedljeaaDoor.Nodes
open Go.ChangeShapes Go.WideShapes Go.ChangeAt Go.RowKit

theorem inS_err {x : Int} (h : inS x = true) : (nameV x).2 = 0 := by rw [nameV_err, if_pos h]
theorem inS_err2 {x : Int} (h : inS x = false) : (nameV x).2 = 2 := by rw [nameV_err, h]; rfl
set_option maxRecDepth 100000 in
set_option maxHeartbeats 1000000 in
theorem clSources_any (v : Value) (l : List Int) (join : Bool) (w : World) (hf : NameFix w) (hR : ReadsI w v l) (hn : l.length ≤ 9223372036854775807) :
    Calls Tryd.prog 12 #[v, .bool join] w fun e w' => e = .returned (.int .i64 (sourcesV l join)) ∧ Below w.heap.size w w' := by
  obtain ⟨ad, cap, rfl⟩ := hR.shape
  by_cases h4 : 4 < l.length
  · have q4 : (4 : Int) < l.length := by omega
    rw [sources_many h4]
    clear hR hf
    go_enter Tryd.func12, Tryd.ntmps12
    go_wp2_with fail
    go_ret
    exact ⟨rfl, Below.refl _ _⟩
  have q4 : ¬ (4 : Int) < l.length := by omega
  by_cases h0 : l.length = 0
  · have q0 : ((l.length : Int) == 0) = true := by rw [beq_iff_eq]; omega
    rw [sources_none h0]
    clear hR hf h0
    go_enter Tryd.func12, Tryd.ntmps12
    go_wp2_with fail
    go_ret
    exact ⟨rfl, Below.refl _ _⟩
  have q0 : ((l.length : Int) == 0) = false := by rw [beq_eq_false_iff_ne]; omega
  have REP := Lib.hid (fun (W : World) (h : Below w.heap.size w W) hS => repeats_any (.slice ad l.length cap) l W (hR.below h) hS (by omega))
  have NM := Lib.hid (fun n (W : World) (h : Below w.heap.size w W) => clName_any n W (hf.below h))
  have RI := Lib.hid hR
  -- behind the guard
  have main : ∀ (_ : join = false ∨ ((l.length : Int) != 2) = false), Calls Tryd.prog 12 #[.slice ad l.length cap, .bool join] w fun e w' => e = .returned (.int .i64 (sourcesV l join)) ∧ Below w.heap.size w w' := by
    intro hj
    have hj2 : join = false ∨ l.length = 2 := hj.imp id (fun e => by rw [bne_eq_false_iff_eq] at e; omega)
    have SO := Lib.hid (fun h => sources_out h4 h0 hj2 h)
    have SI := Lib.hid (fun h => sources_in h4 h0 hj2 h)
    clear hR hf hj2 h4 h0
    have step : ∀ (_ : join = false ∨ (join = true ∧ ((l.length : Int) != 2) = false)), Calls Tryd.prog 12 #[.slice ad l.length cap, .bool join] w fun e w' => e = .returned (.int .i64 (sourcesV l join)) ∧ Below w.heap.size w w' := by
      intro hj3
      rcases hj3 with rfl | ⟨rfl, q2⟩
      all_goals
        clear hj
        go_enter Tryd.func12, Tryd.ntmps12
        go_wp2_with fail
        go_loopg [25] l.length (fun g i wx => ∃ k : Nat, k + g = l.length ∧ i = .int .i64 k ∧ Hid ((l.take k).all inS = true) ∧ Hid (w = wx))
        case atStart => exact ⟨0, by omega, rfl, Lib.hid (by simp), Lib.hid rfl⟩
        case round =>
          obtain ⟨k, hk, rfl, HA, HW⟩ := hrel
          obtain rfl := HW.out
          cases gk with
          | zero =>
            obtain rfl : k = l.length := by omega
            have hall : l.all inS = true := by have := HA.out; rwa [List.take_length] at this
            have RP := Lib.hid (REP.out w (Below.refl _ _) hall)
            have H := Lib.hid (SI.out hall)
            clear hk hall
            cases ho : onceB l
            · rw [ho] at RP H
              go_wp2_with fail
              refine RP.out.mono ?_
              rintro e w2 ⟨rfl, hb⟩
              have HB := Lib.hid hb
              clear hb ho
              go_wp2_with fail
              go_ret
              exact ⟨by rw [H.out]; rfl, HB.out⟩
            · rw [ho] at RP H
              go_wp2_with fail
              refine RP.out.mono ?_
              rintro e w2 ⟨rfl, hb⟩
              have HB := Lib.hid hb
              clear hb ho
              go_wp2_with fail
              go_ret
              exact ⟨by rw [H.out]; rfl, HB.out⟩
          | succ g =>
            have hlt : k < l.length := by omega
            obtain ⟨b, o, cp, e, hb, hc⟩ := RI.out.num k hlt
            cases e
            have HX : Hid (∃ h : k < l.length, l[k] = l[k]) := Lib.hid ⟨hlt, rfl⟩
            have HM := Lib.hid (fun (e : inS l[k] = true) => all_more hlt HA.out e)
            have HO := Lib.hid (fun (e : inS l[k] = false) => all_out hlt e)
            obtain ⟨x, hx⟩ : ∃ x, l[k] = x := ⟨_, rfl⟩
            rw [hx] at hc HM HO
            have N1 := Lib.hid (NM.out x w (Below.refl _ _))
            obtain ⟨s, hs⟩ : ∃ s, (nameV x).1 = s := ⟨_, rfl⟩
            rw [hs] at N1
            clear hs hx HX
            cases hi : inS x
            · have H := Lib.hid (SO.out (HO.out hi))
              rw [inS_err2 hi] at N1
              clear hi HM HO
              go_wp2_with fail
              refine N1.out.mono ?_
              rintro e w2 ⟨rfl, rfl⟩
              go_wp2_with fail
              go_ret
              exact ⟨by rw [H.out]; rfl, Below.refl _ _⟩
            · have H := Lib.hid (HM.out hi)
              rw [inS_err hi] at N1
              clear hi HM HO
              go_wp2_with fail
              refine N1.out.mono ?_
              rintro e w2 ⟨rfl, rfl⟩
              go_wp2_with fail
              go_roundg g
              case measure => omega
              case rel => exact ⟨k + 1, by omega, by go_num, H, Lib.hid rfl⟩
    cases join
    · exact step (.inl rfl)
    · exact step (.inr ⟨rfl, hj.resolve_left (by simp)⟩)
  cases hj : join
  · rw [← hj]; exact main (.inl hj)
  · rw [← hj]
    by_cases h2 : l.length = 2
    · exact main (.inr (by rw [bne_eq_false_iff_eq]; omega))
    · have q2 : ((l.length : Int) != 2) = true := by rw [bne_iff_ne]; omega
      rw [sources_two h4 hj h2]
      subst hj
      clear main RI NM REP hR hf h0 h4 h2
      go_enter Tryd.func12, Tryd.ntmps12
      go_wp2_with fail
      go_ret
      exact ⟨rfl, Below.refl _ _⟩
end Go.Proofs.YtfmobnlnedljeaaDoor.Nodes

/-
  Contracts of package clauses at the landed code (layer 8): within, Name, Source, repeats, Sources, Window, slices.Equal.
-/
import Derived.Test.YtfmobnlnedljeaaDoorClauseReads
import Derived.Test.YtfmobnlnedljeaaDoorNodeLand
import Derived.Outline
import Derived.Deep.QuietTactic
import Derived.BigQuiet
namespace Go.Proofs.YtfmobnlnedljeaaDoor.Nodes
open Go.ChangeShapes Go.WideShapes Go.ChangeAt Go.RowKit

theorem cwithinU_any (v a b : Int) (w : World) : Calls Tryd.prog 34 #[.int .u8 v, .int .u8 a, .int .u8 b] w fun e w' => e = .returned (.bool (inB v a b)) ∧ w = w' := by
  by_cases h1 : a ≤ v
  · by_cases h2 : v ≤ b
    · have H := Lib.hid (inB_yes h1 h2)
      go_enter Tryd.func34, Tryd.ntmps34
      go_wp2_with fail
      go_ret
      exact ⟨by rw [H.out]; rfl, rfl⟩
    · have H := Lib.hid (inB_high (a := a) h2)
      go_enter Tryd.func34, Tryd.ntmps34
      go_wp2_with fail
      go_ret
      exact ⟨by rw [H.out]; rfl, rfl⟩
  · have H := Lib.hid (inB_low (b := b) h1)
    go_enter Tryd.func34, Tryd.ntmps34
    go_wp2_with fail
    go_ret
    exact ⟨by rw [H.out]; rfl, rfl⟩
theorem cwithinI_any (v a b : Int) (w : World) : Calls Tryd.prog 37 #[.int .i64 v, .int .i64 a, .int .i64 b] w fun e w' => e = .returned (.bool (inB v a b)) ∧ w = w' := by
  by_cases h1 : a ≤ v
  · by_cases h2 : v ≤ b
    · have H := Lib.hid (inB_yes h1 h2)
      go_enter Tryd.func37, Tryd.ntmps37
      go_wp2_with fail
      go_ret
      exact ⟨by rw [H.out]; rfl, rfl⟩
    · have H := Lib.hid (inB_high (a := a) h2)
      go_enter Tryd.func37, Tryd.ntmps37
      go_wp2_with fail
      go_ret
      exact ⟨by rw [H.out]; rfl, rfl⟩
  · have H := Lib.hid (inB_low (b := b) h1)
    go_enter Tryd.func37, Tryd.ntmps37
    go_wp2_with fail
    go_ret
    exact ⟨by rw [H.out]; rfl, rfl⟩
theorem cwithinL_any (v a b : Int) (w : World) : Calls Tryd.prog 30 #[.int .i64 v, .int .i64 a, .int .i64 b] w fun e w' => e = .returned (.bool (inB v a b)) ∧ w = w' := by
  by_cases h1 : a ≤ v
  · by_cases h2 : v ≤ b
    · have H := Lib.hid (inB_yes h1 h2)
      go_enter Tryd.func30, Tryd.ntmps30
      go_wp2_with fail
      go_ret
      exact ⟨by rw [H.out]; rfl, rfl⟩
    · have H := Lib.hid (inB_high (a := a) h2)
      go_enter Tryd.func30, Tryd.ntmps30
      go_wp2_with fail
      go_ret
      exact ⟨by rw [H.out]; rfl, rfl⟩
  · have H := Lib.hid (inB_low (b := b) h1)
    go_enter Tryd.func30, Tryd.ntmps30
    go_wp2_with fail
    go_ret
    exact ⟨by rw [H.out]; rfl, rfl⟩

/-! ### Names -/
theorem clName_any (n : Int) (w : World) (hf : NameFix w) : Calls Tryd.prog 16 #[.int .i64 n] w fun e w' => e = .returned (.tuple #[.string (nameV n).1, .int .i64 (nameV n).2]) ∧ w = w' := by
  have C := Lib.hid (fun W => cwithinI_any n 0 3 W)
  cases h : inB n 0 3
  · rw [h] at C
    rw [nameV_out h]
    clear h
    go_enter Tryd.func16, Tryd.ntmps16
    go_wp2_with fail
    refine (C.out _).mono ?_
    rintro e w2 ⟨rfl, rfl⟩
    go_wp2_with fail
    go_ret2
    exact ⟨rfl, rfl⟩
  · rw [h] at C
    have hb : 0 ≤ n ∧ n ≤ 3 := of_decide_eq_true h
    obtain ⟨k, rfl⟩ : ∃ k : Nat, n = k := ⟨n.toNat, by omega⟩
    have hk : k < 4 := by omega
    have hk4 : (k : Int) < 4 := by omega
    rw [nameV_in hk]
    have hc := hf.cell k hk
    obtain ⟨s, hs⟩ : ∃ s, nameAt k = s := ⟨_, rfl⟩
    rw [hs] at hc ⊢
    clear h hb hs hf
    go_enter Tryd.func16, Tryd.ntmps16
    go_wp2_with fail
    refine (C.out _).mono ?_
    rintro e w2 ⟨rfl, rfl⟩
    go_wp2_with fail
    go_ret2
    exact ⟨rfl, rfl⟩
set_option maxRecDepth 100000 in
theorem clSource_any (s : ByteArray) (w : World) (hf : NameFix w) : Calls Tryd.prog 17 #[.string s] w fun e w' => e = .returned (.tuple #[.int .i64 (sourceV s).1, .int .i64 (sourceV s).2]) ∧ w = w' := by
  have hr := hf.row
  have hix := name_index
  clear hf
  go_enter Tryd.func17, Tryd.ntmps17
  go_wp2_with (refine wpList_load_mid rfl 69 _ rfl 0 0 rfl nameRow.toList _ hr Tryd.underlying69 rfl iName ?_)
  clear hr
  go_loop [7] (fun i => ∃ k : Nat, k ≤ 4 ∧ i = .int .i64 k ∧ Hid (∀ j, j < k → s.data.toList ≠ (nameAt j).data.toList)) (fun i => 4 - (intOf i).toNat)
  case atStart => exact ⟨0, Nat.zero_le _, rfl, Lib.hid fun j hj => absurd hj (Nat.not_lt_zero _)⟩
  case round =>
    obtain ⟨k, hk, rfl, hall⟩ := hrel
    by_cases hlt : k < 4
    · have hx := hix k hlt
      by_cases he : s.data.toList = (nameAt k).data.toList
      · have H := Lib.hid (source_hit hlt hall.out he)
        have ht : (s.toList == (nameAt k).toList) = true := by rw [beq_iff_eq, ByteArray.toList_eq, ByteArray.toList_eq]; exact he
        clear he hall hix
        go_wp2_with fail
        go_ret2
        exact ⟨by rw [H.out]; rfl, rfl⟩
      · have H : Hid (∀ j, j < k + 1 → s.data.toList ≠ (nameAt j).data.toList) := Lib.hid fun j hj => by
          rcases Nat.lt_succ_iff_lt_or_eq.1 hj with h | rfl
          · exact hall.out j h
          · exact he
        have ht : (s.toList == (nameAt k).toList) = false := by rw [beq_eq_false_iff_ne, ByteArray.toList_eq, ByteArray.toList_eq]; exact he
        clear he hall hix
        go_wp2_with fail
        go_round
        case rel => exact ⟨k + 1, by omega, by go_num, H⟩
        case measure => simp [intOf]; omega
    · obtain rfl : k = 4 := by omega
      have H := Lib.hid (source_miss hall.out)
      clear hall hix
      go_wp2_with fail
      go_ret2
      exact ⟨by rw [H.out]; rfl, rfl⟩

/-! ### Sources -/
theorem cl_law : Maps.Keyed Tryd.prog 3 := Maps.int_keyed Tryd.underlying3
theorem cl_zero (w : World) : (zeroValue 4).run Tryd.prog w = .ok (.bool false) w := by kernel_rfl
theorem inS_wf {x : Int} (h : inS x = true) : (Lit.int .i64 x).wf = true := by
  have := of_decide_eq_true h
  exact WalkArith.wf_i64 (by omega)
set_option maxRecDepth 100000 in
theorem repeats_any (v : Value) (l : List Int) (w : World) (hR : ReadsI w v l) (hS : l.all inS = true) (hn : l.length ≤ 4) :
    Calls Tryd.prog 31 #[v] w fun e w' => e = .returned (.bool (!onceB l)) ∧ Below w.heap.size w w' := by
  have hmm := @run_makeMap Tryd.prog
  obtain ⟨ad, cap, rfl⟩ := hR.shape
  have RI := Lib.hid hR
  have HS := Lib.hid hS
  clear hR hS
  go_enter Tryd.func31, Tryd.ntmps31
  go_wp2_with fail
  go_loopg [9] l.length (fun g i wx => ∃ (k : Nat) (D : DataW Unit), k + g = l.length ∧ i = .int .i64 k ∧ Hid (wx.ownsMap Tryd.prog 3 (plainElem Tryd.prog 4) w.heap.size k D) ∧ Hid (Holds D (l.take k)) ∧ Hid (l.take k).Nodup ∧ Hid (Below w.heap.size w wx))
  case atStart => exact ⟨0, .map [], by omega, rfl, Lib.hid (World.ownsMap_made _ _ _ _), Lib.hid holds_nil, Lib.hid (by simp), Lib.hid ((Below.refl _ _).alloc (Nat.le_refl _) _)⟩
  case round =>
    obtain ⟨k, D, hk, rfl, HO, HD, HN, HB⟩ := hrel
    cases gk with
    | zero =>
      obtain rfl : k = l.length := by omega
      have H := Lib.hid (once_yes HN.out)
      clear hk
      go_wp2_with fail
      go_ret
      exact ⟨by rw [H.out]; rfl, HB.out⟩
    | succ g =>
      have hlt : k < l.length := by omega
      obtain ⟨b, o, cp, e, hb, hc⟩ := (RI.out.below HB.out).num k hlt
      cases e
      obtain ⟨x, hx⟩ : ∃ x, l[k] = x := ⟨_, rfl⟩
      have hin : inS x = true := by rw [← hx]; exact List.all_eq_true.1 HS.out _ (List.getElem_mem hlt)
      have HW := Lib.hid (inS_wf hin)
      rw [hx] at hc
      by_cases hm : x ∈ l.take k
      · have hat : D.atKey (.int .i64 x) (.lit (.bool false)) = .lit (.bool true) := by rw [HD.out.2, decide_eq_true hm]
        have H := Lib.hid (once_not hlt (by rw [hx]; exact hm))
        have HA := Lib.hid hat
        clear hm hat hx hin hmm
        go_wp2_with (first
          | (at_lookup; refine wpList_look_bool _ rfl _ _ 76 rfl 3 4 cl_law Tryd.underlying76 Tryd.underlying4 (cl_zero _) w.heap.size k D rfl HO.out _ _ rfl (Maps.keyOf_int_mk Tryd.underlying3 HW.out) true HA.out ?_)
          | fail)
        go_ret
        exact ⟨by rw [H.out]; rfl, HB.out⟩
      · have hat : D.atKey (.int .i64 x) (.lit (.bool false)) = .lit (.bool false) := by rw [HD.out.2, decide_eq_false hm]
        have HA := Lib.hid hat
        have HD2 := Lib.hid (holds_put HD.out x)
        have ht : l.take k ++ [x] = l.take (k + 1) := by rw [List.take_succ_eq_append_getElem hlt, hx]
        rw [ht] at HD2
        have HN2 := Lib.hid (once_take_more hlt HN.out (by rw [hx]; exact hm))
        clear hm hat hx hin hmm ht
        go_wp2_with (first
          | (at_lookup; refine wpList_look_bool _ rfl _ _ 76 rfl 3 4 cl_law Tryd.underlying76 Tryd.underlying4 (cl_zero _) w.heap.size k D rfl HO.out _ _ rfl (Maps.keyOf_int_mk Tryd.underlying3 HW.out) false HA.out ?_)
          | (at_mapUpdate; refine wpList_mapUpdate_own _ rfl _ _ _ 76 rfl 3 4 cl_law Tryd.underlying76 (plainElem (H := Unit) Tryd.prog 4) w.heap.size k D rfl HO.out (by unfold maxLen; omega) _ _ _ rfl rfl (Maps.keyOf_int_mk Tryd.underlying3 HW.out) _ [] (plainElem_bool Tryd.underlying4 true) ?_; intro w1 hown1 hgrow1)
          | fail)
        go_roundg g
        case measure => omega
        case rel => exact ⟨k + 1, _, by omega, by go_num, Lib.hid hown1, HD2, HN2, Lib.hid (HB.out.grown hgrow1 HB.out.size (fun j hj => by cases hj; exact Nat.le_refl _))⟩
end Go.Proofs.YtfmobnlnedljeaaDoor.Nodes

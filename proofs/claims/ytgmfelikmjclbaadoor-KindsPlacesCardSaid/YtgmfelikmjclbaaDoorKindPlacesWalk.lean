/-
  Walk of the statement KindsPlaces: where nodes stand does not matter, nor which number, key, time or value a node without parts is.
-/
import Derived.Test.YtgmfelikmjclbaaDoorKindHelp
import Derived.Test.YtgmfelikmjclbaaDoorNodeCells
import Derived.Test.YtgmfelikmjclbaaDoorKindTellsWalk
import Derived.Outline
namespace Go.Proofs.YtgmfelikmjclbaaDoor.Nodes
open Go.ChangeShapes Go.WideShapes Go.ChangeAt Go.RowKit

/-- The first nodes with other leaves, at another place. -/
def leafK (leaf p : Int) (l : List Nd) (k : Nat) : List Nd := (l.take k).map (leafN leaf p) ++ l.drop k
theorem leafK_zero (leaf p : Int) (l : List Nd) : leafK leaf p l 0 = l := rfl
theorem leafK_all (leaf p : Int) (l : List Nd) : leafK leaf p l l.length = leafL leaf p l := by
  unfold leafK leafL; rw [List.take_length, List.drop_length, List.append_nil]
theorem leafK_len (leaf p : Int) (l : List Nd) (k : Nat) : (leafK leaf p l k).length = l.length := by
  unfold leafK; simp; omega
theorem leafK_get (leaf p : Int) (l : List Nd) {k : Nat} (hk : k < l.length) : (leafK leaf p l k)[k]'(by rw [leafK_len]; exact hk) = l[k] := by
  unfold leafK
  rw [List.getElem_append_right (by simp; omega)]
  simp [List.length_take, Nat.min_eq_left (Nat.le_of_lt hk)]
theorem leafK_next (leaf p : Int) (l : List Nd) {k : Nat} (hk : k < l.length) : (leafK leaf p l k).set k (leafN leaf p l[k]) = leafK leaf p l (k + 1) := by
  unfold leafK
  rw [List.set_append_right _ _ (by simp; omega), List.take_succ_eq_append_getElem hk, List.map_append, List.append_assoc]
  congr 1
  rw [List.length_map, List.length_take, Nat.min_eq_left (Nat.le_of_lt hk), Nat.sub_self, List.drop_eq_getElem_cons hk]
  rfl
set_option maxRecDepth 100000 in
set_option maxHeartbeats 4000000 in
theorem places_walk (v : Value) (l : List Nd) (at_ leaf : Int) (w : World) (hf : KindFix w) (hR : ReadsN w v l) (hn : l.length ≤ 9223372036854775807) (hk0 : 0 ≤ leaf) (hk1 : leaf ≤ 255) :
    Calls Tryd.prog 8 #[v, .int .i64 at_, .int .u8 leaf] w fun e w' => e = .returned (.bool true) ∧ Below w.heap.size w w' := by
  have AL := Lib.hid (fun (W : World) (h : Below w.heap.size w W) => alive6_any W (hf.below h))
  have GG := Lib.hid (fun (W : World) (h : Below w.heap.size w W) => great_any v l W (hR.below h))
  have OF := Lib.hid (fun (W : World) (h : Below w.heap.size w W) (h70 : l.length ≤ 70) => kindsOf_any v l W (hf.below h) (hR.below h) (by omega))
  have CK := Lib.hid (fun (W : World) (h : Below w.heap.size w W) (h70 : l.length ≤ 70) => refCheck_any v l W (hR.below h) (by omega))
  have F := Lib.hid hf
  have HR := Lib.hid hR
  obtain ⟨ad, cap, rfl⟩ := hR.shape
  have HB0 := Lib.hid (Below.refl w.heap.size w)
  cases hg : decide (70 < l.length)
  · have h70 : l.length ≤ 70 := by rw [decide_eq_false_iff_not] at hg; omega
    rw [hg] at GG
    clear hg
    by_cases hc : checkV l = 0
    · have q : (checkV l != 0) = false := by rw [hc]; rfl
      have HC := Lib.hid hc
      by_cases g1 : at_ < 0
      · have d1 : decide (at_ < 0) = true := decide_eq_true g1
        clear hc hf hR
        go_enter Tryd.func8, Tryd.ntmps8
        go_wp2_with fail
        refine (GG.out _ HB0.out).mono ?_
        rintro e w1 ⟨rfl, rfl⟩
        have HB1 := HB0
        go_wp2_with fail
        refine (CK.out _ HB1.out h70).mono ?_
        rintro e w2 ⟨rfl, hb⟩
        have HB2 := Lib.hid (below_then HB1.out hb)
        clear hb
        go_wp2_with fail
        refine (AL.out _ HB2.out).mono ?_
        rintro e w3 ⟨rfl, hb⟩
        have HB3 := Lib.hid (below_then HB2.out hb)
        clear hb
        go_wp2_with fail
        go_ret
        exact ⟨rfl, HB3.out⟩
      · have d1 : decide (at_ < 0) = false := decide_eq_false g1
        by_cases g2 : 400 < at_
        · have d2 : decide (400 < at_) = true := decide_eq_true g2
          clear hc hf hR
          go_enter Tryd.func8, Tryd.ntmps8
          go_wp2_with fail
          refine (GG.out _ HB0.out).mono ?_
          rintro e w1 ⟨rfl, rfl⟩
          have HB1 := HB0
          go_wp2_with fail
          refine (CK.out _ HB1.out h70).mono ?_
          rintro e w2 ⟨rfl, hb⟩
          have HB2 := Lib.hid (below_then HB1.out hb)
          clear hb
          go_wp2_with fail
          refine (AL.out _ HB2.out).mono ?_
          rintro e w3 ⟨rfl, hb⟩
          have HB3 := Lib.hid (below_then HB2.out hb)
          clear hb
          go_wp2_with fail
          go_ret
          exact ⟨rfl, HB3.out⟩
        · have d2 : decide (400 < at_) = false := decide_eq_false g2
          by_cases g3 : leaf < 1
          · have d3 : decide (leaf < 1) = true := decide_eq_true g3
            clear hc hf hR
            go_enter Tryd.func8, Tryd.ntmps8
            go_wp2_with fail
            refine (GG.out _ HB0.out).mono ?_
            rintro e w1 ⟨rfl, rfl⟩
            have HB1 := HB0
            go_wp2_with fail
            refine (CK.out _ HB1.out h70).mono ?_
            rintro e w2 ⟨rfl, hb⟩
            have HB2 := Lib.hid (below_then HB1.out hb)
            clear hb
            go_wp2_with fail
            refine (AL.out _ HB2.out).mono ?_
            rintro e w3 ⟨rfl, hb⟩
            have HB3 := Lib.hid (below_then HB2.out hb)
            clear hb
            go_wp2_with fail
            go_ret
            exact ⟨rfl, HB3.out⟩
          · have d3 : decide (leaf < 1) = false := decide_eq_false g3
            by_cases g4 : 4 < leaf
            · have d4 : decide (4 < leaf) = true := decide_eq_true g4
              clear hc hf hR
              go_enter Tryd.func8, Tryd.ntmps8
              go_wp2_with fail
              refine (GG.out _ HB0.out).mono ?_
              rintro e w1 ⟨rfl, rfl⟩
              have HB1 := HB0
              go_wp2_with fail
              refine (CK.out _ HB1.out h70).mono ?_
              rintro e w2 ⟨rfl, hb⟩
              have HB2 := Lib.hid (below_then HB1.out hb)
              clear hb
              go_wp2_with fail
              refine (AL.out _ HB2.out).mono ?_
              rintro e w3 ⟨rfl, hb⟩
              have HB3 := Lib.hid (below_then HB2.out hb)
              clear hb
              go_wp2_with fail
              go_ret
              exact ⟨rfl, HB3.out⟩
            · have d4 : decide (4 < leaf) = false := decide_eq_false g4
              have hpos := (check_acc hc).2.1
              have ho := leaf_of (leaf := leaf) (p := at_) (by omega) (by omega) (by omega) (by omega) hc
              have OM := Lib.hid (fun vo (W : World) (h : Below w.heap.size w W) (hr : ReadsN W vo (leafL leaf at_ l)) => kindsOf_any vo _ W (F.out.below h) hr (by rw [leaf_len]; omega))
              rw [ho] at OM
              obtain ⟨is, at2, e0, ho2⟩ : ∃ is at_ e0, ofV l = (is, at_, e0) := ⟨_, _, _, rfl⟩
              rw [ho2] at OF OM
              have q1 : (is == is) = true := by simp
              have q2 : (at2 == at2) = true := by simp
              have q3 : (e0 == e0) = true := by simp
              obtain ⟨i0, hi, hz0, hz1, hz2⟩ := info_parts info_nd
              have HI := Lib.hid (And.intro hi (And.intro hz0 (And.intro hz1 hz2)))
              clear hc hf hR ho ho2 hi hz0 hz1 hz2
              go_enter Tryd.func8, Tryd.ntmps8
              go_wp2_with fail
              refine (GG.out _ HB0.out).mono ?_
              rintro e w1 ⟨rfl, rfl⟩
              have HB1 := HB0
              go_wp2_with fail
              refine (CK.out _ HB1.out h70).mono ?_
              rintro e w2 ⟨rfl, hb⟩
              have HB2 := Lib.hid (below_then HB1.out hb)
              clear hb
              obtain ⟨aa, rfl, hnd⟩ := cells_of (HR.out.below HB2.out) hpos
              have HND := Lib.hid hnd
              clear hnd
              go_wp2_with (at_builtin; refine wpList_append_own _ rfl _ _ 22 rfl w2.heap.size 29 i0 (.agg #[.int .u8 0, .int .i64 0, .int .i64 0, .int .i64 0, .int .i64 0]) 5 40 Tryd.underlying22 HI.out.1 HI.out.2.1 HI.out.2.2.1 HI.out.2.2.2 rfl (by decide) _ _ _ rfl (World.ownsRow_made w2 #[] 0 (Nat.le_refl _) (Nat.zero_le _) rfl) aa l.length cap (rowN l) rfl (rowN_len l) HND.out (rowN_one l) ?c3 ?c4 ?c5 ?_)
              case c3 => unfold maxLen; omega
              case c4 => omega
              case c5 => simp
              intro v1 w5 hown hgrow _
              have hb5 : Below w2.heap.size w2 w5 := ((Below.refl _ w2).alloc (Nat.le_refl _) _).grown hgrow (by simp) (fun k hk => by simp [Value.ownBlock] at hk; omega)
              have HO0 : Hid (w5.ownsRow w2.heap.size 29 5 v1 l.length (rowN l)) := Lib.hid (by simpa using hown)
              clear hown hgrow
              have HBX := Lib.hid hb5
              obtain ⟨g1x, cap1, hv1⟩ : ∃ g cap, v1 = .slice (some ⟨g, 0, none⟩) l.length cap := by
                rcases HO0.out.2 with ⟨_, h0⟩ | ⟨g, cap, _, hv, _⟩
                · omega
                · exact ⟨g, cap, hv⟩
              subst hv1
              clear hb5
              go_wp2_with fail
              go_loopg [8] l.length (fun g s8 wx => ∃ k : Nat, k + g = l.length ∧ s8 = .int .i64 k ∧ Hid (wx.ownsRow w2.heap.size 29 5 (.slice (some ⟨g1x, 0, none⟩) l.length cap1) l.length (rowN (leafK leaf at_ l k))) ∧ Hid (Below w2.heap.size w2 wx))
              case atStart => exact ⟨0, by omega, rfl, HO0, HBX⟩
              case round =>
                obtain ⟨k, hk, rfl, HO, HB⟩ := hrel
                cases gk with
                | zero =>
                  obtain rfl : k = l.length := by omega
                  have HOL := HO.out
                  rw [leafK_all] at HOL
                  have HM : Hid (ReadsN wr (.slice (some ⟨g1x, 0, none⟩) l.length cap1) (leafL leaf at_ l)) := Lib.hid (by
                    have := own_readsN (l := leafL leaf at_ l) (v := .slice (some ⟨g1x, 0, none⟩) l.length cap1) (by rw [leaf_len]; exact HOL)
                    exact this)
                  have HB0 := Lib.hid (below_then HB2.out HB.out)
                  clear hk HOL
                  go_wp2_with fail
                  refine (OF.out _ HB0.out h70).mono ?_
                  rintro e w1 ⟨rfl, hb⟩
                  have HB1 := Lib.hid (below_then HB0.out hb)
                  have HM1 := Lib.hid (HM.out.below hb)
                  clear hb
                  go_wp2_with fail
                  refine (OM.out _ _ HB1.out HM1.out).mono ?_
                  rintro e w2 ⟨rfl, hb⟩
                  have HB2 := Lib.hid (below_then HB1.out hb)
                  clear hb
                  go_wp2_with fail
                  refine (AL.out _ HB2.out).mono ?_
                  rintro e w3 ⟨rfl, hb⟩
                  have HB3 := Lib.hid (below_then HB2.out hb)
                  clear hb
                  go_wp2_with fail
                  go_ret
                  exact ⟨rfl, HB3.out⟩
                | succ g =>
                  have hlt : k < l.length := by omega
                  have hlen : k < (leafK leaf at_ l k).length := by rw [leafK_len]; exact hlt
                  obtain ⟨X, hX⟩ : ∃ X, leafK leaf at_ l k = X := ⟨_, rfl⟩
                  have hget := leafK_get leaf at_ l hlt
                  have hnext := leafK_next leaf at_ l hlt
                  have HO1 := HO.out
                  simp only [hX] at hlen hget hnext HO1
                  have hXl : X.length = l.length := by rw [← hX, leafK_len]
                  obtain ⟨x, hx⟩ : ∃ x, l[k] = x := ⟨_, rfl⟩
                  rw [hx] at hget hnext
                  obtain ⟨xk, xn, xa, xb, xp⟩ := x
                  have hcell := rowN_at X k _ (by rw [List.getElem?_eq_getElem hlen, hget])
                  have f4 := HO1.frozenAt (k * 5 + 4)
                  have c4 := HO1.cellAt (k * 5 + 4) (by omega)
                  rw [hcell.2.2.2.2] at c4
                  have st := (HO1.stored (k * 5 + 4) (.int .i64 at_)).1
                  rw [rowN_set X k hlen 4 (by decide) (.int .i64 at_) ⟨xk, xn, xa, xb, at_⟩ (by rw [hget]; rfl)] at st
                  have hg1 := (HO1.lt g1x rfl).1
                  have HB1 := HB.out.setCell (p := ⟨g1x, k * 5 + 4, none⟩) hg1 (.int .i64 at_)
                  obtain ⟨Y, hY⟩ : ∃ Y, X.set k ⟨xk, xn, xa, xb, at_⟩ = Y := ⟨_, rfl⟩
                  have hYl : k < Y.length := by rw [← hY, List.length_set]; exact hlen
                  have hYg : Y[k] = ⟨xk, xn, xa, xb, at_⟩ := by subst hY; rw [List.getElem_set_self]
                  rw [hY] at st
                  have hcell2 := rowN_at Y k _ (by rw [List.getElem?_eq_getElem hYl, hYg])
                  have e0 := st.cellAt (k * 5) (by omega)
                  rw [hcell2.1] at e0
                  have ef0 := st.frozenAt (k * 5)
                  by_cases h4 : xk ≤ 4
                  · have d5 : decide (xk ≤ 4) = true := decide_eq_true h4
                    have st2 := (st.stored (k * 5) (.int .u8 leaf)).1
                    have r2 := rowN_set Y k hYl 0 (by decide) (.int .u8 leaf) ⟨leaf, xn, xa, xb, at_⟩ (by rw [hYg]; rfl)
                    rw [Nat.add_zero] at r2
                    rw [r2] at st2
                    have HB2 := HB1.setCell (p := ⟨g1x, k * 5, none⟩) hg1 (.int .u8 leaf)
                    obtain ⟨Z, hZ⟩ : ∃ Z, Y.set k ⟨leaf, xn, xa, xb, at_⟩ = Z := ⟨_, rfl⟩
                    have hZl : k < Z.length := by rw [← hZ, List.length_set]; exact hYl
                    have hZg : Z[k] = ⟨leaf, xn, xa, xb, at_⟩ := by subst hZ; rw [List.getElem_set_self]
                    rw [hZ] at st2
                    have hcell3 := rowN_at Z k _ (by rw [List.getElem?_eq_getElem hZl, hZg])
                    have b1 := st2.cellAt (k * 5 + 1) (by omega)
                    rw [hcell3.2.1] at b1
                    have bf1 := st2.frozenAt (k * 5 + 1)
                    have st3 := (st2.stored (k * 5 + 1) (.int .i64 0)).1
                    rw [rowN_set Z k hZl 1 (by decide) (.int .i64 0) ⟨leaf, 0, xa, xb, at_⟩ (by rw [hZg]; rfl)] at st3
                    have hfin : Z.set k ⟨leaf, 0, xa, xb, at_⟩ = leafK leaf at_ l (k + 1) := by
                      rw [← hnext, ← hZ, ← hY, List.set_set, List.set_set]
                      unfold leafN
                      rw [if_pos h4]
                    rw [hfin] at st3
                    have HS := Lib.hid st3
                    have HB3 := Lib.hid (HB2.setCell (p := ⟨g1x, k * 5 + 1, none⟩) hg1 (.int .i64 0))
                    clear st3 st2 st hcell hcell2 hcell3 hnext hget hX hY hZ hYg hZg HO1 HB1 HB2 r2 hfin hx
                    go_wp2_with fail
                    go_roundg g
                    case measure => omega
                    case rel => exact ⟨k + 1, by omega, by go_num, HS, HB3⟩
                  · have d5 : decide (xk ≤ 4) = false := decide_eq_false h4
                    have hfin : Y = leafK leaf at_ l (k + 1) := by
                      rw [← hnext, ← hY]
                      unfold leafN
                      rw [if_neg h4]
                    rw [hfin] at st
                    have HS := Lib.hid st
                    have HB3 := Lib.hid HB1
                    clear st hcell hcell2 hnext hget hX hY hYg HO1 HB1 hfin hx
                    go_wp2_with fail
                    go_roundg g
                    case measure => omega
                    case rel => exact ⟨k + 1, by omega, by go_num, HS, HB3⟩
    · have q : (checkV l != 0) = true := by rw [bne_iff_ne]; exact hc
      clear hc hf hR
      go_enter Tryd.func8, Tryd.ntmps8
      go_wp2_with fail
      refine (GG.out _ HB0.out).mono ?_
      rintro e w1 ⟨rfl, rfl⟩
      have HB1 := HB0
      go_wp2_with fail
      refine (CK.out _ HB1.out h70).mono ?_
      rintro e w2 ⟨rfl, hb⟩
      have HB2 := Lib.hid (below_then HB1.out hb)
      clear hb
      go_wp2_with fail
      refine (AL.out _ HB2.out).mono ?_
      rintro e w3 ⟨rfl, hb⟩
      have HB3 := Lib.hid (below_then HB2.out hb)
      clear hb
      go_wp2_with fail
      go_ret
      exact ⟨rfl, HB3.out⟩
  · rw [hg] at GG
    clear hg hf hR
    go_enter Tryd.func8, Tryd.ntmps8
    go_wp2_with fail
    refine (GG.out _ HB0.out).mono ?_
    rintro e w1 ⟨rfl, rfl⟩
    have HB1 := HB0
    go_wp2_with fail
    refine (AL.out _ HB1.out).mono ?_
    rintro e w2 ⟨rfl, hb⟩
    have HB2 := Lib.hid (below_then HB1.out hb)
    clear hb
    go_wp2_with fail
    go_ret
    exact ⟨rfl, HB2.out⟩
end Go.Proofs.YtgmfelikmjclbaaDoor.Nodes

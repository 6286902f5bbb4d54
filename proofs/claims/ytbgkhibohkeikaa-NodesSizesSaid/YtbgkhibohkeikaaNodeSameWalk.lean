/-
  Walk of the statement NodesSame: being the same is so in both directions, and does not look at places.
-/
import Derived.Test.YtbgkhibohkeikaaNodeCopy
import Derived.Outline
namespace Go.Proofs.Ytbgkhibohkeikaa.Nodes
open Go.ChangeShapes Go.WideShapes Go.ChangeAt Go.RowKit

theorem same_ok {a b : List Nd} (ha : checkV a = 0) (hb : checkV b = 0) : sameV a b = (alikeB a b, 0) := by
  unfold sameV; rw [if_pos ha, if_pos hb]
theorem open_reads {w : World} {ad : Option Addr} {n cap : Nat} {l : List Nd} (h : ReadsN w (.slice ad n cap) l) (hp : 0 < l.length) : ∃ b o, ad = some ⟨b, o, none⟩ ∧ b < w.heap.size ∧ NdsAt w b o l := by
  rcases h with ⟨rfl, _⟩ | ⟨b, o, cap', hv, hb, hnd⟩
  · simp at hp
  · injection hv with h1 _ _
    exact ⟨b, o, h1, hb, hnd⟩
set_option maxRecDepth 100000 in
set_option maxHeartbeats 1000000 in
theorem same_walk (va vb : Value) (a b : List Nd) (at_ : Int) (w : World) (hA : ReadsN w va a) (hB : ReadsN w vb b) (hna : a.length ≤ 9223372036854775807) (hnb : b.length ≤ 9223372036854775807) (hat : at_ ≤ 9223372036854775807) :
    Calls Try.prog 7 #[va, vb, .int .i64 at_] w fun e w' => e = .returned (.bool true) ∧ Below w.heap.size w w' := by
  have GA := Lib.hid (great_any va a w hA)
  have GB := Lib.hid (great_any vb b w hB)
  obtain ⟨ada, capa, rfl⟩ := hA.shape
  obtain ⟨adb, capb, rfl⟩ := hB.shape
  have RA := Lib.hid hA
  have RB := Lib.hid hB
  clear hA hB
  cases hga : decide (70 < a.length)
  · have ha70 : a.length ≤ 70 := by rw [decide_eq_false_iff_not] at hga; omega
    rw [hga] at GA
    clear hga
    cases hgb : decide (70 < b.length)
    · have hb70 : b.length ≤ 70 := by rw [decide_eq_false_iff_not] at hgb; omega
      rw [hgb] at GB
      clear hgb
      have CA := Lib.hid (fun (W : World) h => refCheck_any (.slice ada a.length capa) a W h (by omega))
      have CB := Lib.hid (fun (W : World) h => refCheck_any (.slice adb b.length capb) b W h (by omega))
      by_cases hca : checkV a = 0
      · have q1 : (checkV a != 0) = false := by rw [hca]; rfl
        have HCA := Lib.hid hca
        clear hca
        by_cases hcb : checkV b = 0
        · have q2 : (checkV b != 0) = false := by rw [hcb]; rfl
          have HCB := Lib.hid hcb
          clear hcb
          by_cases h0 : at_ < 0
          · go_enter Try.func7, Try.ntmps7
            go_wp2_with fail
            refine GA.out.mono ?_
            rintro e w1 ⟨rfl, rfl⟩
            go_wp2_with fail
            refine GB.out.mono ?_
            rintro e w1 ⟨rfl, rfl⟩
            go_wp2_with fail
            refine (CA.out _ RA.out).mono ?_
            rintro e w1 ⟨rfl, hb⟩
            have HB1 := Lib.hid hb
            have RB1 := Lib.hid (RB.out.below hb)
            have RA1 := Lib.hid (RA.out.below hb)
            clear hb
            go_wp2_with fail
            refine (CB.out _ RB1.out).mono ?_
            rintro e w2 ⟨rfl, hb⟩
            have HB2 := Lib.hid (below_then HB1.out hb)
            have RB2 := Lib.hid (RB1.out.below hb)
            have RA2 := Lib.hid (RA1.out.below hb)
            clear hb
            go_wp2_with fail
            refine (alive_any _).mono ?_
            rintro e w9 ⟨rfl, hb⟩
            have HB9 := Lib.hid (below_then HB2.out hb)
            clear hb
            go_wp2_with fail
            go_ret
            exact ⟨rfl, HB9.out⟩
          · by_cases h4 : (400 : Int) < at_
            · go_enter Try.func7, Try.ntmps7
              go_wp2_with fail
              refine GA.out.mono ?_
              rintro e w1 ⟨rfl, rfl⟩
              go_wp2_with fail
              refine GB.out.mono ?_
              rintro e w1 ⟨rfl, rfl⟩
              go_wp2_with fail
              refine (CA.out _ RA.out).mono ?_
              rintro e w1 ⟨rfl, hb⟩
              have HB1 := Lib.hid hb
              have RB1 := Lib.hid (RB.out.below hb)
              have RA1 := Lib.hid (RA.out.below hb)
              clear hb
              go_wp2_with fail
              refine (CB.out _ RB1.out).mono ?_
              rintro e w2 ⟨rfl, hb⟩
              have HB2 := Lib.hid (below_then HB1.out hb)
              have RB2 := Lib.hid (RB1.out.below hb)
              have RA2 := Lib.hid (RA1.out.below hb)
              clear hb
              go_wp2_with fail
              refine (alive_any _).mono ?_
              rintro e w9 ⟨rfl, hb⟩
              have HB9 := Lib.hid (below_then HB2.out hb)
              clear hb
              go_wp2_with fail
              go_ret
              exact ⟨rfl, HB9.out⟩
            · go_enter Try.func7, Try.ntmps7
              go_wp2_with fail
              refine GA.out.mono ?_
              rintro e w1 ⟨rfl, rfl⟩
              go_wp2_with fail
              refine GB.out.mono ?_
              rintro e w1 ⟨rfl, rfl⟩
              go_wp2_with fail
              refine (CA.out _ RA.out).mono ?_
              rintro e w1 ⟨rfl, hb⟩
              have HB1 := Lib.hid hb
              have RB1 := Lib.hid (RB.out.below hb)
              have RA1 := Lib.hid (RA.out.below hb)
              clear hb
              go_wp2_with fail
              refine (CB.out _ RB1.out).mono ?_
              rintro e w2 ⟨rfl, hb⟩
              have HB2 := Lib.hid (below_then HB1.out hb)
              have RB2 := Lib.hid (RB1.out.below hb)
              have RA2 := Lib.hid (RA1.out.below hb)
              clear hb
              have h400 : 0 ≤ at_ ∧ at_ ≤ 400 := by omega
              have hposa := (check_acc HCA.out).2.1
              have ha60 := (check_acc HCA.out).2.2.1
              have hb60 := (check_acc HCB.out).2.2.1
              obtain ⟨i0, hi, hz0, hz1, hz2⟩ := info_parts info_nd
              have HI := Lib.hid (And.intro hi (And.intro hz0 (And.intro hz1 hz2)))
              clear hi hz0 hz1 hz2
              go_wp2_with fail
              refine (nodesSame_any _ _ _ _ _ RA2.out RB2.out (by omega) (by omega)).mono ?_
              rintro e w3 ⟨rfl, hb⟩
              rw [same_ok HCA.out HCB.out]
              have HB3 := Lib.hid (below_then HB2.out hb)
              have RA3 := Lib.hid (RA2.out.below hb)
              have RB3 := Lib.hid (RB2.out.below hb)
              clear hb
              go_wp2_with fail
              refine (nodesSame_any _ _ _ _ _ RB3.out RA3.out (by omega) (by omega)).mono ?_
              rintro e w4 ⟨rfl, hb⟩
              rw [same_ok HCB.out HCA.out, alike_symm]
              have HB4 := Lib.hid (below_then HB3.out hb)
              have RA4 := Lib.hid (RA3.out.below hb)
              have RB4 := Lib.hid (RB3.out.below hb)
              clear hb
              obtain ⟨ba, oa, hada, hba, hnds⟩ := open_reads RA4.out hposa
              subst hada
              have HND := Lib.hid (nds_cells (fun i x hx => (hnds i x hx).below hba ((Below.refl _ w4).alloc (Nat.le_refl _) (Obj.cells #[] 23))))
              clear hba hnds
              go_wp2_with (at_builtin; refine wpList_append_own _ rfl _ _ 24 rfl w4.heap.size 23 i0 (.agg #[.int .u8 0, .int .i64 0, .int .i64 0, .int .i64 0, .int .i64 0]) 5 40 Try.underlying24 HI.out.1 HI.out.2.1 HI.out.2.2.1 HI.out.2.2.2 rfl (by decide) _ _ _ rfl (World.ownsRow_made w4 #[] 0 (Nat.le_refl _) (Nat.zero_le _) rfl) ⟨ba, oa, none⟩ a.length capa (rowN a) rfl (rowN_len a) HND.out (rowN_one a) ?c3 ?c4 ?c5 ?_)
              case c3 => unfold maxLen; omega
              case c4 => omega
              case c5 => simp
              intro v1 w5 hown hgrow _
              have hb5 : Below w4.heap.size w4 w5 := ((Below.refl _ w4).alloc (Nat.le_refl _) _).grown hgrow (by simp) (fun k hk => by simp [Value.ownBlock] at hk; omega)
              have HO5 : Hid (w5.ownsRow w4.heap.size 23 5 v1 a.length (rowN a)) := Lib.hid (by simpa using hown)
              have HB5 := Lib.hid hb5
              obtain ⟨g1, cap1, hv1⟩ : ∃ g cap, v1 = .slice (some ⟨g, 0, none⟩) a.length cap := by
                rcases HO5.out.2 with ⟨_, h0⟩ | ⟨g, cap, _, hv, _⟩
                · omega
                · exact ⟨g, cap, hv⟩
              subst hv1
              clear hown hgrow hb5
              go_wp2_with fail
              go_loopg [12] a.length (fun g s12 wx => ∃ k : Nat, k + g = a.length ∧ s12 = .int .i64 k ∧ Hid (wx.ownsRow w4.heap.size 23 5 (.slice (some ⟨g1, 0, none⟩) a.length cap1) a.length (rowN (movedK at_ a k))) ∧ Hid (Below w4.heap.size w4 wx))
              case atStart => exact ⟨0, by omega, rfl, HO5, HB5⟩
              case round =>
                obtain ⟨k, hk, rfl, HO, HB⟩ := hrel
                cases gk with
                | succ g =>
                  have hlt : k < a.length := by omega
                  have hfz := HO.out.frozenAt (k * 5 + 4)
                  have hcl := HO.out.cellAt (k * 5 + 4) (by omega)
                  rw [(rowN_at _ k _ (List.getElem?_eq_getElem (by rw [movedK_len]; exact hlt))).2.2.2.2] at hcl
                  have hst := HO.out.stored (k * 5 + 4) (.int .i64 at_)
                  rw [rowN_set (movedK at_ a k) k (by rw [movedK_len]; exact hlt) 4 (by decide) (.int .i64 at_) ⟨a[k].kind, a[k].n, a[k].a, a[k].b, at_⟩ (by rw [movedK_get at_ a hlt]; rfl), movedK_next at_ a hlt] at hst
                  have HS := Lib.hid hst
                  have hg1 := (HO.out.lt g1 rfl).1
                  have HB2 := Lib.hid (HB.out.setCell (p := ⟨g1, k * 5 + 4, none⟩) hg1 (.int .i64 at_))
                  clear hst
                  go_wp2_with fail
                  go_roundg g
                  case measure => omega
                  case rel => exact ⟨k + 1, by omega, by go_num, Lib.hid HS.out.1, HB2⟩
                | zero =>
                  obtain rfl : k = a.length := by omega
                  rw [movedK_all] at HO
                  have hml : (moveL at_ a).length = a.length := by unfold moveL; rw [List.length_map]
                  have HM : Hid (ReadsN wr (.slice (some ⟨g1, 0, none⟩) a.length cap1) (moveL at_ a)) := Lib.hid (own_readsN (l := moveL at_ a) (by rw [hml]; exact HO.out))
                  have RA5 := Lib.hid (RA4.out.below HB.out)
                  have RB5 := Lib.hid (RB4.out.below HB.out)
                  have HB6 := Lib.hid (below_then HB4.out HB.out)
                  clear hk
                  go_wp2_with fail
                  refine (nodesSame_any _ _ _ _ _ RA5.out HM.out (by omega) (by omega)).mono ?_
                  rintro e w6 ⟨rfl, hb⟩
                  rw [same_ok HCA.out (move_ok h400.1 h400.2 HCA.out), move_alike]
                  have HB7 := Lib.hid (below_then HB6.out hb)
                  have RA6 := Lib.hid (RA5.out.below hb)
                  have RB6 := Lib.hid (RB5.out.below hb)
                  clear hb
                  go_wp2_with fail
                  refine (nodesDepth_any _ _ _ RA6.out (by omega)).mono ?_
                  rintro e w7 ⟨rfl, hb⟩
                  obtain ⟨da, hda, _⟩ := depth_is HCA.out
                  rw [hda]
                  have HB8 := Lib.hid (below_then HB7.out hb)
                  have RA7 := Lib.hid (RA6.out.below hb)
                  have RB7 := Lib.hid (RB6.out.below hb)
                  clear hb
                  go_wp2_with fail
                  refine (nodesDepth_any _ _ _ RB7.out (by omega)).mono ?_
                  rintro e w8 ⟨rfl, hb⟩
                  obtain ⟨db, hdb, _⟩ := depth_is HCB.out
                  rw [hdb]
                  have HB9 := Lib.hid (below_then HB8.out hb)
                  have RA8 := Lib.hid (RA7.out.below hb)
                  have RB8 := Lib.hid (RB7.out.below hb)
                  clear hb
                  cases hq : alikeB a b
                  · have hne : equalB a b = false := by
                      cases he : equalB a b
                      · rfl
                      · rw [equal_alike he] at hq; cases hq
                    go_wp2_with fail
                    refine (refEqual_any _ _ _ _ _ RA8.out RB8.out (by omega)).mono ?_
                    rintro e w9 ⟨rfl, hdr⟩
                    rw [hne]
                    have HB10 := Lib.hid (HB9.out.trans (hdr.below _))
                    clear hdr
                    go_wp2_with fail
                    refine (alive_any _).mono ?_
                    rintro e w10 ⟨rfl, hb⟩
                    have HB11 := Lib.hid (below_then HB10.out hb)
                    clear hb
                    go_wp2_with fail
                    go_ret
                    exact ⟨rfl, HB11.out⟩
                  · obtain ⟨s1, s2⟩ := alike_same HCA.out HCB.out hq
                    have e1 : (da : Int) = db := by
                      rw [hda, hdb] at s1
                      exact congrArg Prod.fst s1
                    have e2 : (a.length : Int) = b.length := by omega
                    have q3 : ((da : Int) == db) = true := by rw [e1]; exact beq_self_eq_true _
                    have q4 : ((a.length : Int) == b.length) = true := by rw [e2]; exact beq_self_eq_true _
                    clear s1 s2 e1 e2 hda hdb
                    go_wp2_with fail
                    refine (alive_any _).mono ?_
                    rintro e w10 ⟨rfl, hb⟩
                    have HB11 := Lib.hid (below_then HB9.out hb)
                    clear hb
                    go_wp2_with fail
                    go_ret
                    exact ⟨rfl, HB11.out⟩
        · have q2 : (checkV b != 0) = true := by rw [bne_iff_ne]; exact hcb
          clear hcb
          go_enter Try.func7, Try.ntmps7
          go_wp2_with fail
          refine GA.out.mono ?_
          rintro e w1 ⟨rfl, rfl⟩
          go_wp2_with fail
          refine GB.out.mono ?_
          rintro e w1 ⟨rfl, rfl⟩
          go_wp2_with fail
          refine (CA.out _ RA.out).mono ?_
          rintro e w1 ⟨rfl, hb⟩
          have HB1 := Lib.hid hb
          have RB1 := Lib.hid (RB.out.below hb)
          have RA1 := Lib.hid (RA.out.below hb)
          clear hb
          go_wp2_with fail
          refine (CB.out _ RB1.out).mono ?_
          rintro e w2 ⟨rfl, hb⟩
          have HB2 := Lib.hid (below_then HB1.out hb)
          have RB2 := Lib.hid (RB1.out.below hb)
          have RA2 := Lib.hid (RA1.out.below hb)
          clear hb
          go_wp2_with fail
          refine (alive_any _).mono ?_
          rintro e w9 ⟨rfl, hb⟩
          have HB9 := Lib.hid (below_then HB2.out hb)
          clear hb
          go_wp2_with fail
          go_ret
          exact ⟨rfl, HB9.out⟩
      · have q1 : (checkV a != 0) = true := by rw [bne_iff_ne]; exact hca
        clear hca
        go_enter Try.func7, Try.ntmps7
        go_wp2_with fail
        refine GA.out.mono ?_
        rintro e w1 ⟨rfl, rfl⟩
        go_wp2_with fail
        refine GB.out.mono ?_
        rintro e w1 ⟨rfl, rfl⟩
        go_wp2_with fail
        refine (CA.out _ RA.out).mono ?_
        rintro e w1 ⟨rfl, hb⟩
        have HB1 := Lib.hid hb
        have RB1 := Lib.hid (RB.out.below hb)
        have RA1 := Lib.hid (RA.out.below hb)
        clear hb
        go_wp2_with fail
        refine (alive_any _).mono ?_
        rintro e w9 ⟨rfl, hb⟩
        have HB9 := Lib.hid (below_then HB1.out hb)
        clear hb
        go_wp2_with fail
        go_ret
        exact ⟨rfl, HB9.out⟩
    · rw [hgb] at GB
      clear hgb
      go_enter Try.func7, Try.ntmps7
      go_wp2_with fail
      refine GA.out.mono ?_
      rintro e w1 ⟨rfl, rfl⟩
      go_wp2_with fail
      refine GB.out.mono ?_
      rintro e w1 ⟨rfl, rfl⟩
      go_wp2_with fail
      refine (alive_any _).mono ?_
      rintro e w9 ⟨rfl, hb⟩
      have HB9 := Lib.hid hb
      clear hb
      go_wp2_with fail
      go_ret
      exact ⟨rfl, HB9.out⟩
  · rw [hga] at GA
    clear hga
    go_enter Try.func7, Try.ntmps7
    go_wp2_with fail
    refine GA.out.mono ?_
    rintro e w1 ⟨rfl, rfl⟩
    go_wp2_with fail
    refine (alive_any _).mono ?_
    rintro e w9 ⟨rfl, hb⟩
    have HB9 := Lib.hid hb
    clear hb
    go_wp2_with fail
    go_ret
    exact ⟨rfl, HB9.out⟩
end Go.Proofs.Ytbgkhibohkeikaa.Nodes

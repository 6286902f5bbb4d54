/-
  Walk of the statement NodesTells: package nodes returns what the reference does.
-/
import Derived.Test.YtbgkhibohkeikaaNodeOtherWalk
import Derived.Outline
namespace Go.Proofs.Ytbgkhibohkeikaa.Nodes
open Go.ChangeShapes Go.WideShapes Go.ChangeAt Go.RowKit

theorem part_small (l : List Nd) (at_ : Int) (h : l.length ≤ 70) : (partV l at_).1.length ≤ 1000000 := by
  unfold partV
  split
  · split
    · unfold cutL
      rw [List.length_map, List.length_take, List.length_drop]; omega
    · exact Nat.zero_le _
  · exact Nat.zero_le _
set_option maxRecDepth 100000 in
set_option maxHeartbeats 2000000 in
theorem tells_walk (v : Value) (l : List Nd) (at_ kind : Int) (w : World) (hR : ReadsN w v l) (hn : l.length ≤ 9223372036854775807) (hk0 : 0 ≤ kind) (hk1 : kind ≤ 255) :
    Calls Try.prog 4 #[v, .int .i64 at_, .int .u8 kind] w fun e w' => e = .returned (.bool true) ∧ Below w.heap.size w w' := by
  have G := Lib.hid (great_any v l w hR)
  obtain ⟨ad, cap, rfl⟩ := hR.shape
  have HR := Lib.hid hR
  clear hR
  cases hg : decide (70 < l.length)
  · have h70 : l.length ≤ 70 := by rw [decide_eq_false_iff_not] at hg; omega
    rw [hg] at G
    clear hg
    have HPL : Hid ((partV l at_).1.length ≤ 1000000) := Lib.hid (part_small l at_ (by omega))
    obtain ⟨i0, hi, hz0, hz1, hz2⟩ := info_parts info_nd
    have HI := Lib.hid (And.intro hi (And.intro hz0 (And.intro hz1 hz2)))
    clear hi hz0 hz1 hz2
    by_cases hpos : 0 < l.length
    · obtain ⟨ba, oa, hada, hba, hnds⟩ := open_reads HR.out hpos
      subst hada
      have HND := Lib.hid (nds_cells (fun i x hx => (hnds i x hx).below hba ((Below.refl _ w).alloc (Nat.le_refl _) (Obj.cells #[] 23))))
      clear hba hnds
      go_enter Try.func4, Try.ntmps4
      go_wp2_with fail
      refine G.out.mono ?_
      rintro e w1 ⟨rfl, rfl⟩
      go_wp2_with (at_builtin; refine wpList_append_own _ rfl _ _ 24 rfl w.heap.size 23 i0 (.agg #[.int .u8 0, .int .i64 0, .int .i64 0, .int .i64 0, .int .i64 0]) 5 40 Try.underlying24 HI.out.1 HI.out.2.1 HI.out.2.2.1 HI.out.2.2.2 rfl (by decide) _ _ _ rfl (World.ownsRow_made w #[] 0 (Nat.le_refl _) (Nat.zero_le _) rfl) ⟨ba, oa, none⟩ l.length cap (rowN l) rfl (rowN_len l) HND.out (rowN_one l) ?c3 ?c4 ?c5 ?_)
      case c3 => unfold maxLen; omega
      case c4 => omega
      case c5 => simp
      intro v1 w5 hown hgrow _
      have hb5 : Below w.heap.size w w5 := ((Below.refl _ w).alloc (Nat.le_refl _) _).grown hgrow (by simp) (fun k hk => by simp [Value.ownBlock] at hk; omega)
      have HO0 : Hid (w5.ownsRow w.heap.size 23 5 v1 l.length (rowN l)) := Lib.hid (by simpa using hown)
      obtain ⟨ad1, cap1, hv1⟩ := own_shape HO0.out
      subst hv1
      have HO5 : Hid (ReadsN w5 (.slice ad1 l.length cap1) l) := Lib.hid (own_readsN HO0.out)
      have HB5 := Lib.hid hb5
      have HL5 := Lib.hid (HR.out.below hb5)
      clear hown hgrow hb5
      go_wp2_with fail
      refine (nodesDepth_any _ _ _ HO5.out (by omega)).mono ?_
      rintro e w6 ⟨rfl, hb⟩
      have HB6 := Lib.hid (below_then HB5.out hb)
      have HL6 := Lib.hid (HL5.out.below hb)
      have HO6 := Lib.hid (HO5.out.below hb)
      clear hb
      go_wp2_with fail
      refine (refDepth_any _ _ _ HL6.out (by omega)).mono ?_
      rintro e w7 ⟨rfl, hb⟩
      have HB7 := Lib.hid (below_then HB6.out hb)
      have HL7 := Lib.hid (HL6.out.below hb)
      have HO7 := Lib.hid (HO6.out.below hb)
      clear hb
      go_wp2_with fail
      refine (nodesSize_any _ _ _ _ HO7.out (by omega)).mono ?_
      rintro e w8 ⟨rfl, hb⟩
      have HB8 := Lib.hid (below_then HB7.out hb)
      have HL8 := Lib.hid (HL7.out.below hb)
      have HO8 := Lib.hid (HO7.out.below hb)
      clear hb
      go_wp2_with fail
      refine (refSize_any _ _ _ _ HL8.out (by omega)).mono ?_
      rintro e w9 ⟨rfl, hb⟩
      have HB9 := Lib.hid (below_then HB8.out hb)
      have HL9 := Lib.hid (HL8.out.below hb)
      have HO9 := Lib.hid (HO8.out.below hb)
      clear hb
      go_wp2_with fail
      refine (nodesPart_any _ _ _ _ HO9.out (by omega)).mono ?_
      rintro e w10 ⟨vx, rfl, ho, hb⟩
      have HB10 := Lib.hid (below_then HB9.out hb)
      have HL10 := Lib.hid (HL9.out.below hb)
      have HO10 := Lib.hid (HO9.out.below hb)
      have HX10 := Lib.hid (own_readsN ho)
      clear hb ho
      go_wp2_with fail
      refine (refPart_any _ _ _ _ HL10.out (by omega)).mono ?_
      rintro e w11 ⟨vy, rfl, ho, hb⟩
      have HB11 := Lib.hid (below_then HB10.out hb)
      have HL11 := Lib.hid (HL10.out.below hb)
      have HO11 := Lib.hid (HO10.out.below hb)
      have HX11 := Lib.hid (HX10.out.below hb)
      have HY11 := Lib.hid (own_readsN ho)
      clear hb ho
      go_wp2_with fail
      refine (nodesParts_any kind hk0 hk1 _).mono ?_
      rintro e w12 ⟨rfl, hb⟩
      have HB12 := Lib.hid (below_then HB11.out hb)
      have HL12 := Lib.hid (HL11.out.below hb)
      have HO12 := Lib.hid (HO11.out.below hb)
      have HX12 := Lib.hid (HX11.out.below hb)
      have HY12 := Lib.hid (HY11.out.below hb)
      clear hb
      go_wp2_with fail
      refine (refParts_any kind _).mono ?_
      rintro e w13 ⟨rfl, hb⟩
      have HB13 := Lib.hid (below_then HB12.out hb)
      have HL13 := Lib.hid (HL12.out.below hb)
      have HO13 := Lib.hid (HO12.out.below hb)
      have HX13 := Lib.hid (HX12.out.below hb)
      have HY13 := Lib.hid (HY12.out.below hb)
      clear hb
      go_wp2_with fail
      refine (nodesCheck_any _ _ _ HO13.out (by omega)).mono ?_
      rintro e w14 ⟨rfl, hb⟩
      have HB14 := Lib.hid (below_then HB13.out hb)
      have HL14 := Lib.hid (HL13.out.below hb)
      have HO14 := Lib.hid (HO13.out.below hb)
      have HX14 := Lib.hid (HX13.out.below hb)
      have HY14 := Lib.hid (HY13.out.below hb)
      clear hb
      go_wp2_with fail
      refine (refCheck_any _ _ _ HL14.out (by omega)).mono ?_
      rintro e w15 ⟨rfl, hb⟩
      have HB15 := Lib.hid (below_then HB14.out hb)
      have HL15 := Lib.hid (HL14.out.below hb)
      have HO15 := Lib.hid (HO14.out.below hb)
      have HX15 := Lib.hid (HX14.out.below hb)
      have HY15 := Lib.hid (HY14.out.below hb)
      clear hb
      go_wp2_with fail
      refine (refEqual_any _ _ _ _ _ HX15.out HY15.out HPL.out).mono ?_
      rintro e w16 ⟨rfl, hd⟩
      rw [equal_refl]
      have HB16 := Lib.hid (HB15.out.trans (hd.below _))
      have HL16 := Lib.hid (HL15.out.below (hd.below _))
      have HO16 := Lib.hid (HO15.out.below (hd.below _))
      clear hd
      go_wp2_with fail
      refine (refEqual_any _ _ _ _ _ HO16.out HL16.out (by omega)).mono ?_
      rintro e w17 ⟨rfl, hd⟩
      rw [equal_refl]
      have HB17 := Lib.hid (HB16.out.trans (hd.below _))
      clear hd
      go_wp2_with fail
      go_ret
      exact ⟨rfl, HB17.out⟩
    · obtain rfl : l = [] := List.length_eq_zero_iff.1 (by omega)
      cases ad with
      | some a0 =>
        go_enter Try.func4, Try.ntmps4
        go_wp2_with fail
        refine G.out.mono ?_
        rintro e w1 ⟨rfl, rfl⟩
        go_wp2_with (at_builtin; refine wpList_append_own _ rfl _ _ 24 rfl w.heap.size 23 i0 (.agg #[.int .u8 0, .int .i64 0, .int .i64 0, .int .i64 0, .int .i64 0]) 5 40 Try.underlying24 HI.out.1 HI.out.2.1 HI.out.2.2.1 HI.out.2.2.2 rfl (by decide) _ _ _ rfl (World.ownsRow_made w #[] 0 (Nat.le_refl _) (Nat.zero_le _) rfl) a0 0 cap [] rfl rfl (fun j u hu => by simp at hu) (fun u hu => by cases hu) ?c3 ?c4 ?c5 ?_)
        case c3 => unfold maxLen; omega
        case c4 => omega
        case c5 => simp
        intro v1 w5 hown hgrow _
        have hb5 : Below w.heap.size w w5 := ((Below.refl _ w).alloc (Nat.le_refl _) _).grown hgrow (by simp) (fun k hk => by simp [Value.ownBlock] at hk; omega)
        have HO0 : Hid (w5.ownsRow w.heap.size 23 5 v1 0 []) := Lib.hid (by simpa using hown)
        obtain ⟨ad1, cap1, hv1⟩ := own_shape HO0.out
        subst hv1
        have HO5 : Hid (ReadsN w5 (.slice ad1 0 cap1) []) := Lib.hid (own_readsN (l := []) HO0.out)
        have HB5 := Lib.hid hb5
        have HL5 := Lib.hid (HR.out.below hb5)
        clear hown hgrow hb5
        go_wp2_with fail
        refine (nodesDepth_any _ _ _ HO5.out (by omega)).mono ?_
        rintro e w6 ⟨rfl, hb⟩
        have HB6 := Lib.hid (below_then HB5.out hb)
        have HL6 := Lib.hid (HL5.out.below hb)
        have HO6 := Lib.hid (HO5.out.below hb)
        clear hb
        go_wp2_with fail
        refine (refDepth_any _ _ _ HL6.out (by omega)).mono ?_
        rintro e w7 ⟨rfl, hb⟩
        have HB7 := Lib.hid (below_then HB6.out hb)
        have HL7 := Lib.hid (HL6.out.below hb)
        have HO7 := Lib.hid (HO6.out.below hb)
        clear hb
        go_wp2_with fail
        refine (nodesSize_any _ _ _ _ HO7.out (by omega)).mono ?_
        rintro e w8 ⟨rfl, hb⟩
        have HB8 := Lib.hid (below_then HB7.out hb)
        have HL8 := Lib.hid (HL7.out.below hb)
        have HO8 := Lib.hid (HO7.out.below hb)
        clear hb
        go_wp2_with fail
        refine (refSize_any _ _ _ _ HL8.out (by omega)).mono ?_
        rintro e w9 ⟨rfl, hb⟩
        have HB9 := Lib.hid (below_then HB8.out hb)
        have HL9 := Lib.hid (HL8.out.below hb)
        have HO9 := Lib.hid (HO8.out.below hb)
        clear hb
        go_wp2_with fail
        refine (nodesPart_any _ _ _ _ HO9.out (by omega)).mono ?_
        rintro e w10 ⟨vx, rfl, ho, hb⟩
        have HB10 := Lib.hid (below_then HB9.out hb)
        have HL10 := Lib.hid (HL9.out.below hb)
        have HO10 := Lib.hid (HO9.out.below hb)
        have HX10 := Lib.hid (own_readsN ho)
        clear hb ho
        go_wp2_with fail
        refine (refPart_any _ _ _ _ HL10.out (by omega)).mono ?_
        rintro e w11 ⟨vy, rfl, ho, hb⟩
        have HB11 := Lib.hid (below_then HB10.out hb)
        have HL11 := Lib.hid (HL10.out.below hb)
        have HO11 := Lib.hid (HO10.out.below hb)
        have HX11 := Lib.hid (HX10.out.below hb)
        have HY11 := Lib.hid (own_readsN ho)
        clear hb ho
        go_wp2_with fail
        refine (nodesParts_any kind hk0 hk1 _).mono ?_
        rintro e w12 ⟨rfl, hb⟩
        have HB12 := Lib.hid (below_then HB11.out hb)
        have HL12 := Lib.hid (HL11.out.below hb)
        have HO12 := Lib.hid (HO11.out.below hb)
        have HX12 := Lib.hid (HX11.out.below hb)
        have HY12 := Lib.hid (HY11.out.below hb)
        clear hb
        go_wp2_with fail
        refine (refParts_any kind _).mono ?_
        rintro e w13 ⟨rfl, hb⟩
        have HB13 := Lib.hid (below_then HB12.out hb)
        have HL13 := Lib.hid (HL12.out.below hb)
        have HO13 := Lib.hid (HO12.out.below hb)
        have HX13 := Lib.hid (HX12.out.below hb)
        have HY13 := Lib.hid (HY12.out.below hb)
        clear hb
        go_wp2_with fail
        refine (nodesCheck_any _ _ _ HO13.out (by omega)).mono ?_
        rintro e w14 ⟨rfl, hb⟩
        have HB14 := Lib.hid (below_then HB13.out hb)
        have HL14 := Lib.hid (HL13.out.below hb)
        have HO14 := Lib.hid (HO13.out.below hb)
        have HX14 := Lib.hid (HX13.out.below hb)
        have HY14 := Lib.hid (HY13.out.below hb)
        clear hb
        go_wp2_with fail
        refine (refCheck_any _ _ _ HL14.out (by omega)).mono ?_
        rintro e w15 ⟨rfl, hb⟩
        have HB15 := Lib.hid (below_then HB14.out hb)
        have HL15 := Lib.hid (HL14.out.below hb)
        have HO15 := Lib.hid (HO14.out.below hb)
        have HX15 := Lib.hid (HX14.out.below hb)
        have HY15 := Lib.hid (HY14.out.below hb)
        clear hb
        go_wp2_with fail
        refine (refEqual_any _ _ _ _ _ HX15.out HY15.out HPL.out).mono ?_
        rintro e w16 ⟨rfl, hd⟩
        rw [equal_refl]
        have HB16 := Lib.hid (HB15.out.trans (hd.below _))
        have HL16 := Lib.hid (HL15.out.below (hd.below _))
        have HO16 := Lib.hid (HO15.out.below (hd.below _))
        clear hd
        go_wp2_with fail
        refine (refEqual_any _ _ _ _ _ HO16.out HL16.out (by omega)).mono ?_
        rintro e w17 ⟨rfl, hd⟩
        rw [equal_refl]
        have HB17 := Lib.hid (HB16.out.trans (hd.below _))
        clear hd
        go_wp2_with fail
        go_ret
        exact ⟨rfl, HB17.out⟩
      | none =>
        have HB5 : Hid (Below w.heap.size w (w.alloc (Obj.cells #[] 23))) := Lib.hid ((Below.refl _ w).alloc (Nat.le_refl _) _)
        have HO5 : Hid (ReadsN (w.alloc (Obj.cells #[] 23)) (.slice (some ⟨w.heap.size, 0, none⟩) 0 0) []) := Lib.hid (.inl ⟨rfl, _, _, rfl⟩)
        have HL5 : Hid (ReadsN (w.alloc (Obj.cells #[] 23)) (.slice none 0 cap) []) := Lib.hid (.inl ⟨rfl, _, _, rfl⟩)
        go_enter Try.func4, Try.ntmps4
        go_wp2_with fail
        refine G.out.mono ?_
        rintro e w1 ⟨rfl, rfl⟩
        go_wp2_with fail
        refine (nodesDepth_any _ _ _ HO5.out (by omega)).mono ?_
        rintro e w6 ⟨rfl, hb⟩
        have HB6 := Lib.hid (below_then HB5.out hb)
        have HL6 := Lib.hid (HL5.out.below hb)
        have HO6 := Lib.hid (HO5.out.below hb)
        clear hb
        go_wp2_with fail
        refine (refDepth_any _ _ _ HL6.out (by omega)).mono ?_
        rintro e w7 ⟨rfl, hb⟩
        have HB7 := Lib.hid (below_then HB6.out hb)
        have HL7 := Lib.hid (HL6.out.below hb)
        have HO7 := Lib.hid (HO6.out.below hb)
        clear hb
        go_wp2_with fail
        refine (nodesSize_any _ _ _ _ HO7.out (by omega)).mono ?_
        rintro e w8 ⟨rfl, hb⟩
        have HB8 := Lib.hid (below_then HB7.out hb)
        have HL8 := Lib.hid (HL7.out.below hb)
        have HO8 := Lib.hid (HO7.out.below hb)
        clear hb
        go_wp2_with fail
        refine (refSize_any _ _ _ _ HL8.out (by omega)).mono ?_
        rintro e w9 ⟨rfl, hb⟩
        have HB9 := Lib.hid (below_then HB8.out hb)
        have HL9 := Lib.hid (HL8.out.below hb)
        have HO9 := Lib.hid (HO8.out.below hb)
        clear hb
        go_wp2_with fail
        refine (nodesPart_any _ _ _ _ HO9.out (by omega)).mono ?_
        rintro e w10 ⟨vx, rfl, ho, hb⟩
        have HB10 := Lib.hid (below_then HB9.out hb)
        have HL10 := Lib.hid (HL9.out.below hb)
        have HO10 := Lib.hid (HO9.out.below hb)
        have HX10 := Lib.hid (own_readsN ho)
        clear hb ho
        go_wp2_with fail
        refine (refPart_any _ _ _ _ HL10.out (by omega)).mono ?_
        rintro e w11 ⟨vy, rfl, ho, hb⟩
        have HB11 := Lib.hid (below_then HB10.out hb)
        have HL11 := Lib.hid (HL10.out.below hb)
        have HO11 := Lib.hid (HO10.out.below hb)
        have HX11 := Lib.hid (HX10.out.below hb)
        have HY11 := Lib.hid (own_readsN ho)
        clear hb ho
        go_wp2_with fail
        refine (nodesParts_any kind hk0 hk1 _).mono ?_
        rintro e w12 ⟨rfl, hb⟩
        have HB12 := Lib.hid (below_then HB11.out hb)
        have HL12 := Lib.hid (HL11.out.below hb)
        have HO12 := Lib.hid (HO11.out.below hb)
        have HX12 := Lib.hid (HX11.out.below hb)
        have HY12 := Lib.hid (HY11.out.below hb)
        clear hb
        go_wp2_with fail
        refine (refParts_any kind _).mono ?_
        rintro e w13 ⟨rfl, hb⟩
        have HB13 := Lib.hid (below_then HB12.out hb)
        have HL13 := Lib.hid (HL12.out.below hb)
        have HO13 := Lib.hid (HO12.out.below hb)
        have HX13 := Lib.hid (HX12.out.below hb)
        have HY13 := Lib.hid (HY12.out.below hb)
        clear hb
        go_wp2_with fail
        refine (nodesCheck_any _ _ _ HO13.out (by omega)).mono ?_
        rintro e w14 ⟨rfl, hb⟩
        have HB14 := Lib.hid (below_then HB13.out hb)
        have HL14 := Lib.hid (HL13.out.below hb)
        have HO14 := Lib.hid (HO13.out.below hb)
        have HX14 := Lib.hid (HX13.out.below hb)
        have HY14 := Lib.hid (HY13.out.below hb)
        clear hb
        go_wp2_with fail
        refine (refCheck_any _ _ _ HL14.out (by omega)).mono ?_
        rintro e w15 ⟨rfl, hb⟩
        have HB15 := Lib.hid (below_then HB14.out hb)
        have HL15 := Lib.hid (HL14.out.below hb)
        have HO15 := Lib.hid (HO14.out.below hb)
        have HX15 := Lib.hid (HX14.out.below hb)
        have HY15 := Lib.hid (HY14.out.below hb)
        clear hb
        go_wp2_with fail
        refine (refEqual_any _ _ _ _ _ HX15.out HY15.out HPL.out).mono ?_
        rintro e w16 ⟨rfl, hd⟩
        rw [equal_refl]
        have HB16 := Lib.hid (HB15.out.trans (hd.below _))
        have HL16 := Lib.hid (HL15.out.below (hd.below _))
        have HO16 := Lib.hid (HO15.out.below (hd.below _))
        clear hd
        go_wp2_with fail
        refine (refEqual_any _ _ _ _ _ HO16.out HL16.out (by omega)).mono ?_
        rintro e w17 ⟨rfl, hd⟩
        rw [equal_refl]
        have HB17 := Lib.hid (HB16.out.trans (hd.below _))
        clear hd
        go_wp2_with fail
        go_ret
        exact ⟨rfl, HB17.out⟩
  · rw [hg] at G
    clear hg
    go_enter Try.func4, Try.ntmps4
    go_wp2_with fail
    refine G.out.mono ?_
    rintro e w1 ⟨rfl, rfl⟩
    go_wp2_with fail
    go_ret
    exact ⟨rfl, Below.refl _ _⟩
end Go.Proofs.Ytbgkhibohkeikaa.Nodes

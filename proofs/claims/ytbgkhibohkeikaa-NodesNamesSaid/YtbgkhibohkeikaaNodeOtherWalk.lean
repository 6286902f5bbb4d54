/-
  Walk of the statement NodesOther: a list of which one kind, index or unused number is another one is another expression, or none.
-/
import Derived.Test.YtbgkhibohkeikaaNodeSameWalk
import Derived.Outline
namespace Go.Proofs.Ytbgkhibohkeikaa.Nodes
open Go.ChangeShapes Go.WideShapes Go.ChangeAt Go.RowKit

theorem a_bad {x y : Nd} (h : y.a ≠ x.a) : ∀ a b, rightB x a b = true → rightB y a b = false := fun a b e => by
  rw [right_iff] at e
  cases hy : rightB y a b
  · rfl
  · rw [right_iff] at hy
    exact absurd (hy.2.2.2.2.2.2.1.trans e.2.2.2.2.2.2.1.symm) h
theorem b_bad {x y : Nd} (h : y.b ≠ x.b) : ∀ a b, rightB x a b = true → rightB y a b = false := fun a b e => by
  rw [right_iff] at e
  cases hy : rightB y a b
  · rfl
  · rw [right_iff] at hy
    exact absurd (hy.2.2.2.2.2.2.2.trans e.2.2.2.2.2.2.2.symm) h
theorem n_bad {x y : Nd} (h : y.n ≠ 0) (hk : y.kind ≠ 1) : ∀ a b, rightB x a b = true → rightB y a b = false := fun a b _ => by
  cases hy : rightB y a b
  · rfl
  · rw [right_iff] at hy
    rcases hy.2.2.2.1 with h1 | h1
    · exact absurd h1 h
    · exact absurd h1 hk
theorem wrap_ne (x b : Int) (h0 : ¬ b = 0) (h1 : ¬ b < -100) (h2 : ¬ 100 < b) : wrap64 (x + b) ≠ x := by
  unfold wrap64; omega
theorem wrap_nz (x b : Int) (h0 : ¬ b = 0) (h1 : ¬ b < -100) (h2 : ¬ 100 < b) (hx : x = 0) : wrap64 (x + b) ≠ 0 := by
  subst hx; unfold wrap64; omega
set_option maxRecDepth 100000 in
set_option maxHeartbeats 2000000 in
theorem other_walk (v : Value) (l : List Nd) (at_ which by_ : Int) (w : World) (hR : ReadsN w v l) (hn : l.length ≤ 9223372036854775807) (hat : at_ ≤ 9223372036854775807) :
    Calls Try.prog 8 #[v, .int .i64 at_, .int .i64 which, .int .i64 by_] w fun e w' => e = .returned (.bool true) ∧ Below w.heap.size w w' := by
  have G := Lib.hid (great_any v l w hR)
  obtain ⟨ad, cap, rfl⟩ := hR.shape
  have HR := Lib.hid hR
  clear hR
  cases hg : decide (70 < l.length)
  · have h70 : l.length ≤ 70 := by rw [decide_eq_false_iff_not] at hg; omega
    have C := Lib.hid (fun (W : World) h => refCheck_any (.slice ad l.length cap) l W h (by omega))
    rw [hg] at G
    clear hg
    by_cases hc : checkV l = 0
    · have q1 : (checkV l != 0) = false := by rw [hc]; rfl
      have HC := Lib.hid hc
      clear hc
      by_cases h0 : at_ < 0
      · go_enter Try.func8, Try.ntmps8
        go_wp2_with fail
        refine G.out.mono ?_
        rintro e w1 ⟨rfl, rfl⟩
        go_wp2_with fail
        refine (C.out _ HR.out).mono ?_
        rintro e w1 ⟨rfl, hb⟩
        have HB1 := Lib.hid hb
        have HR1 := Lib.hid (HR.out.below hb)
        clear hb
        go_wp2_with fail
        refine (alive_any _).mono ?_
        rintro e w9 ⟨rfl, hb⟩
        have HB9 := Lib.hid (below_then HB1.out hb)
        clear hb
        go_wp2_with fail
        go_ret
        exact ⟨rfl, HB9.out⟩
      · by_cases h1 : (l.length : Int) ≤ at_
        · go_enter Try.func8, Try.ntmps8
          go_wp2_with fail
          refine G.out.mono ?_
          rintro e w1 ⟨rfl, rfl⟩
          go_wp2_with fail
          refine (C.out _ HR.out).mono ?_
          rintro e w1 ⟨rfl, hb⟩
          have HB1 := Lib.hid hb
          have HR1 := Lib.hid (HR.out.below hb)
          clear hb
          go_wp2_with fail
          refine (alive_any _).mono ?_
          rintro e w9 ⟨rfl, hb⟩
          have HB9 := Lib.hid (below_then HB1.out hb)
          clear hb
          go_wp2_with fail
          go_ret
          exact ⟨rfl, HB9.out⟩
        · by_cases h4 : by_ = 0
          · subst h4
            go_enter Try.func8, Try.ntmps8
            go_wp2_with fail
            refine G.out.mono ?_
            rintro e w1 ⟨rfl, rfl⟩
            go_wp2_with fail
            refine (C.out _ HR.out).mono ?_
            rintro e w1 ⟨rfl, hb⟩
            have HB1 := Lib.hid hb
            have HR1 := Lib.hid (HR.out.below hb)
            clear hb
            go_wp2_with fail
            refine (alive_any _).mono ?_
            rintro e w9 ⟨rfl, hb⟩
            have HB9 := Lib.hid (below_then HB1.out hb)
            clear hb
            go_wp2_with fail
            go_ret
            exact ⟨rfl, HB9.out⟩
          · have q4 : (by_ == 0) = false := beq_eq_false_iff_ne.2 h4
            by_cases h5 : by_ < -100
            · go_enter Try.func8, Try.ntmps8
              go_wp2_with fail
              refine G.out.mono ?_
              rintro e w1 ⟨rfl, rfl⟩
              go_wp2_with fail
              refine (C.out _ HR.out).mono ?_
              rintro e w1 ⟨rfl, hb⟩
              have HB1 := Lib.hid hb
              have HR1 := Lib.hid (HR.out.below hb)
              clear hb
              go_wp2_with fail
              refine (alive_any _).mono ?_
              rintro e w9 ⟨rfl, hb⟩
              have HB9 := Lib.hid (below_then HB1.out hb)
              clear hb
              go_wp2_with fail
              go_ret
              exact ⟨rfl, HB9.out⟩
            · by_cases h6 : (100 : Int) < by_
              · go_enter Try.func8, Try.ntmps8
                go_wp2_with fail
                refine G.out.mono ?_
                rintro e w1 ⟨rfl, rfl⟩
                go_wp2_with fail
                refine (C.out _ HR.out).mono ?_
                rintro e w1 ⟨rfl, hb⟩
                have HB1 := Lib.hid hb
                have HR1 := Lib.hid (HR.out.below hb)
                clear hb
                go_wp2_with fail
                refine (alive_any _).mono ?_
                rintro e w9 ⟨rfl, hb⟩
                have HB9 := Lib.hid (below_then HB1.out hb)
                clear hb
                go_wp2_with fail
                go_ret
                exact ⟨rfl, HB9.out⟩
              · go_enter Try.func8, Try.ntmps8
                go_wp2_with fail
                refine G.out.mono ?_
                rintro e w1 ⟨rfl, rfl⟩
                go_wp2_with fail
                refine (C.out _ HR.out).mono ?_
                rintro e w1 ⟨rfl, hb⟩
                have HB1 := Lib.hid hb
                have HR1 := Lib.hid (HR.out.below hb)
                clear hb
                obtain ⟨m, rfl⟩ : ∃ m : Nat, at_ = m := ⟨at_.toNat, by omega⟩
                have hm : m < l.length := by omega
                have hm2 : (m : Int) < l.length := by omega
                have h60 := (check_acc HC.out).2.2.1
                have hpos := (check_acc HC.out).2.1
                obtain ⟨i0, hi, hz0, hz1, hz2⟩ := info_parts info_nd
                have HI := Lib.hid (And.intro hi (And.intro hz0 (And.intro hz1 hz2)))
                clear hi hz0 hz1 hz2
                obtain ⟨ba, oa, hada, hba, hnds⟩ := open_reads HR1.out hpos
                subst hada
                have HND := Lib.hid (nds_cells (fun i x hx => (hnds i x hx).below hba ((Below.refl _ w1).alloc (Nat.le_refl _) (Obj.cells #[] 23))))
                have hnd := hnds m _ (List.getElem?_eq_getElem hm)
                have hfx := node_facts HC.out hm
                have hsm := node_small HC.out hm
                have hbadA := fun y => set_bad (y := y) HC.out hm
                have hoth := fun y => same_other (y := y) HC.out hm
                have hset := fun c (hc : c < 5) u y h => rowN_set l m hm c hc u y h
                have hca := rowN_at l m _ (List.getElem?_eq_getElem hm)
                obtain ⟨x, hx⟩ : ∃ x, l[m] = x := ⟨_, rfl⟩
                rw [hx] at hnd hfx hbadA hoth hset hca hsm
                obtain ⟨xk, xn, xa, xb, xp⟩ := x
                have HND2 := Lib.hid hnd
                have HBA := Lib.hid hba
                simp only at hfx hca hbadA hsm
                obtain ⟨k1, k2, k3, k4, k5, k6, hcase⟩ := hfx
                obtain ⟨m1, m2, m3, m4⟩ := hsm
                have PT := Lib.hid (fun W => nodesParts_any xk (by omega) (by omega) W)
                rw [parts_ok k1 k2] at PT
                have HBAD := Lib.hid hbadA
                have HOTH := Lib.hid hoth
                have HSET := Lib.hid hset
                have HCA := Lib.hid hca
                clear hba hnds hcase hx hnd hbadA hoth hset hca
                go_wp2_with (at_builtin; refine wpList_append_own _ rfl _ _ 24 rfl w1.heap.size 23 i0 (.agg #[.int .u8 0, .int .i64 0, .int .i64 0, .int .i64 0, .int .i64 0]) 5 40 Try.underlying24 HI.out.1 HI.out.2.1 HI.out.2.2.1 HI.out.2.2.2 rfl (by decide) _ _ _ rfl (World.ownsRow_made w1 #[] 0 (Nat.le_refl _) (Nat.zero_le _) rfl) ⟨ba, oa, none⟩ l.length cap (rowN l) rfl (rowN_len l) HND.out (rowN_one l) ?c3 ?c4 ?c5 ?_)
                case c3 => unfold maxLen; omega
                case c4 => omega
                case c5 => simp
                intro v1 w5 hown hgrow _
                have hb5 : Below w1.heap.size w1 w5 := ((Below.refl _ w1).alloc (Nat.le_refl _) _).grown hgrow (by simp) (fun k hk => by simp [Value.ownBlock] at hk; omega)
                have HO5 : Hid (w5.ownsRow w1.heap.size 23 5 v1 l.length (rowN l)) := Lib.hid (by simpa using hown)
                have HB5 := Lib.hid hb5
                obtain ⟨g1, cap1, hv1⟩ : ∃ g cap, v1 = .slice (some ⟨g, 0, none⟩) l.length cap := by
                  rcases HO5.out.2 with ⟨_, h0⟩ | ⟨g, cap, _, hv, _⟩
                  · omega
                  · exact ⟨g, cap, hv⟩
                subst hv1
                obtain ⟨d0, d1, d2, d3, d4⟩ := HND2.out.below HBA.out hb5
                simp only at d0 d1 d2 d3 d4
                clear hown hgrow hb5
                go_wp2_with fail
                refine (PT.out _).mono ?_
                rintro e w6 ⟨rfl, hb⟩
                have HB6 := Lib.hid (below_then HB5.out hb)
                have HO6 := Lib.hid (own_below HO5.out hb)
                clear hb d0 d1 d2 d3 d4
                have hfz := fun c => HO6.out.frozenAt (m * 5 + c)
                have hcl := fun c (hc : c < 5) => HO6.out.cellAt (m * 5 + c) (by omega)
                have e0 : w6.cell? ⟨g1, m * 5, none⟩ = some (.int .u8 xk) := (hcl 0 (by decide)).trans HCA.out.1
                have e1 : w6.cell? ⟨g1, m * 5 + 1, none⟩ = some (.int .i64 xn) := (hcl 1 (by decide)).trans HCA.out.2.1
                have e2 : w6.cell? ⟨g1, m * 5 + 2, none⟩ = some (.int .i64 xa) := (hcl 2 (by decide)).trans HCA.out.2.2.1
                have e3 : w6.cell? ⟨g1, m * 5 + 3, none⟩ = some (.int .i64 xb) := (hcl 3 (by decide)).trans HCA.out.2.2.2.1
                have f0 : w6.frozen? ⟨g1, m * 5, none⟩ = false := hfz 0
                have f1 := hfz 1
                have f2 := hfz 2
                have f3 := hfz 3
                clear hfz hcl
                have HRW := Lib.hid (HR1.out.below HB6.out)
                have hg1 := (HO6.out.lt g1 rfl).1
                by_cases hw0 : which = 0
                · subst hw0
                  have hst := HO6.out.stored (m * 5 + 0) (.int .u8 ((xk + by_) % 256))
                  rw [HSET.out 0 (by decide) (.int .u8 ((xk + by_) % 256)) ⟨(xk + by_) % 256, xn, xa, xb, xp⟩ rfl] at hst
                  have HM : Hid (ReadsN (w6.setCell ⟨g1, m * 5, none⟩ (.int .u8 ((xk + by_) % 256))) (.slice (some ⟨g1, 0, none⟩) l.length cap1) (l.set m ⟨(xk + by_) % 256, xn, xa, xb, xp⟩)) := Lib.hid (by
                    exact own_readsN (l := l.set m ⟨(xk + by_) % 256, xn, xa, xb, xp⟩) (by rw [List.length_set]; exact hst.1))
                  have HBS : Hid (Below w1.heap.size w1 (w6.setCell ⟨g1, m * 5, none⟩ (.int .u8 ((xk + by_) % 256)))) := Lib.hid (HB6.out.setCell (p := ⟨g1, m * 5 + 0, none⟩) hg1 _)
                  have HRS := Lib.hid (HR1.out.below HBS.out)
                  have hlen : (l.set m ⟨(xk + by_) % 256, xn, xa, xb, xp⟩).length = l.length := List.length_set
                  have HLEN := Lib.hid hlen
                  clear hst hlen
                  go_wp2_with fail
                  refine (nodesCheck_any _ _ _ HM.out (by rw [HLEN.out]; omega)).mono ?_
                  rintro e w7 ⟨rfl, hb⟩
                  have HB7 := Lib.hid (below_then HBS.out hb)
                  have HR7 := Lib.hid (HRS.out.below hb)
                  have HM7 := Lib.hid (HM.out.below hb)
                  clear hb
                  by_cases hcm : checkV (l.set m ⟨(xk + by_) % 256, xn, xa, xb, xp⟩) = 0
                  · have q9 : (checkV (l.set m ⟨(xk + by_) % 256, xn, xa, xb, xp⟩) != 0) = false := by rw [hcm]; rfl
                    go_wp2_with fail
                    refine (nodesSame_any _ _ _ _ _ HR7.out HM7.out (by omega) (by rw [HLEN.out]; omega)).mono ?_
                    rintro e w8 ⟨rfl, hb⟩
                    rw [HOTH.out _ hcm (by simp only [core, Prod.mk.injEq, ne_eq, not_and]; intro h; omega)]
                    have HB8 := Lib.hid (below_then HB7.out hb)
                    clear hb
                    go_wp2_with fail
                    refine (alive_any _).mono ?_
                    rintro e w9 ⟨rfl, hb⟩
                    have HB9 := Lib.hid (below_then (below_then HB1.out HB8.out) hb)
                    clear hb
                    go_wp2_with fail
                    go_ret
                    exact ⟨rfl, HB9.out⟩
                  · have q9 : (checkV (l.set m ⟨(xk + by_) % 256, xn, xa, xb, xp⟩) != 0) = true := by rw [bne_iff_ne]; exact hcm
                    clear hcm
                    go_wp2_with fail
                    refine (alive_any _).mono ?_
                    rintro e w9 ⟨rfl, hb⟩
                    have HB9 := Lib.hid (below_then (below_then HB1.out HB7.out) hb)
                    clear hb
                    go_wp2_with fail
                    go_ret
                    exact ⟨rfl, HB9.out⟩
                · by_cases hw1 : which = 1
                  · subst hw1
                    have hst := HO6.out.stored (m * 5 + 2) (.int .i64 (xa + by_))
                    rw [HSET.out 2 (by decide) (.int .i64 (xa + by_)) ⟨xk, xn, xa + by_, xb, xp⟩ rfl] at hst
                    have HM : Hid (ReadsN (w6.setCell ⟨g1, m * 5 + 2, none⟩ (.int .i64 (xa + by_))) (.slice (some ⟨g1, 0, none⟩) l.length cap1) (l.set m ⟨xk, xn, xa + by_, xb, xp⟩)) := Lib.hid (by
                      exact own_readsN (l := l.set m ⟨xk, xn, xa + by_, xb, xp⟩) (by rw [List.length_set]; exact hst.1))
                    have HBS : Hid (Below w1.heap.size w1 (w6.setCell ⟨g1, m * 5 + 2, none⟩ (.int .i64 (xa + by_)))) := Lib.hid (HB6.out.setCell (p := ⟨g1, m * 5 + 2, none⟩) hg1 _)
                    have HRS := Lib.hid (HR1.out.below HBS.out)
                    have hlen : (l.set m ⟨xk, xn, xa + by_, xb, xp⟩).length = l.length := List.length_set
                    have HLEN := Lib.hid hlen
                    clear hst hlen
                    have HV : Hid (checkV (l.set m ⟨xk, xn, xa + by_, xb, xp⟩) = 8) := Lib.hid (HBAD.out ⟨xk, xn, xa + by_, xb, xp⟩ rfl (a_bad (by show xa + by_ ≠ xa; omega)))
                    go_wp2_with fail
                    refine (nodesCheck_any _ _ _ HM.out (by rw [HLEN.out]; omega)).mono ?_
                    rintro e w7 ⟨rfl, hb⟩
                    rw [HV.out]
                    have HB7 := Lib.hid (below_then HBS.out hb)
                    have HR7 := Lib.hid (HRS.out.below hb)
                    have HM7 := Lib.hid (HM.out.below hb)
                    clear hb
                    go_wp2_with fail
                    refine (nodesCheck_any _ _ _ HM7.out (by rw [HLEN.out]; omega)).mono ?_
                    rintro e w8 ⟨rfl, hb⟩
                    rw [HV.out]
                    have HB8 := Lib.hid (below_then HB7.out hb)
                    clear hb
                    go_wp2_with fail
                    refine (alive_any _).mono ?_
                    rintro e w9 ⟨rfl, hb⟩
                    have HB9 := Lib.hid (below_then (below_then HB1.out HB8.out) hb)
                    clear hb
                    go_wp2_with fail
                    go_ret
                    exact ⟨rfl, HB9.out⟩
                  · by_cases hw2 : which = 2
                    · subst hw2
                      have hst := HO6.out.stored (m * 5 + 3) (.int .i64 (xb + by_))
                      rw [HSET.out 3 (by decide) (.int .i64 (xb + by_)) ⟨xk, xn, xa, xb + by_, xp⟩ rfl] at hst
                      have HM : Hid (ReadsN (w6.setCell ⟨g1, m * 5 + 3, none⟩ (.int .i64 (xb + by_))) (.slice (some ⟨g1, 0, none⟩) l.length cap1) (l.set m ⟨xk, xn, xa, xb + by_, xp⟩)) := Lib.hid (by
                        exact own_readsN (l := l.set m ⟨xk, xn, xa, xb + by_, xp⟩) (by rw [List.length_set]; exact hst.1))
                      have HBS : Hid (Below w1.heap.size w1 (w6.setCell ⟨g1, m * 5 + 3, none⟩ (.int .i64 (xb + by_)))) := Lib.hid (HB6.out.setCell (p := ⟨g1, m * 5 + 3, none⟩) hg1 _)
                      have HRS := Lib.hid (HR1.out.below HBS.out)
                      have hlen : (l.set m ⟨xk, xn, xa, xb + by_, xp⟩).length = l.length := List.length_set
                      have HLEN := Lib.hid hlen
                      clear hst hlen
                      have HV : Hid (checkV (l.set m ⟨xk, xn, xa, xb + by_, xp⟩) = 8) := Lib.hid (HBAD.out ⟨xk, xn, xa, xb + by_, xp⟩ rfl (b_bad (by show xb + by_ ≠ xb; omega)))
                      go_wp2_with fail
                      refine (nodesCheck_any _ _ _ HM.out (by rw [HLEN.out]; omega)).mono ?_
                      rintro e w7 ⟨rfl, hb⟩
                      rw [HV.out]
                      have HB7 := Lib.hid (below_then HBS.out hb)
                      have HR7 := Lib.hid (HRS.out.below hb)
                      have HM7 := Lib.hid (HM.out.below hb)
                      clear hb
                      go_wp2_with fail
                      refine (nodesCheck_any _ _ _ HM7.out (by rw [HLEN.out]; omega)).mono ?_
                      rintro e w8 ⟨rfl, hb⟩
                      rw [HV.out]
                      have HB8 := Lib.hid (below_then HB7.out hb)
                      clear hb
                      go_wp2_with fail
                      refine (alive_any _).mono ?_
                      rintro e w9 ⟨rfl, hb⟩
                      have HB9 := Lib.hid (below_then (below_then HB1.out HB8.out) hb)
                      clear hb
                      go_wp2_with fail
                      go_ret
                      exact ⟨rfl, HB9.out⟩
                    · have qw0 : (which == 0) = false := beq_eq_false_iff_ne.2 hw0
                      have qw1 : (which == 1) = false := beq_eq_false_iff_ne.2 hw1
                      have qw2 : (which == 2) = false := beq_eq_false_iff_ne.2 hw2
                      by_cases hk1 : xk = 1
                      · subst hk1
                        have hst := HO6.out.stored (m * 5 + 1) (.int .i64 (wrap64 (xn + by_)))
                        rw [HSET.out 1 (by decide) (.int .i64 (wrap64 (xn + by_))) ⟨1, wrap64 (xn + by_), xa, xb, xp⟩ rfl] at hst
                        have HM : Hid (ReadsN (w6.setCell ⟨g1, m * 5 + 1, none⟩ (.int .i64 (wrap64 (xn + by_)))) (.slice (some ⟨g1, 0, none⟩) l.length cap1) (l.set m ⟨1, wrap64 (xn + by_), xa, xb, xp⟩)) := Lib.hid (by
                          exact own_readsN (l := l.set m ⟨1, wrap64 (xn + by_), xa, xb, xp⟩) (by rw [List.length_set]; exact hst.1))
                        have HBS : Hid (Below w1.heap.size w1 (w6.setCell ⟨g1, m * 5 + 1, none⟩ (.int .i64 (wrap64 (xn + by_))))) := Lib.hid (HB6.out.setCell (p := ⟨g1, m * 5 + 1, none⟩) hg1 _)
                        have HRS := Lib.hid (HR1.out.below HBS.out)
                        have hlen : (l.set m ⟨1, wrap64 (xn + by_), xa, xb, xp⟩).length = l.length := List.length_set
                        have HLEN := Lib.hid hlen
                        clear hst hlen
                        obtain ⟨d0, d1, d2, d3, d4⟩ := HND2.out.below HBA.out HBS.out
                        simp only at d0
                        clear d1 d2 d3 d4
                        go_wp2_with fail
                        refine (nodesCheck_any _ _ _ HM.out (by rw [HLEN.out]; omega)).mono ?_
                        rintro e w7 ⟨rfl, hb⟩
                        have HB7 := Lib.hid (below_then HBS.out hb)
                        have HR7 := Lib.hid (HRS.out.below hb)
                        have HM7 := Lib.hid (HM.out.below hb)
                        clear hb
                        by_cases hcm : checkV (l.set m ⟨1, wrap64 (xn + by_), xa, xb, xp⟩) = 0
                        · have q9 : (checkV (l.set m ⟨1, wrap64 (xn + by_), xa, xb, xp⟩) != 0) = false := by rw [hcm]; rfl
                          go_wp2_with fail
                          refine (nodesSame_any _ _ _ _ _ HR7.out HM7.out (by omega) (by rw [HLEN.out]; omega)).mono ?_
                          rintro e w8 ⟨rfl, hb⟩
                          rw [HOTH.out _ hcm (by simp only [core, Prod.mk.injEq, ne_eq, not_and]; intro _ h; exact absurd h (wrap_ne xn by_ h4 (by omega) (by omega)))]
                          have HB8 := Lib.hid (below_then HB7.out hb)
                          clear hb
                          go_wp2_with fail
                          refine (alive_any _).mono ?_
                          rintro e w9 ⟨rfl, hb⟩
                          have HB9 := Lib.hid (below_then (below_then HB1.out HB8.out) hb)
                          clear hb
                          go_wp2_with fail
                          go_ret
                          exact ⟨rfl, HB9.out⟩
                        · have q9 : (checkV (l.set m ⟨1, wrap64 (xn + by_), xa, xb, xp⟩) != 0) = true := by rw [bne_iff_ne]; exact hcm
                          clear hcm
                          go_wp2_with fail
                          refine (alive_any _).mono ?_
                          rintro e w9 ⟨rfl, hb⟩
                          have HB9 := Lib.hid (below_then (below_then HB1.out HB7.out) hb)
                          clear hb
                          go_wp2_with fail
                          go_ret
                          exact ⟨rfl, HB9.out⟩
                      · have qk : (xk != 1) = true := by rw [bne_iff_ne]; exact hk1
                        obtain rfl : xn = 0 := k4.resolve_right hk1
                        have hst := HO6.out.stored (m * 5 + 1) (.int .i64 (by_))
                        rw [HSET.out 1 (by decide) (.int .i64 (by_)) ⟨xk, by_, xa, xb, xp⟩ rfl] at hst
                        have HM : Hid (ReadsN (w6.setCell ⟨g1, m * 5 + 1, none⟩ (.int .i64 (by_))) (.slice (some ⟨g1, 0, none⟩) l.length cap1) (l.set m ⟨xk, by_, xa, xb, xp⟩)) := Lib.hid (by
                          exact own_readsN (l := l.set m ⟨xk, by_, xa, xb, xp⟩) (by rw [List.length_set]; exact hst.1))
                        have HBS : Hid (Below w1.heap.size w1 (w6.setCell ⟨g1, m * 5 + 1, none⟩ (.int .i64 (by_)))) := Lib.hid (HB6.out.setCell (p := ⟨g1, m * 5 + 1, none⟩) hg1 _)
                        have HRS := Lib.hid (HR1.out.below HBS.out)
                        have hlen : (l.set m ⟨xk, by_, xa, xb, xp⟩).length = l.length := List.length_set
                        have HLEN := Lib.hid hlen
                        clear hst hlen
                        obtain ⟨d0, d1, d2, d3, d4⟩ := HND2.out.below HBA.out HBS.out
                        simp only at d0
                        clear d1 d2 d3 d4
                        have HV : Hid (checkV (l.set m ⟨xk, by_, xa, xb, xp⟩) = 8) := Lib.hid (HBAD.out ⟨xk, by_, xa, xb, xp⟩ rfl (n_bad (by show by_ ≠ 0; exact h4) hk1))
                        go_wp2_with fail
                        refine (nodesCheck_any _ _ _ HM.out (by rw [HLEN.out]; omega)).mono ?_
                        rintro e w7 ⟨rfl, hb⟩
                        rw [HV.out]
                        have HB7 := Lib.hid (below_then HBS.out hb)
                        have HR7 := Lib.hid (HRS.out.below hb)
                        have HM7 := Lib.hid (HM.out.below hb)
                        clear hb
                        go_wp2_with fail
                        refine (nodesCheck_any _ _ _ HM7.out (by rw [HLEN.out]; omega)).mono ?_
                        rintro e w8 ⟨rfl, hb⟩
                        rw [HV.out]
                        have HB8 := Lib.hid (below_then HB7.out hb)
                        clear hb
                        go_wp2_with fail
                        refine (alive_any _).mono ?_
                        rintro e w9 ⟨rfl, hb⟩
                        have HB9 := Lib.hid (below_then (below_then HB1.out HB8.out) hb)
                        clear hb
                        go_wp2_with fail
                        go_ret
                        exact ⟨rfl, HB9.out⟩
    · have q1 : (checkV l != 0) = true := by rw [bne_iff_ne]; exact hc
      clear hc
      go_enter Try.func8, Try.ntmps8
      go_wp2_with fail
      refine G.out.mono ?_
      rintro e w1 ⟨rfl, rfl⟩
      go_wp2_with fail
      refine (C.out _ HR.out).mono ?_
      rintro e w1 ⟨rfl, hb⟩
      have HB1 := Lib.hid hb
      have HR1 := Lib.hid (HR.out.below hb)
      clear hb
      go_wp2_with fail
      refine (alive_any _).mono ?_
      rintro e w9 ⟨rfl, hb⟩
      have HB9 := Lib.hid (below_then HB1.out hb)
      clear hb
      go_wp2_with fail
      go_ret
      exact ⟨rfl, HB9.out⟩
  · rw [hg] at G
    clear hg
    go_enter Try.func8, Try.ntmps8
    go_wp2_with fail
    refine G.out.mono ?_
    rintro e w1 ⟨rfl, rfl⟩
    go_wp2_with fail
    refine (alive_any _).mono ?_
    rintro e w9 ⟨rfl, hb⟩
    have HB9 := Lib.hid hb
    clear hb
    go_wp2_with fail
    go_ret
    exact ⟨rfl, HB9.out⟩
end Go.Proofs.Ytbgkhibohkeikaa.Nodes

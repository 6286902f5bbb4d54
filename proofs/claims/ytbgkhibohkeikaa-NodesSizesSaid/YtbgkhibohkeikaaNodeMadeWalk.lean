/-
  Walk of the statement NodesMade: with the expressions of its parts Node makes each one.
-/
import Derived.Test.YtbgkhibohkeikaaNodeAlive
import Derived.Maps.AppendAt
import Derived.Outline
namespace Go.Proofs.Ytbgkhibohkeikaa.Nodes
open Go.ChangeShapes Go.WideShapes Go.ChangeAt Go.RowKit

theorem info_list : (Try.prog.info? 24).map (fun i => (i.zero, i.size, i.bytes)) = some (some (.slice none 0 0), 1, 24) := by kernel_rfl
/-- A part of a valid expression. -/
theorem part_is {l : List Nd} (h : checkV l = 0) {k : Int} {i : Nat} (hk : k = (i : Nat)) (hi : i < l.length) : ∃ p, partV l k = (p, 0) ∧ p.length ≤ 60 := by
  subst hk
  have hs := good_sz (check_acc h).1 i hi
  have h60 := (check_acc h).2.2.1
  exact ⟨_, part_ok h hi, by rw [cut_len hs.2.1 hi]; omega⟩
/-- Behind an append to a row of the call's own what a slice reads is as it was, if it lies in no row that was appended to. -/
theorem reads_grown {w0 w w' : World} {v : Value} {l : List Nd} {row : Option Nat} (h : ReadsN w0 v l) (hb : Below w0.heap.size w0 w) (hg : w.grownBy w' row) (hr : ∀ k, row = some k → w0.heap.size ≤ k) : ReadsN w' v l :=
  h.below (hb.grown hg hb.size hr)
/-- A node in a block of its own. -/
def BoxAt (w : World) (b : Nat) (x : Nd) : Prop :=
  w.cell? ⟨b, 0, none⟩ = some (.int .u8 x.kind) ∧ w.cell? ⟨b, 1, none⟩ = some (.int .i64 x.n) ∧ w.cell? ⟨b, 2, none⟩ = some (.int .i64 x.a) ∧ w.cell? ⟨b, 3, none⟩ = some (.int .i64 x.b) ∧ w.cell? ⟨b, 4, none⟩ = some (.int .i64 x.at_)
theorem box_new (w : World) (k n a b p : Int) : BoxAt (w.alloc (.cells #[.int .u8 k, .int .i64 n, .int .i64 a, .int .i64 b, .int .i64 p] 23)) w.heap.size ⟨k, n, a, b, p⟩ := by
  refine ⟨?_, ?_, ?_, ?_, ?_⟩ <;> simp [go_sem]
theorem BoxAt.below {w w' : World} {b : Nat} {x : Nd} (h : BoxAt w b x) (hb : b < w.heap.size) (hw : Below w.heap.size w w') : BoxAt w' b x :=
  ⟨(hw.cell (p := ⟨b, _, none⟩) hb).trans h.1, (hw.cell (p := ⟨b, _, none⟩) hb).trans h.2.1, (hw.cell (p := ⟨b, _, none⟩) hb).trans h.2.2.1, (hw.cell (p := ⟨b, _, none⟩) hb).trans h.2.2.2.1, (hw.cell (p := ⟨b, _, none⟩) hb).trans h.2.2.2.2⟩
set_option maxRecDepth 100000 in
set_option maxHeartbeats 1000000 in
theorem made_walk (v : Value) (l : List Nd) (at_ : Int) (w : World) (hR : ReadsN w v l) (hn : l.length ≤ 9223372036854775807) (hat : at_ ≤ 9223372036854775807) :
    Calls Try.prog 5 #[v, .int .i64 at_] w fun e w' => e = .returned (.bool true) ∧ Below w.heap.size w w' := by
  have G := Lib.hid (great_any v l w hR)
  obtain ⟨ad, cap, rfl⟩ := hR.shape
  have HR := Lib.hid hR
  clear hR
  cases hg : decide (70 < l.length)
  · have h70 : l.length ≤ 70 := by rw [decide_eq_false_iff_not] at hg; omega
    have C := Lib.hid (fun (W : World) h => refCheck_any (.slice ad l.length cap) l W h (by omega))
    rw [hg] at G
    clear hg
    by_cases hc : checkV l = 0
    · have q1 : (checkV l != 0) = false := by rw [hc]; rfl
      have HC := Lib.hid hc
      by_cases h0 : at_ < 0
      · clear hc
        go_enter Try.func5, Try.ntmps5
        go_wp2_with fail
        refine G.out.mono ?_
        rintro e w1 ⟨rfl, rfl⟩
        go_wp2_with fail
        refine (C.out _ HR.out).mono ?_
        rintro e w1 ⟨rfl, hb⟩
        have HB := Lib.hid hb
        clear hb
        go_wp2_with fail
        refine (alive_any _).mono ?_
        rintro e w2 ⟨rfl, hb⟩
        have HB2 := Lib.hid (below_then HB.out hb)
        clear hb
        go_wp2_with fail
        go_ret
        exact ⟨rfl, HB2.out⟩
      · by_cases h1 : (l.length : Int) ≤ at_
        · clear hc
          go_enter Try.func5, Try.ntmps5
          go_wp2_with fail
          refine G.out.mono ?_
          rintro e w1 ⟨rfl, rfl⟩
          go_wp2_with fail
          refine (C.out _ HR.out).mono ?_
          rintro e w1 ⟨rfl, hb⟩
          have HB := Lib.hid hb
          clear hb
          go_wp2_with fail
          refine (alive_any _).mono ?_
          rintro e w2 ⟨rfl, hb⟩
          have HB2 := Lib.hid (below_then HB.out hb)
          clear hb
          go_wp2_with fail
          go_ret
          exact ⟨rfl, HB2.out⟩
        · obtain ⟨m, rfl⟩ : ∃ m : Nat, at_ = m := ⟨at_.toNat, by omega⟩
          have hm : m < l.length := by omega
          have HM := Lib.hid hm
          clear hc
          go_enter Try.func5, Try.ntmps5
          go_wp2_with fail
          refine G.out.mono ?_
          rintro e w1 ⟨rfl, rfl⟩
          go_wp2_with fail
          refine (C.out _ HR.out).mono ?_
          rintro e w1 ⟨rfl, hb⟩
          have HB := Lib.hid hb
          have HR1 := Lib.hid (HR.out.below hb)
          clear hb
          go_wp2_with fail
          refine (nodesPart_any _ _ _ _ HR1.out (by omega)).mono ?_
          rintro e w2 ⟨vo, rfl, ho0, hb⟩
          have ho := own_readsN ho0
          clear ho0
          have HB2 := Lib.hid (below_then HB.out hb)
          have HR2 := Lib.hid (HR1.out.below hb)
          have HO := Lib.hid ho
          clear hb ho
          rw [part_ok HC.out HM.out] at HO ⊢
          obtain ⟨b, o, cap', hv, hbs, hnd⟩ := HR2.out.nd m HM.out
          cases hv
          have hfx := node_facts HC.out HM.out
          have hmd := node_made HC.out HM.out
          obtain ⟨c1, c2, c3, c4⟩ := cut_ok HC.out HM.out
          have hszl := (good_sz (check_acc HC.out).1 m HM.out).2.1
          have h60 := (check_acc HC.out).2.2.1
          obtain ⟨x, hx⟩ : ∃ x, l[m]'(HM.out) = x := ⟨_, rfl⟩
          rw [hx] at hnd hfx hmd
          unfold partsOf at hmd
          obtain ⟨xk, xn, xa, xb, xp⟩ := x
          obtain ⟨d0, d1, d2, d3, d4⟩ := hnd
          simp only at d0 d1 d2 d3 d4 hfx hmd
          obtain ⟨k1, k2, k3, k4, k5, k6, hcase⟩ := hfx
          have PT := Lib.hid (fun W => nodesParts_any xk (by omega) (by omega) W)
          rw [parts_ok k1 k2] at PT
          have HCL : Hid ((cutL l (sz (accV l) m) m).length = sz (accV l) m) := Lib.hid c2
          rcases hcase with ⟨a0, e1, e2, e3⟩ | ⟨a0, e0, e1, e2, e3⟩ | ⟨a0, e0, ez, e1, e2, e3⟩
          · rw [a0, if_pos rfl] at hmd
            rw [a0] at PT
            have HMD := Lib.hid hmd
            clear hmd hx c1 c2 c3 c4 a0 e1 e2 e3 k4
            go_wp2_with fail
            refine (PT.out _).mono ?_
            rintro e w3 ⟨rfl, hb⟩
            have HB3 := Lib.hid (below_box HB2.out hb)
            have HO3 := Lib.hid ((HO.out.below ((Below.refl _ _).alloc (Nat.le_refl _) _)).below hb)
            obtain ⟨x0, x1, x2, x3, x4⟩ := (box_new w2 xk xn xa xb xp).below (by simp) hb
            simp only at x0 x1 x2 x3 x4
            clear hb
            go_wp2_with fail
            refine (nodesNode_any _ _ _ _ [] _ (.inl ⟨rfl, _, _, rfl⟩) (by omega) (by omega) (fun p hp => by cases hp) (by decide)).mono ?_
            rintro e w9 ⟨vm, rfl, ho0, hb⟩
            rw [HMD.out] at ho0 ⊢
            have ho := own_readsN ho0
            clear ho0
            have HB9 := Lib.hid (below_then HB3.out hb)
            have HO9 := Lib.hid (HO3.out.below hb)
            have HM9 := Lib.hid ho
            clear hb ho
            go_wp2_with fail
            refine (refEqual_any _ _ _ _ _ HM9.out HO9.out (by rw [HCL.out]; omega)).mono ?_
            rintro e w10 ⟨rfl, hd⟩
            rw [equal_refl]
            have HB10 := Lib.hid (HB9.out.trans (hd.below _))
            clear hd
            go_wp2_with fail
            refine (alive_any _).mono ?_
            rintro e w11 ⟨rfl, hb⟩
            have HB11 := Lib.hid (below_then HB10.out hb)
            clear hb
            go_wp2_with fail
            go_ret
            exact ⟨rfl, HB11.out⟩
          · obtain ⟨p1, hp1, hl1⟩ := part_is HC.out e1 (show m - 1 < l.length by omega)
            rw [a0, if_neg (by decide), if_pos rfl, hp1] at hmd
            rw [a0] at PT
            have HMD := Lib.hid hmd
            have HP1 := Lib.hid hp1
            obtain ⟨i0, hi, hz0, hz1, hz2⟩ := info_parts info_list
            have HI := Lib.hid (And.intro hi (And.intro hz0 (And.intro hz1 hz2)))
            clear hmd hx c1 c2 c3 c4 a0 e0 e1 e2 e3 k4 hp1 hi hz0 hz1 hz2
            go_wp2_with fail
            refine (PT.out _).mono ?_
            rintro e w3 ⟨rfl, hb⟩
            have HB3 := Lib.hid (below_box HB2.out hb)
            have HO3 := Lib.hid ((HO.out.below ((Below.refl _ _).alloc (Nat.le_refl _) _)).below hb)
            have HR3 := Lib.hid ((HR2.out.below ((Below.refl _ _).alloc (Nat.le_refl _) _)).below hb)
            have HX3 := Lib.hid ((box_new w2 xk xn xa xb xp).below (by simp) hb)
            have hbx : w2.heap.size < w3.heap.size := by have := hb.size; simp at this; omega
            obtain ⟨x0, x1, x2, x3, x4⟩ := HX3.out
            simp only at x0 x1 x2 x3 x4
            clear hb
            go_wp2_with fail
            refine (nodesPart_any _ _ _ _ HR3.out (by omega)).mono ?_
            rintro e w4 ⟨vq4, rfl, ho, hb⟩
            rw [HP1.out] at ho ⊢
            obtain ⟨ad4, cp4, hsh⟩ := own_shape ho
            subst hsh
            have HB4 := Lib.hid (below_then HB3.out hb)
            have HO4 := Lib.hid (HO3.out.below hb)
            have HR4 := Lib.hid (HR3.out.below hb)
            have HX4 := Lib.hid (HX3.out.below hbx hb)
            have HQ4 := Lib.hid ho
            have HZ4 := Lib.hid hb
            replace hbx : w2.heap.size < w4.heap.size := Nat.lt_of_lt_of_le hbx hb.size
            clear hb ho x0 x1 x2 x3 x4
            go_wp2_with (at_builtin; refine wpList_append_own _ rfl _ _ 25 rfl w4.heap.size 24 i0 (.slice none 0 0) 1 24 Try.underlying25 HI.out.1 HI.out.2.1 HI.out.2.2.1 HI.out.2.2.2 rfl (by decide) _ 0 _ rfl ((World.ownsRow_nil w4 w4.heap.size 24 1).alloc _) ⟨w4.heap.size, 0, none⟩ 1 1 [.slice ad4 p1.length cp4] rfl rfl ?c1 ?c2 ?c3 ?c4 ?c5 ?_)
            case c1 =>
              intro q u hq
              match q, hq with
              | 0, hq => simp at hq; subst hq; simp [go_sem, Addr.add]
            case c2 => intro u hu; simp at hu; subst hu; rfl
            case c3 => unfold maxLen; omega
            case c4 => omega
            case c5 => simp
            intro v5 w5 hown hgrow _
            have hb5 : Below w4.heap.size w4 w5 := ((Below.refl _ w4).alloc (Nat.le_refl _) _).grown hgrow (by simp) (fun k hk => by simp [Value.ownBlock] at hk)
            have HB5 := Lib.hid (below_then HB4.out hb5)
            have HO5 := Lib.hid (HO4.out.below hb5)
            have HX5 := Lib.hid (HX4.out.below hbx hb5)
            have HP5 : Hid (ReadsP w5 v5 [p1]) := Lib.hid (own_readsP (ps := [p1]) hown (fun i p hp => by
              match i, hp with
              | 0, hp => simp at hp; subst hp; exact ⟨_, rfl, (own_readsN HQ4.out).below hb5⟩))
            replace hbx : w2.heap.size < w5.heap.size := Nat.lt_of_lt_of_le hbx hb5.size
            obtain ⟨x0, x1, x2, x3, x4⟩ := HX5.out
            simp only at x0 x1 x2 x3 x4
            clear hown hgrow hb5
            go_wp2_with fail
            refine (nodesNode_any _ _ _ _ [p1] _ HP5.out (by omega) (by omega) (fun p hp => by simp at hp; subst hp; omega) (by simp)).mono ?_
            rintro e w9 ⟨vm, rfl, ho0, hb⟩
            rw [HMD.out] at ho0 ⊢
            have ho := own_readsN ho0
            clear ho0
            have HB9 := Lib.hid (below_then HB5.out hb)
            have HO9 := Lib.hid (HO5.out.below hb)
            have HM9 := Lib.hid ho
            clear hb ho
            go_wp2_with fail
            refine (refEqual_any _ _ _ _ _ HM9.out HO9.out (by rw [HCL.out]; omega)).mono ?_
            rintro e w10 ⟨rfl, hd⟩
            rw [equal_refl]
            have HB10 := Lib.hid (HB9.out.trans (hd.below _))
            clear hd
            go_wp2_with fail
            refine (alive_any _).mono ?_
            rintro e w11 ⟨rfl, hb⟩
            have HB11 := Lib.hid (below_then HB10.out hb)
            clear hb
            go_wp2_with fail
            go_ret
            exact ⟨rfl, HB11.out⟩
          · obtain ⟨p1, hp1, hl1⟩ := part_is HC.out e1 (show m - 1 - sz (accV l) (m - 1) < l.length by omega)
            obtain ⟨p2, hp2, hl2⟩ := part_is HC.out e2 (show m - 1 < l.length by omega)
            rw [a0, if_neg (by decide), if_neg (by decide), hp1, hp2] at hmd
            rw [a0] at PT
            have HMD := Lib.hid hmd
            have HP1 := Lib.hid hp1
            have HP2 := Lib.hid hp2
            obtain ⟨i0, hi, hz0, hz1, hz2⟩ := info_parts info_list
            have HI := Lib.hid (And.intro hi (And.intro hz0 (And.intro hz1 hz2)))
            clear hmd hx c1 c2 c3 c4 a0 e0 e1 e2 e3 k4 hp1 hp2 ez hi hz0 hz1 hz2
            go_wp2_with fail
            refine (PT.out _).mono ?_
            rintro e w3 ⟨rfl, hb⟩
            have HB3 := Lib.hid (below_box HB2.out hb)
            have HO3 := Lib.hid ((HO.out.below ((Below.refl _ _).alloc (Nat.le_refl _) _)).below hb)
            have HR3 := Lib.hid ((HR2.out.below ((Below.refl _ _).alloc (Nat.le_refl _) _)).below hb)
            have HX3 := Lib.hid ((box_new w2 xk xn xa xb xp).below (by simp) hb)
            have hbx : w2.heap.size < w3.heap.size := by have := hb.size; simp at this; omega
            obtain ⟨x0, x1, x2, x3, x4⟩ := HX3.out
            simp only at x0 x1 x2 x3 x4
            clear hb
            go_wp2_with fail
            refine (nodesPart_any _ _ _ _ HR3.out (by omega)).mono ?_
            rintro e w4 ⟨vq4, rfl, ho, hb⟩
            rw [HP1.out] at ho ⊢
            obtain ⟨ad4, cp4, hsh⟩ := own_shape ho
            subst hsh
            have HB4 := Lib.hid (below_then HB3.out hb)
            have HO4 := Lib.hid (HO3.out.below hb)
            have HR4 := Lib.hid (HR3.out.below hb)
            have HX4 := Lib.hid (HX3.out.below hbx hb)
            have HQ4 := Lib.hid ho
            have HZ4 := Lib.hid hb
            replace hbx : w2.heap.size < w4.heap.size := Nat.lt_of_lt_of_le hbx hb.size
            clear hb ho x0 x1 x2 x3 x4
            go_wp2_with (at_builtin; refine wpList_append_own _ rfl _ _ 25 rfl w4.heap.size 24 i0 (.slice none 0 0) 1 24 Try.underlying25 HI.out.1 HI.out.2.1 HI.out.2.2.1 HI.out.2.2.2 rfl (by decide) _ 0 _ rfl ((World.ownsRow_nil w4 w4.heap.size 24 1).alloc _) ⟨w4.heap.size, 0, none⟩ 1 1 [.slice ad4 p1.length cp4] rfl rfl ?c1 ?c2 ?c3 ?c4 ?c5 ?_)
            case c1 =>
              intro q u hq
              match q, hq with
              | 0, hq => simp at hq; subst hq; simp [go_sem, Addr.add]
            case c2 => intro u hu; simp at hu; subst hu; rfl
            case c3 => unfold maxLen; omega
            case c4 => omega
            case c5 => simp
            intro v5 w5 hown hgrow _
            have HXL := Lib.hid hbx
            have hb5 : Below w4.heap.size w4 w5 := ((Below.refl _ w4).alloc (Nat.le_refl _) _).grown hgrow (by simp) (fun k hk => by simp [Value.ownBlock] at hk)
            have HB5 := Lib.hid (below_then HB4.out hb5)
            have HO5 := Lib.hid (HO4.out.below hb5)
            have HR5 := Lib.hid (HR4.out.below hb5)
            have HX5 := Lib.hid (HX4.out.below hbx hb5)
            have HV5 := Lib.hid hown
            have HY5 := Lib.hid hb5
            obtain ⟨adv, cpv, hsv⟩ := own_shape hown
            subst hsv
            replace hbx : w2.heap.size < w5.heap.size := Nat.lt_of_lt_of_le hbx hb5.size
            obtain ⟨x0, x1, x2, x3, x4⟩ := HX5.out
            simp only at x0 x1 x2 x3 x4
            clear hown hgrow hb5
            go_wp2_with fail
            refine (nodesPart_any _ _ _ _ HR5.out (by omega)).mono ?_
            rintro e w6 ⟨vq6, rfl, ho, hb⟩
            rw [HP2.out] at ho ⊢
            obtain ⟨ad6, cp6, hsh⟩ := own_shape ho
            subst hsh
            have HB6 := Lib.hid (below_then HB5.out hb)
            have HO6 := Lib.hid (HO5.out.below hb)
            have HR6 := Lib.hid (HR5.out.below hb)
            have HX6 := Lib.hid (HX5.out.below hbx hb)
            have HQ6 := Lib.hid ho
            have HZ6 := Lib.hid hb
            replace hbx : w2.heap.size < w6.heap.size := Nat.lt_of_lt_of_le hbx hb.size
            clear hb ho x0 x1 x2 x3 x4
            have HV6 := Lib.hid (own_below HV5.out HZ6.out)
            have HZ4b := Lib.hid (below_then HY5.out HZ6.out)
            go_wp2_with (at_builtin; refine wpList_append_own _ rfl _ _ 25 rfl w4.heap.size 24 i0 (.slice none 0 0) 1 24 Try.underlying25 HI.out.1 HI.out.2.1 HI.out.2.2.1 HI.out.2.2.2 rfl (by decide) _ 1 _ rfl ((HV6.out).alloc _) ⟨w6.heap.size, 0, none⟩ 1 1 [.slice ad6 p2.length cp6] rfl rfl ?c1 ?c2 ?c3 ?c4 ?c5 ?_)
            case c1 =>
              intro q u hq
              match q, hq with
              | 0, hq => simp at hq; subst hq; simp [go_sem, Addr.add]
            case c2 => intro u hu; simp at hu; subst hu; rfl
            case c3 => unfold maxLen; omega
            case c4 => omega
            case c5 => have := HZ4b.out.size; simp; omega
            intro v7 w7 hown hgrow _
            have hb7 : Below w4.heap.size w4 w7 := (HZ4b.out.alloc HZ4b.out.size _).grown hgrow (by have := HZ4b.out.size; simp; omega) (fun k hk => (HV6.out.lt k hk).1)
            have hq7 := (HQ6.out.alloc (Obj.cells #[.slice ad6 p2.length cp6] 24)).kept hgrow (by
              refine Classical.byContradiction fun h => ?_
              rw [not_or, Classical.not_not] at h
              obtain ⟨h1, h2⟩ := h
              cases hk : (Value.slice ad6 p2.length cp6).ownBlock with
              | none => exact h1 hk
              | some k =>
                have a1 := (HQ6.out.lt k hk).1
                have a2 := (HV5.out.lt k (by rw [← h2, hk])).2
                omega)
            have HB7 := Lib.hid (below_then HB4.out hb7)
            have HO7 := Lib.hid (HO4.out.below hb7)
            have HX7 := Lib.hid (HX4.out.below HXL.out hb7)
            have HP7 : Hid (ReadsP w7 v7 [p1, p2]) := Lib.hid (own_readsP (ps := [p1, p2]) hown (fun i p hp => by
              match i, hp with
              | 0, hp => simp at hp; subst hp; exact ⟨_, rfl, (own_readsN HQ4.out).below hb7⟩
              | 1, hp => simp at hp; subst hp; exact ⟨_, rfl, own_readsN hq7⟩))
            obtain ⟨x0, x1, x2, x3, x4⟩ := HX7.out
            simp only at x0 x1 x2 x3 x4
            clear hown hgrow hb7 hq7
            go_wp2_with fail
            refine (nodesNode_any _ _ _ _ [p1, p2] _ HP7.out (by omega) (by omega) (fun p hp => by simp at hp; rcases hp with rfl | rfl <;> omega) (by simp)).mono ?_
            rintro e w9 ⟨vm, rfl, ho0, hb⟩
            rw [HMD.out] at ho0 ⊢
            have ho := own_readsN ho0
            clear ho0
            have HB9 := Lib.hid (below_then HB7.out hb)
            have HO9 := Lib.hid (HO7.out.below hb)
            have HM9 := Lib.hid ho
            clear hb ho
            go_wp2_with fail
            refine (refEqual_any _ _ _ _ _ HM9.out HO9.out (by rw [HCL.out]; omega)).mono ?_
            rintro e w10 ⟨rfl, hd⟩
            rw [equal_refl]
            have HB10 := Lib.hid (HB9.out.trans (hd.below _))
            clear hd
            go_wp2_with fail
            refine (alive_any _).mono ?_
            rintro e w11 ⟨rfl, hb⟩
            have HB11 := Lib.hid (below_then HB10.out hb)
            clear hb
            go_wp2_with fail
            go_ret
            exact ⟨rfl, HB11.out⟩
    · have q1 : (checkV l != 0) = true := by rw [bne_iff_ne]; exact hc
      clear hc
      go_enter Try.func5, Try.ntmps5
      go_wp2_with fail
      refine G.out.mono ?_
      rintro e w1 ⟨rfl, rfl⟩
      go_wp2_with fail
      refine (C.out _ HR.out).mono ?_
      rintro e w1 ⟨rfl, hb⟩
      have HB := Lib.hid hb
      clear hb
      go_wp2_with fail
      refine (alive_any _).mono ?_
      rintro e w2 ⟨rfl, hb⟩
      have HB2 := Lib.hid (below_then HB.out hb)
      clear hb
      go_wp2_with fail
      go_ret
      exact ⟨rfl, HB2.out⟩
  · rw [hg] at G
    clear hg
    go_enter Try.func5, Try.ntmps5
    go_wp2_with fail
    refine G.out.mono ?_
    rintro e w1 ⟨rfl, rfl⟩
    go_wp2_with fail
    refine (alive_any _).mono ?_
    rintro e w2 ⟨rfl, hb⟩
    go_wp2_with fail
    go_ret
    exact ⟨rfl, hb⟩
end Go.Proofs.Ytbgkhibohkeikaa.Nodes

/-
  Contract of nodes.shapes at the landed code (layer 4): sizes and depths of all nodes, or Check's error.
-/
import Derived.Test.YtdinaedknlkicaaGreatDoorNodeBehind
import Derived.Test.YtdinaedknlkicaaGreatDoorRefCheck
import Derived.Maps.AppendAt
import Derived.Outline
namespace Go.Proofs.YtdinaedknlkicaaGreatDoor.Nodes
open Go.ChangeShapes Go.WideShapes Go.ChangeAt Go.RowKit

def prCells (p : Nat × Nat) : List Value := [.int .i64 (p.1 : Nat), .int .i64 (p.2 : Nat)]
def rowS (r : Acc) : List Value := r.flatMap prCells
theorem rowS_add (r : Acc) (p : Nat × Nat) : rowS (r ++ [p]) = rowS r ++ prCells p := by simp [rowS, List.flatMap_append]
theorem rowS_at (r : Acc) (i : Nat) (p : Nat × Nat) (h : r[i]? = some p) : (rowS r)[i * 2]? = some (.int .i64 (p.1 : Nat)) ∧ (rowS r)[i * 2 + 1]? = some (.int .i64 (p.2 : Nat)) := by
  induction r generalizing i with
  | nil => simp at h
  | cons u r ih =>
    cases i with
    | zero => simp at h; subst h; exact ⟨rfl, rfl⟩
    | succ i =>
      have := ih i (by simpa using h)
      rw [show (i + 1) * 2 = i * 2 + 2 by omega]
      exact this
theorem own_readsS {w : World} {base n : Nat} {v : Value} {r : Acc} (h : w.ownsRow base 133 2 v n (rowS r)) (hn : r.length = n) : ReadsS w v r := by
  subst hn
  rcases h.2 with ⟨rfl, h0⟩ | ⟨g, cap, cur, rfl, hb, hg, _⟩
  · rw [List.length_eq_zero_iff] at h0
    subst h0
    exact .inl ⟨rfl, _, _, rfl⟩
  · refine .inr ⟨g, 0, cap, rfl, (Array.getElem?_eq_some_iff.1 hg).1, fun i hi => ?_⟩
    have hcc := h.cells (g := g) rfl
    obtain ⟨h0, h1⟩ := rowS_at r i _ (at_eq hi)
    have e : ∀ j, (⟨g, 0, none⟩ : Addr).add j = ⟨g, 0 + j, none⟩ := fun j => Addr.add_mid g 0 j
    exact ⟨by have := hcc _ _ h0; rwa [e] at this, by have := hcc _ _ h1; rwa [e] at this⟩
theorem info_shape : (Tryz.prog.info? 133).map (fun i => (i.zero, i.size, i.bytes)) = some (some (.agg #[.int .i64 0, .int .i64 0]), 2, 16) := by kernel_rfl
def ShapesEnds (l : List Nd) (w : World) (e : Ending) (w' : World) : Prop :=
  (checkV l ≠ 0 ∧ e = .returned (.tuple #[.slice none 0 0, .int .i64 (checkV l)]) ∧ Below w.heap.size w w') ∨
  (checkV l = 0 ∧ ∃ v, e = .returned (.tuple #[v, .int .i64 0]) ∧ w'.ownsRow w.heap.size 133 2 v l.length (rowS (accV l)) ∧ Below w.heap.size w w')
theorem shapes_err {l : List Nd} {w w' : World} {c : Int} (h : checkV l = c) (hc : c ≠ 0) (hb : Below w.heap.size w w') : ShapesEnds l w (.returned (.tuple #[.slice none 0 0, .int .i64 c])) w' := by
  subst h; exact .inl ⟨hc, rfl, hb⟩
set_option maxRecDepth 100000 in
set_option maxHeartbeats 2000000 in
theorem shapes_any (v : Value) (l : List Nd) (w : World) (hR : ReadsN w v l) (hn : l.length ≤ 1000000) :
    Calls Tryz.prog 72 #[v] w (ShapesEnds l w) := by
  obtain ⟨i0, hi, hz0, hz1, hz2⟩ := info_parts info_shape
  obtain ⟨ad, cap, rfl⟩ := hR.shape
  by_cases hbig : (60 : Int) < l.length
  · have HV : Hid (checkV l = 4) := Lib.hid (checkV_many (by omega))
    clear hR hi hz0 hz1 hz2
    go_enter Tryz.func72, Tryz.ntmps72
    go_wp2_with fail
    go_ret2
    exact shapes_err HV.out (by decide) (Below.refl _ _)
  have HR := Lib.hid hR
  have HI := Lib.hid (And.intro hi (And.intro hz0 (And.intro hz1 hz2)))
  have h60 : ¬ 60 < l.length := by omega
  clear hi hz0 hz1 hz2 hR
  go_enter Tryz.func72, Tryz.ntmps72
  go_wp2_with fail
  go_loopg [4, 14] l.length (fun g s4 s14 wx => ∃ (i : Nat) (r : Acc), i + g = l.length ∧ s14 = .int .i64 i ∧ Hid (run [] (l.take i) = some r) ∧ Hid (wx.ownsRow w.heap.size 133 2 s4 i (rowS r)) ∧ Hid (Below w.heap.size w wx))
  case atStart => exact ⟨0, [], by omega, rfl, Lib.hid rfl, Lib.hid (World.ownsRow_nil _ _ _ _), Lib.hid (Below.refl _ _)⟩
  case round =>
    obtain ⟨i, r, hig, rfl, HRun, HS, HB⟩ := hrel
    obtain ⟨adS, capS, rfl⟩ := own_shape HS.out
    cases gk with
    | zero =>
      obtain rfl : i = l.length := by omega
      have hrun := HRun.out
      rw [List.take_length] at hrun
      have hlen := (run_good.1 hrun).1
      have HC := checkV_some h60 hrun
      have HA := Lib.hid (acc_is hrun)
      by_cases h0 : l.length = 0
      · have HV : Hid (checkV l = 8) := Lib.hid (by rw [HC, if_neg]; unfold exprB; simp [h0])
        clear HC hrun hlen hig
        have hz : ((l.length : Int) == 0) = true := by rw [beq_iff_eq]; omega
        clear h0
        go_wp2_with fail
        go_ret2
        exact shapes_err HV.out (by decide) HB.out
      · have hz : ((l.length : Int) == 0) = false := by rw [beq_eq_false_iff_ne]; omega
        obtain ⟨m, hm⟩ : ∃ m, l.length - 1 = m := ⟨_, rfl⟩
        obtain ⟨s, hs⟩ : ∃ s, sz r m = s := ⟨_, rfl⟩
        obtain ⟨d, hd⟩ : ∃ d, dp r m = d := ⟨_, rfl⟩
        have hg := good_sz hrun m (by omega)
        rw [hs, hd] at hg
        obtain ⟨bb, oo, cap', hv, hbb, e0, e1⟩ := (own_readsS HS.out hlen).at_ m (by omega)
        rw [hlen] at hv
        cases hv
        rw [hs] at e0
        rw [hd] at e1
        have hm1 : (l.length : Int) - 1 = m := by omega
        have hm2 : (m : Int) < l.length := by omega
        have hex : exprB l r = decide (s = l.length) := by
          unfold exprB
          rw [hm, hs]
          exact decide_eq_decide.2 ⟨fun h => h.2, fun h => ⟨by omega, h⟩⟩
        rw [hex, hm, hd] at HC
        by_cases hlt : (s : Int) < l.length
        · have HV : Hid (checkV l = 8) := Lib.hid (by rw [HC, if_neg]; simp; omega)
          clear HC hrun hlen hig hs hd hg hm hex h0
          go_wp2_with fail
          go_ret2
          exact shapes_err HV.out (by decide) HB.out
        · have hse : s = l.length := by omega
          rw [if_pos (decide_eq_true hse)] at HC
          by_cases hdeep : (20 : Int) < d
          · have HV : Hid (checkV l = 34) := Lib.hid (by rw [HC, if_pos (by omega)])
            clear HC hrun hlen hig hs hd hg hm hex h0 hse
            go_wp2_with fail
            go_ret2
            exact shapes_err HV.out (by decide) HB.out
          · have HV : Hid (checkV l = 0) := Lib.hid (by rw [HC, if_neg (by omega)])
            clear HC hrun hlen hig hs hd hg hm hex h0 hse
            go_wp2_with fail
            go_ret2
            refine .inr ⟨HV.out, _, rfl, ?_, HB.out⟩
            rw [HA.out]
            exact HS.out
    | succ g =>
      have hlt : i < l.length := by omega
      obtain ⟨b, o, cap', hv, hb, hnd⟩ := (HR.out.below HB.out).nd i hlt
      cases hv
      obtain ⟨x, hx⟩ : ∃ x, l[i] = x := ⟨_, rfl⟩
      have hrun := HRun.out
      have hlen := run_len (by omega) hrun
      have hstop : step r x = none → run [] l = none := fun h => run_stop hlt hrun (by rw [hx]; exact h)
      have hnext : ∀ p, step r x = some p → run [] (l.take (i + 1)) = some (r ++ [p]) := fun p h => run_next hlt hrun (by rw [hx]; exact h)
      have hbound : ∀ j, j < r.length → 1 ≤ sz r j ∧ sz r j ≤ j + 1 ∧ 1 ≤ dp r j ∧ dp r j ≤ sz r j := fun j hj => good_sz hrun j (by rw [List.length_take]; omega)
      rw [hx] at hnd
      have HF := Lib.hid (own_readsS HS.out hlen)
      have BH := Lib.hid (fun (W : World) h => behind_any (.slice adS i capS) r x W h (by omega) hbound)
      have HST := Lib.hid (And.intro hstop (And.intro hnext hlen))
      unfold ndVal at BH
      obtain ⟨xk, xn, xa, xb, xp⟩ := x
      simp only at BH
      obtain ⟨c0, c1, c2, c3, c4⟩ := hnd
      simp only at c0 c1 c2 c3 c4
      have hi60 : i ≤ 60 := by omega
      clear hx hrun hlen hstop hnext hbound
      go_wp2_with fail
      refine (BH.out _ (HF.out.below ((Below.refl _ _).alloc (Nat.le_refl _) _))).mono ?_
      rintro e w2 ⟨s, d, rfl, hsd, hb2⟩
      have HB2 := Lib.hid (below_box HB.out hb2)
      have HS2 := Lib.hid (own_below HS.out ((Below.refl wr.heap.size wr).alloc (Nat.le_refl _) _ |>.trans (hb2.mono (by simp))))
      have HSD := Lib.hid hsd
      clear hb2 hsd c0 c1 c2 c3 c4
      cases hq : step r ⟨xk, xn, xa, xb, xp⟩ with
      | none =>
        have HN : Hid (checkV l = 8) := Lib.hid (checkV_none h60 (HST.out.1 hq))
        have hs0 : Option.isSome (none : Option (Nat × Nat)) = false := rfl
        go_wp2_with fail
        go_ret2
        exact shapes_err HN.out (by decide) (HB2.out.alloc HB2.out.size _)
      | some p =>
        obtain ⟨p1, p2⟩ := p
        obtain ⟨rfl, rfl⟩ := HSD.out _ hq
        have HN := Lib.hid (HST.out.2.1 _ hq)
        have hs0 : Option.isSome (some (p1, p2)) = true := rfl
        clear hq
        have HS3 : Hid ((w2.alloc (Obj.cells #[.int .i64 p1, .int .i64 p2] 133)).ownsRow w.heap.size 133 2 (.slice adS i capS) i (rowS r)) := Lib.hid (HS2.out.alloc _)
        have HB3 : Hid (Below w.heap.size w (w2.alloc (Obj.cells #[.int .i64 p1, .int .i64 p2] 133))) := Lib.hid (HB2.out.alloc HB2.out.size _)
        go_wp2_with (at_builtin; refine wpList_append_own _ rfl _ _ 110 rfl w.heap.size 133 i0 (.agg #[.int .i64 0, .int .i64 0]) 2 16 Tryz.underlying110 HI.out.1 HI.out.2.1 HI.out.2.2.1 HI.out.2.2.2 rfl (by decide) _ _ _ rfl (HS3.out.alloc _) ⟨w2.heap.size + 1, 0, none⟩ 1 1 [.int .i64 p1, .int .i64 p2] rfl rfl ?c1 ?c2 ?c3 ?c4 ?c5 ?_)
        case c1 =>
          intro q u hq
          match q with
          | 0 => simp at hq; subst hq; simp [go_sem, Addr.add]
          | 1 => simp at hq; subst hq; simp [go_sem, Addr.add]
          | q + 2 => simp at hq
        case c2 => intro u hu; simp at hu; rcases hu with rfl | rfl <;> rfl
        case c3 => unfold maxLen; omega
        case c4 => omega
        case c5 => have := HB2.out.size; simp at this ⊢; omega
        intro v1 w4 hown hgrow _
        have HB4 := Lib.hid (grown_below HS3.out (HB3.out.alloc HB3.out.size _) hgrow)
        have HO4 : Hid (w4.ownsRow w.heap.size 133 2 v1 (i + 1) (rowS (r ++ [(p1, p2)]))) := Lib.hid (by
          rw [rowS_add]
          exact hown)
        clear hown hgrow
        go_wp2_with fail
        go_roundg g
        case measure => omega
        case rel => exact ⟨i + 1, r ++ [(p1, p2)], by omega, by go_num, HN, HO4, HB4⟩
end Go.Proofs.YtdinaedknlkicaaGreatDoor.Nodes

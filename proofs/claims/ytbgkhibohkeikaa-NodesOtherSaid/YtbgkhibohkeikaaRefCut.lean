/-
  Contracts of the reference of layer 4: Cut, Part.
-/
import Derived.Test.YtbgkhibohkeikaaRefDepth
import Derived.Test.YtbgkhibohkeikaaNodeRows
import Derived.Outline
namespace Go.Proofs.Ytbgkhibohkeikaa.Nodes
open Go.ChangeShapes Go.WideShapes Go.ChangeAt Go.RowKit

set_option maxRecDepth 100000 in
set_option maxHeartbeats 1000000 in
theorem refCut_any (v : Value) (l : List Nd) (m : Nat) (w : World) (hR : ReadsN w v l) (hc : checkV l = 0) (hm : m < l.length) :
    Calls Try.prog 31 #[v, .int .i64 m] w fun e w' => ∃ vo, e = .returned vo ∧ w'.ownsRow w.heap.size 23 5 vo (cutL l (sz (accV l) m) m).length (rowN (cutL l (sz (accV l) m) m)) ∧ Below w.heap.size w w' := by
  have HC := Lib.hid (check_acc hc)
  have hsz := good_sz (check_acc hc).1 m hm
  have h60 : l.length ≤ 60 := (check_acc hc).2.2.1
  have S := Lib.hid (fun (W : World) h => refSizes_any v l W h (by omega))
  obtain ⟨i0, hi, hz0, hz1, hz2⟩ := info_parts info_nd
  have HI := Lib.hid (And.intro hi (And.intro hz0 (And.intro hz1 hz2)))
  obtain ⟨ad, cap, rfl⟩ := hR.shape
  have HR := Lib.hid hR
  have hm2 : (m : Int) < l.length := by omega
  have HSM := Lib.hid (fun i (h : i < l.length) => node_small hc h)
  clear hR hc hi hz0 hz1 hz2
  go_enter Try.func31, Try.ntmps31
  go_wp2_with fail
  refine (S.out _ HR.out).mono ?_
  rintro e w2 (⟨hr, rfl, hb⟩ | ⟨r, vs, vd, hr, rfl, hs, hd, hb⟩)
  · rw [HC.out.1] at hr; cases hr
  have hra := acc_is hr
  have HB2 := Lib.hid hb
  have hlen := (run_good.1 hr).1
  rw [hra] at hsz
  obtain ⟨s, hss⟩ : ∃ s, sz r m = s := ⟨_, rfl⟩
  rw [hss] at hsz
  obtain ⟨z1, z2, _, _⟩ := hsz
  obtain ⟨gS, cS, e1, eS⟩ := own_num hs (j := m) (by omega)
  subst e1
  rw [accA_get (by omega), hss] at eS
  obtain ⟨f, hf⟩ : ∃ f, m + 1 - s = f := ⟨_, rfl⟩
  have hfi : (m : Int) + 1 - s = f := by omega
  have HG : Hid (sz (accV l) m = s) := Lib.hid (by rw [hra, hss])
  have HL := Lib.hid (cut_len (l := l) (s := s) (at_ := m) z2 hm)
  have HX := Lib.hid (fun j (hj : j < s) (h : m + 1 - s + j < l.length) => cut_next (l := l) (m := m) hj h)
  have HF := Lib.hid hf
  clear hb hs hd hr hra hlen hss
  go_wp2_with fail
  go_loopg [9, 10] s (fun g s9 s10 wx => ∃ j : Nat, j + g = s ∧ s10 = .int .i64 ((f + j : Nat) : Int) ∧ Hid (wx.ownsRow w.heap.size 23 5 s9 j (rowN ((cutL l s m).take j))) ∧ Hid (Below w.heap.size w wx))
  case atStart => exact ⟨0, by omega, by simp, Lib.hid (World.ownsRow_nil _ _ _ _), HB2⟩
  case round =>
    obtain ⟨j, hj, rfl, HO, HB⟩ := hrel
    obtain ⟨adO, capO, hO⟩ := own_shape HO.out
    subst hO
    cases gk with
    | zero =>
      obtain rfl : j = s := by omega
      have hgt : (m : Int) < ((f + j : Nat) : Int) := by omega
      go_wp2_with fail
      go_ret
      refine ⟨_, rfl, ?_, HB.out⟩
      rw [HG.out, HL.out]
      have := HO.out
      rw [List.take_of_length_le (by rw [HL.out]; exact Nat.le_refl _)] at this
      exact this
    | succ g =>
      have hlt : f + j < l.length := by omega
      have hle : ((f + j : Nat) : Int) ≤ m := by omega
      obtain ⟨b, o, cap', hv, hb, hnd⟩ := (HR.out.below HB.out).nd (f + j) hlt
      cases hv
      have hsm := HSM.out (f + j) hlt
      have hnx := HX.out j (by omega) (by rw [HF.out]; exact hlt)
      simp only [HF.out] at hnx
      obtain ⟨x, hx⟩ : ∃ x, l[f + j] = x := ⟨_, rfl⟩
      rw [hx] at hnd hsm hnx
      obtain ⟨xk, xn, xa, xb, xp⟩ := x
      have CN := Lib.hid (refCount_any xk)
      obtain ⟨c0, c1, c2, c3, c4⟩ := hnd
      simp only at c0 c1 c2 c3 c4 hsm
      obtain ⟨m1, m2, m3, m4⟩ := hsm
      rcases arity_cases xk with h0 | h0 | h0
      · have HNX : Hid ((cutL l s m).take (j + 1) = (cutL l s m).take j ++ [⟨xk, xn, xa, xb, xp⟩]) := Lib.hid (by
          rw [hnx]
          unfold shift
          simp only [h0]
          rfl)
        rw [h0] at CN
        have HO2 : Hid ((wr.alloc (Obj.cells #[.int .u8 xk, .int .i64 xn, .int .i64 xa, .int .i64 xb, .int .i64 xp] 23)).ownsRow w.heap.size 23 5 (.slice adO j capO) j (rowN ((cutL l s m).take j))) := Lib.hid (HO.out.alloc _)
        have HB3 : Hid (Below w.heap.size w (wr.alloc (Obj.cells #[.int .u8 xk, .int .i64 xn, .int .i64 xa, .int .i64 xb, .int .i64 xp] 23))) := Lib.hid (HB.out.alloc HB.out.size _)
        clear hnx hx h0
        go_wp2_with fail
        refine (CN.out _).mono ?_
        rintro e w3 ⟨rfl, rfl⟩
        go_wp2_with fail
        refine (CN.out _).mono ?_
        rintro e w3 ⟨rfl, rfl⟩
        go_wp2_with (at_builtin; refine wpList_append_own _ rfl _ _ 24 rfl w.heap.size 23 i0 (.agg #[.int .u8 0, .int .i64 0, .int .i64 0, .int .i64 0, .int .i64 0]) 5 40 Try.underlying24 HI.out.1 HI.out.2.1 HI.out.2.2.1 HI.out.2.2.2 rfl (by decide) _ _ _ rfl (HO2.out.alloc _) ⟨wr.heap.size + 1, 0, none⟩ 1 1 [.int .u8 xk, .int .i64 xn, .int .i64 xa, .int .i64 xb, .int .i64 xp] rfl rfl ?c1 ?c2 ?c3 ?c4 ?c5 ?_)
        case c1 =>
          intro q u hq
          match q with
          | 0 => simp at hq; subst hq; simp [go_sem, Addr.add]
          | 1 => simp at hq; subst hq; simp [go_sem, Addr.add]
          | 2 => simp at hq; subst hq; simp [go_sem, Addr.add]
          | 3 => simp at hq; subst hq; simp [go_sem, Addr.add]
          | 4 => simp at hq; subst hq; simp [go_sem, Addr.add]
          | q + 5 => simp at hq
        case c2 => intro u hu; simp at hu; rcases hu with rfl | rfl | rfl | rfl | rfl <;> rfl
        case c3 => unfold maxLen; omega
        case c4 => omega
        case c5 => have := HB3.out.size; simp at this ⊢; omega
        intro v1 w4 hown hgrow _
        have HB4 := Lib.hid (grown_below HO2.out (HB3.out.alloc HB3.out.size _) hgrow)
        have HO4 : Hid (w4.ownsRow w.heap.size 23 5 v1 (j + 1) (rowN ((cutL l s m).take (j + 1)))) := Lib.hid (by
          rw [HNX.out, rowN_add]
          exact hown)
        clear hown hgrow
        go_wp2_with fail
        go_roundg g
        case measure => omega
        case rel => exact ⟨j + 1, by omega, by go_num, HO4, HB4⟩
      · have HNX : Hid ((cutL l s m).take (j + 1) = (cutL l s m).take j ++ [⟨xk, xn, xa - f, xb, xp⟩]) := Lib.hid (by
          rw [hnx]
          unfold shift
          simp only [h0]
          rfl)
        rw [h0] at CN
        have HO2 : Hid ((wr.alloc (Obj.cells #[.int .u8 xk, .int .i64 xn, .int .i64 (xa - f), .int .i64 xb, .int .i64 xp] 23)).ownsRow w.heap.size 23 5 (.slice adO j capO) j (rowN ((cutL l s m).take j))) := Lib.hid (HO.out.alloc _)
        have HB3 : Hid (Below w.heap.size w (wr.alloc (Obj.cells #[.int .u8 xk, .int .i64 xn, .int .i64 (xa - f), .int .i64 xb, .int .i64 xp] 23))) := Lib.hid (HB.out.alloc HB.out.size _)
        clear hnx hx h0
        go_wp2_with fail
        refine (CN.out _).mono ?_
        rintro e w3 ⟨rfl, rfl⟩
        go_wp2_with fail
        refine (CN.out _).mono ?_
        rintro e w3 ⟨rfl, rfl⟩
        go_wp2_with (at_builtin; refine wpList_append_own _ rfl _ _ 24 rfl w.heap.size 23 i0 (.agg #[.int .u8 0, .int .i64 0, .int .i64 0, .int .i64 0, .int .i64 0]) 5 40 Try.underlying24 HI.out.1 HI.out.2.1 HI.out.2.2.1 HI.out.2.2.2 rfl (by decide) _ _ _ rfl (HO2.out.alloc _) ⟨wr.heap.size + 1, 0, none⟩ 1 1 [.int .u8 xk, .int .i64 xn, .int .i64 (xa - f), .int .i64 xb, .int .i64 xp] rfl rfl ?c1 ?c2 ?c3 ?c4 ?c5 ?_)
        case c1 =>
          intro q u hq
          match q with
          | 0 => simp at hq; subst hq; simp [go_sem, Addr.add]
          | 1 => simp at hq; subst hq; simp [go_sem, Addr.add]
          | 2 => simp at hq; subst hq; simp [go_sem, Addr.add]
          | 3 => simp at hq; subst hq; simp [go_sem, Addr.add]
          | 4 => simp at hq; subst hq; simp [go_sem, Addr.add]
          | q + 5 => simp at hq
        case c2 => intro u hu; simp at hu; rcases hu with rfl | rfl | rfl | rfl | rfl <;> rfl
        case c3 => unfold maxLen; omega
        case c4 => omega
        case c5 => have := HB3.out.size; simp at this ⊢; omega
        intro v1 w4 hown hgrow _
        have HB4 := Lib.hid (grown_below HO2.out (HB3.out.alloc HB3.out.size _) hgrow)
        have HO4 : Hid (w4.ownsRow w.heap.size 23 5 v1 (j + 1) (rowN ((cutL l s m).take (j + 1)))) := Lib.hid (by
          rw [HNX.out, rowN_add]
          exact hown)
        clear hown hgrow
        go_wp2_with fail
        go_roundg g
        case measure => omega
        case rel => exact ⟨j + 1, by omega, by go_num, HO4, HB4⟩
      · have HNX : Hid ((cutL l s m).take (j + 1) = (cutL l s m).take j ++ [⟨xk, xn, xa - f, xb - f, xp⟩]) := Lib.hid (by
          rw [hnx]
          unfold shift
          simp only [h0]
          rfl)
        rw [h0] at CN
        have HO2 : Hid ((wr.alloc (Obj.cells #[.int .u8 xk, .int .i64 xn, .int .i64 (xa - f), .int .i64 (xb - f), .int .i64 xp] 23)).ownsRow w.heap.size 23 5 (.slice adO j capO) j (rowN ((cutL l s m).take j))) := Lib.hid (HO.out.alloc _)
        have HB3 : Hid (Below w.heap.size w (wr.alloc (Obj.cells #[.int .u8 xk, .int .i64 xn, .int .i64 (xa - f), .int .i64 (xb - f), .int .i64 xp] 23))) := Lib.hid (HB.out.alloc HB.out.size _)
        clear hnx hx h0
        go_wp2_with fail
        refine (CN.out _).mono ?_
        rintro e w3 ⟨rfl, rfl⟩
        go_wp2_with fail
        refine (CN.out _).mono ?_
        rintro e w3 ⟨rfl, rfl⟩
        go_wp2_with (at_builtin; refine wpList_append_own _ rfl _ _ 24 rfl w.heap.size 23 i0 (.agg #[.int .u8 0, .int .i64 0, .int .i64 0, .int .i64 0, .int .i64 0]) 5 40 Try.underlying24 HI.out.1 HI.out.2.1 HI.out.2.2.1 HI.out.2.2.2 rfl (by decide) _ _ _ rfl (HO2.out.alloc _) ⟨wr.heap.size + 1, 0, none⟩ 1 1 [.int .u8 xk, .int .i64 xn, .int .i64 (xa - f), .int .i64 (xb - f), .int .i64 xp] rfl rfl ?c1 ?c2 ?c3 ?c4 ?c5 ?_)
        case c1 =>
          intro q u hq
          match q with
          | 0 => simp at hq; subst hq; simp [go_sem, Addr.add]
          | 1 => simp at hq; subst hq; simp [go_sem, Addr.add]
          | 2 => simp at hq; subst hq; simp [go_sem, Addr.add]
          | 3 => simp at hq; subst hq; simp [go_sem, Addr.add]
          | 4 => simp at hq; subst hq; simp [go_sem, Addr.add]
          | q + 5 => simp at hq
        case c2 => intro u hu; simp at hu; rcases hu with rfl | rfl | rfl | rfl | rfl <;> rfl
        case c3 => unfold maxLen; omega
        case c4 => omega
        case c5 => have := HB3.out.size; simp at this ⊢; omega
        intro v1 w4 hown hgrow _
        have HB4 := Lib.hid (grown_below HO2.out (HB3.out.alloc HB3.out.size _) hgrow)
        have HO4 : Hid (w4.ownsRow w.heap.size 23 5 v1 (j + 1) (rowN ((cutL l s m).take (j + 1)))) := Lib.hid (by
          rw [HNX.out, rowN_add]
          exact hown)
        clear hown hgrow
        go_wp2_with fail
        go_roundg g
        case measure => omega
        case rel => exact ⟨j + 1, by omega, by go_num, HO4, HB4⟩
def PartEnds (l : List Nd) (at_ : Int) (w : World) (e : Ending) (w' : World) : Prop :=
  ∃ v, e = .returned (.tuple #[v, .int .i64 (partV l at_).2]) ∧ w'.ownsRow w.heap.size 23 5 v (partV l at_).1.length (rowN (partV l at_).1) ∧ Below w.heap.size w w'
set_option maxRecDepth 100000 in
theorem refPart_any (v : Value) (l : List Nd) (at_ : Int) (w : World) (hR : ReadsN w v l) (hn : l.length ≤ 1000000) :
    Calls Try.prog 21 #[v, .int .i64 at_] w (PartEnds l at_ w) := by
  have S := Lib.hid (fun (W : World) h => refSize_any v l at_ W h hn)
  have HR := Lib.hid hR
  clear hR
  by_cases hc : checkV l = 0 ∧ 0 ≤ at_ ∧ at_ < l.length
  · obtain ⟨hc, h0, h1⟩ := hc
    obtain ⟨m, rfl⟩ : ∃ m : Nat, at_ = m := ⟨at_.toNat, by omega⟩
    have hm : m < l.length := by omega
    have C := Lib.hid (fun (W : World) h => refCut_any v l m W h hc hm)
    have HV := Lib.hid (part_ok hc hm)
    have HS := Lib.hid (size_ok hc hm)
    rw [HS.out] at S
    clear hc h0 h1 hm
    go_enter Try.func21, Try.ntmps21
    go_wp2_with fail
    refine (S.out _ HR.out).mono ?_
    rintro e w2 ⟨rfl, hb⟩
    have HB := Lib.hid hb
    have HR2 := Lib.hid (HR.out.below hb)
    clear hb
    go_wp2_with fail
    refine (C.out _ HR2.out).mono ?_
    rintro e w3 ⟨vo, rfl, ho, hb⟩
    have HB2 := Lib.hid (below_then HB.out hb)
    have HO := Lib.hid ho
    clear hb ho
    go_wp2_with fail
    go_ret2
    refine ⟨vo, ?_, ?_, HB2.out⟩
    · rw [HV.out]; rfl
    · rw [HV.out]
      exact own_lower HO.out HB.out.size
  · have HV : Hid (∃ er, sizeV l at_ = (0, er) ∧ partV l at_ = ([], er) ∧ er ≠ 0) := Lib.hid (by
      unfold sizeV partV
      by_cases h : checkV l = 0
      · rw [if_pos h, if_pos h, if_neg (fun h' => hc ⟨h, h'⟩), if_neg (fun h' => hc ⟨h, h'⟩)]
        exact ⟨2, rfl, rfl, by decide⟩
      · rw [if_neg h, if_neg h]
        exact ⟨_, rfl, rfl, h⟩)
    clear hc
    obtain ⟨er, h1, h2, h3⟩ := HV.out
    rw [h1] at S
    have H2 := Lib.hid h2
    have q1 : (er != 0) = true := by rw [bne_iff_ne]; exact h3
    clear h1 h2 h3 HV
    go_enter Try.func21, Try.ntmps21
    go_wp2_with fail
    refine (S.out _ HR.out).mono ?_
    rintro e w2 ⟨rfl, hb⟩
    have HB := Lib.hid hb
    clear hb
    go_wp2_with fail
    go_ret2
    refine ⟨.slice none 0 0, ?_, ?_, HB.out⟩
    · rw [H2.out]; rfl
    · rw [H2.out]; exact World.ownsRow_nil _ _ _ _
end Go.Proofs.Ytbgkhibohkeikaa.Nodes

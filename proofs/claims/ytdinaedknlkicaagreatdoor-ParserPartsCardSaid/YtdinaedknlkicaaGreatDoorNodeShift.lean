/-
  Contract of nodes.moved at the landed code (layer 4): nodes with other places of their parts.
-/
import Derived.Test.YtdinaedknlkicaaGreatDoorNodeCheck
import Derived.Test.YtdinaedknlkicaaGreatDoorNodeRows
import Derived.Outline
namespace Go.Proofs.YtdinaedknlkicaaGreatDoor.Nodes
open Go.ChangeShapes Go.WideShapes Go.ChangeAt Go.RowKit

def SmallN (x : Nd) : Prop := 1 ≤ x.kind ∧ x.kind ≤ 19 ∧ 0 ≤ x.a ∧ x.a ≤ 60 ∧ 0 ≤ x.b ∧ x.b ≤ 60
theorem map_next {f : Nd → Nd} {l : List Nd} {j : Nat} (hj : j < l.length) : (l.map f).take (j + 1) = (l.map f).take j ++ [f l[j]] := by
  rw [List.take_succ_eq_append_getElem (by rw [List.length_map]; exact hj), List.getElem_map]
set_option maxRecDepth 100000 in
set_option maxHeartbeats 1000000 in
theorem moved_any (v : Value) (l : List Nd) (d : Int) (w : World) (hR : ReadsN w v l) (hn : l.length ≤ 60) (hk : ∀ i, (h : i < l.length) → SmallN l[i]) (hd0 : -1000 ≤ d) (hd1 : d ≤ 1000) :
    Calls Tryz.prog 128 #[v, .int .i64 d] w fun e w' => ∃ vo, e = .returned vo ∧ w'.ownsRow w.heap.size 43 5 vo l.length (rowN (l.map (shift (-d)))) ∧ Below w.heap.size w w' := by
  obtain ⟨i0, hi, hz0, hz1, hz2⟩ := info_parts info_nd
  have HI := Lib.hid (And.intro hi (And.intro hz0 (And.intro hz1 hz2)))
  obtain ⟨ad, cap, rfl⟩ := hR.shape
  have HR := Lib.hid hR
  have HK := Lib.hid hk
  have HX := Lib.hid (fun j h => map_next (f := shift (-d)) (l := l) (j := j) h)
  clear hR hi hz0 hz1 hz2 hk
  go_enter Tryz.func128, Tryz.ntmps128
  go_wp2_with fail
  go_loopg [5, 12] l.length (fun g s5 s12 wx => ∃ j : Nat, j + g = l.length ∧ s12 = .int .i64 j ∧ Hid (wx.ownsRow w.heap.size 43 5 s5 j (rowN ((l.map (shift (-d))).take j))) ∧ Hid (Below w.heap.size w wx))
  case atStart => exact ⟨0, by omega, rfl, Lib.hid (World.ownsRow_nil _ _ _ _), Lib.hid (Below.refl _ _)⟩
  case round =>
    obtain ⟨j, hj, rfl, HO, HB⟩ := hrel
    obtain ⟨adO, capO, hO⟩ := own_shape HO.out
    subst hO
    cases gk with
    | zero =>
      obtain rfl : j = l.length := by omega
      clear hj
      go_wp2_with fail
      go_ret
      refine ⟨_, rfl, ?_, HB.out⟩
      have := HO.out
      rw [List.take_of_length_le (by rw [List.length_map]; exact Nat.le_refl _)] at this
      exact this
    | succ g =>
      have hlt : j < l.length := by omega
      have hlt2 : (j : Int) < l.length := by omega
      obtain ⟨b, o, cap', hv, hb, hnd⟩ := (HR.out.below HB.out).nd j hlt
      cases hv
      have hsm := HK.out j hlt
      have hnx := HX.out j hlt
      obtain ⟨x, hx⟩ : ∃ x, l[j] = x := ⟨_, rfl⟩
      rw [hx] at hnd hsm hnx
      obtain ⟨xk, xn, xa, xb, xp⟩ := x
      obtain ⟨m1, m2, m3, m4, m5, m6⟩ := hsm
      simp only at m1 m2 m3 m4 m5 m6
      have PN := Lib.hid (fun W => nodesParts_same xk W)
      rw [parts_ok m1 m2] at PN
      obtain ⟨c0, c1, c2, c3, c4⟩ := hnd
      simp only at c0 c1 c2 c3 c4
      rcases arity_cases xk with h0 | h0 | h0
      · have HNX : Hid ((l.map (shift (-d))).take (j + 1) = (l.map (shift (-d))).take j ++ [⟨xk, xn, xa, xb, xp⟩]) := Lib.hid (by
          rw [hnx]
          unfold shift
          simp only [h0, Int.sub_neg]
          rfl)
        rw [h0] at PN
        have HO2 : Hid ((wr.alloc (Obj.cells #[.int .u8 xk, .int .i64 xn, .int .i64 xa, .int .i64 xb, .int .i64 xp] 43)).ownsRow w.heap.size 43 5 (.slice adO j capO) j (rowN ((l.map (shift (-d))).take j))) := Lib.hid (HO.out.alloc _)
        have HB3 : Hid (Below w.heap.size w (wr.alloc (Obj.cells #[.int .u8 xk, .int .i64 xn, .int .i64 xa, .int .i64 xb, .int .i64 xp] 43))) := Lib.hid (HB.out.alloc HB.out.size _)
        clear hnx hx h0
        go_wp2_with fail
        refine (PN.out _).mono ?_
        rintro e w3 ⟨rfl, rfl⟩
        go_wp2_with (at_builtin; refine wpList_append_own _ rfl _ _ 23 rfl w.heap.size 43 i0 (.agg #[.int .u8 0, .int .i64 0, .int .i64 0, .int .i64 0, .int .i64 0]) 5 40 Tryz.underlying23 HI.out.1 HI.out.2.1 HI.out.2.2.1 HI.out.2.2.2 rfl (by decide) _ _ _ rfl (HO2.out.alloc _) ⟨wr.heap.size + 1, 0, none⟩ 1 1 [.int .u8 xk, .int .i64 xn, .int .i64 xa, .int .i64 xb, .int .i64 xp] rfl rfl ?c1 ?c2 ?c3 ?c4 ?c5 ?_)
        case c1 =>
          intro q u hq
          match q with
          | 0 => simp at hq; subst hq; simp [go_sem, Addr.add]
          | 1 => simp at hq; subst hq; simp [go_sem, Addr.add]
          | 2 => simp at hq; subst hq; simp [go_sem, Addr.add]
          | 3 => simp at hq; subst hq; simp [go_sem, Addr.add]
          | 4 => simp at hq; subst hq; simp [go_sem, Addr.add]
          | q + 5 => simp at hq
        case c2 => intro u hu; simp at hu; rcases hu with rfl | rfl | rfl | rfl | rfl <;> rfl
        case c3 => unfold maxLen; omega
        case c4 => omega
        case c5 => have := HB3.out.size; simp at this ⊢; omega
        intro v1 w4 hown hgrow _
        have HB4 := Lib.hid (grown_below HO2.out (HB3.out.alloc HB3.out.size _) hgrow)
        have HO4 : Hid (w4.ownsRow w.heap.size 43 5 v1 (j + 1) (rowN ((l.map (shift (-d))).take (j + 1)))) := Lib.hid (by
          rw [HNX.out, rowN_add]
          exact hown)
        clear hown hgrow
        go_wp2_with fail
        go_roundg g
        case measure => omega
        case rel => exact ⟨j + 1, by omega, by go_num, HO4, HB4⟩
      · have HNX : Hid ((l.map (shift (-d))).take (j + 1) = (l.map (shift (-d))).take j ++ [⟨xk, xn, (xa + d), xb, xp⟩]) := Lib.hid (by
          rw [hnx]
          unfold shift
          simp only [h0, Int.sub_neg]
          rfl)
        rw [h0] at PN
        have HO2 : Hid ((wr.alloc (Obj.cells #[.int .u8 xk, .int .i64 xn, .int .i64 (xa + d), .int .i64 xb, .int .i64 xp] 43)).ownsRow w.heap.size 43 5 (.slice adO j capO) j (rowN ((l.map (shift (-d))).take j))) := Lib.hid (HO.out.alloc _)
        have HB3 : Hid (Below w.heap.size w (wr.alloc (Obj.cells #[.int .u8 xk, .int .i64 xn, .int .i64 (xa + d), .int .i64 xb, .int .i64 xp] 43))) := Lib.hid (HB.out.alloc HB.out.size _)
        clear hnx hx h0
        go_wp2_with fail
        refine (PN.out _).mono ?_
        rintro e w3 ⟨rfl, rfl⟩
        go_wp2_with (at_builtin; refine wpList_append_own _ rfl _ _ 23 rfl w.heap.size 43 i0 (.agg #[.int .u8 0, .int .i64 0, .int .i64 0, .int .i64 0, .int .i64 0]) 5 40 Tryz.underlying23 HI.out.1 HI.out.2.1 HI.out.2.2.1 HI.out.2.2.2 rfl (by decide) _ _ _ rfl (HO2.out.alloc _) ⟨wr.heap.size + 1, 0, none⟩ 1 1 [.int .u8 xk, .int .i64 xn, .int .i64 (xa + d), .int .i64 xb, .int .i64 xp] rfl rfl ?c1 ?c2 ?c3 ?c4 ?c5 ?_)
        case c1 =>
          intro q u hq
          match q with
          | 0 => simp at hq; subst hq; simp [go_sem, Addr.add]
          | 1 => simp at hq; subst hq; simp [go_sem, Addr.add]
          | 2 => simp at hq; subst hq; simp [go_sem, Addr.add]
          | 3 => simp at hq; subst hq; simp [go_sem, Addr.add]
          | 4 => simp at hq; subst hq; simp [go_sem, Addr.add]
          | q + 5 => simp at hq
        case c2 => intro u hu; simp at hu; rcases hu with rfl | rfl | rfl | rfl | rfl <;> rfl
        case c3 => unfold maxLen; omega
        case c4 => omega
        case c5 => have := HB3.out.size; simp at this ⊢; omega
        intro v1 w4 hown hgrow _
        have HB4 := Lib.hid (grown_below HO2.out (HB3.out.alloc HB3.out.size _) hgrow)
        have HO4 : Hid (w4.ownsRow w.heap.size 43 5 v1 (j + 1) (rowN ((l.map (shift (-d))).take (j + 1)))) := Lib.hid (by
          rw [HNX.out, rowN_add]
          exact hown)
        clear hown hgrow
        go_wp2_with fail
        go_roundg g
        case measure => omega
        case rel => exact ⟨j + 1, by omega, by go_num, HO4, HB4⟩
      · have HNX : Hid ((l.map (shift (-d))).take (j + 1) = (l.map (shift (-d))).take j ++ [⟨xk, xn, (xa + d), (xb + d), xp⟩]) := Lib.hid (by
          rw [hnx]
          unfold shift
          simp only [h0, Int.sub_neg]
          rfl)
        rw [h0] at PN
        have HO2 : Hid ((wr.alloc (Obj.cells #[.int .u8 xk, .int .i64 xn, .int .i64 (xa + d), .int .i64 (xb + d), .int .i64 xp] 43)).ownsRow w.heap.size 43 5 (.slice adO j capO) j (rowN ((l.map (shift (-d))).take j))) := Lib.hid (HO.out.alloc _)
        have HB3 : Hid (Below w.heap.size w (wr.alloc (Obj.cells #[.int .u8 xk, .int .i64 xn, .int .i64 (xa + d), .int .i64 (xb + d), .int .i64 xp] 43))) := Lib.hid (HB.out.alloc HB.out.size _)
        clear hnx hx h0
        go_wp2_with fail
        refine (PN.out _).mono ?_
        rintro e w3 ⟨rfl, rfl⟩
        go_wp2_with (at_builtin; refine wpList_append_own _ rfl _ _ 23 rfl w.heap.size 43 i0 (.agg #[.int .u8 0, .int .i64 0, .int .i64 0, .int .i64 0, .int .i64 0]) 5 40 Tryz.underlying23 HI.out.1 HI.out.2.1 HI.out.2.2.1 HI.out.2.2.2 rfl (by decide) _ _ _ rfl (HO2.out.alloc _) ⟨wr.heap.size + 1, 0, none⟩ 1 1 [.int .u8 xk, .int .i64 xn, .int .i64 (xa + d), .int .i64 (xb + d), .int .i64 xp] rfl rfl ?c1 ?c2 ?c3 ?c4 ?c5 ?_)
        case c1 =>
          intro q u hq
          match q with
          | 0 => simp at hq; subst hq; simp [go_sem, Addr.add]
          | 1 => simp at hq; subst hq; simp [go_sem, Addr.add]
          | 2 => simp at hq; subst hq; simp [go_sem, Addr.add]
          | 3 => simp at hq; subst hq; simp [go_sem, Addr.add]
          | 4 => simp at hq; subst hq; simp [go_sem, Addr.add]
          | q + 5 => simp at hq
        case c2 => intro u hu; simp at hu; rcases hu with rfl | rfl | rfl | rfl | rfl <;> rfl
        case c3 => unfold maxLen; omega
        case c4 => omega
        case c5 => have := HB3.out.size; simp at this ⊢; omega
        intro v1 w4 hown hgrow _
        have HB4 := Lib.hid (grown_below HO2.out (HB3.out.alloc HB3.out.size _) hgrow)
        have HO4 : Hid (w4.ownsRow w.heap.size 43 5 v1 (j + 1) (rowN ((l.map (shift (-d))).take (j + 1)))) := Lib.hid (by
          rw [HNX.out, rowN_add]
          exact hown)
        clear hown hgrow
        go_wp2_with fail
        go_roundg g
        case measure => omega
        case rel => exact ⟨j + 1, by omega, by go_num, HO4, HB4⟩
theorem slice_reads {w : World} {b o cap' : Nat} {l : List Nd} {i n : Nat} (hb : b < w.heap.size) (h : NdsAt w b o l) (hn : i + n ≤ l.length) (hc : n ≤ cap') : ReadsN w (.slice (some ⟨b, o + i * 5, none⟩) n cap') ((l.drop i).take n) := by
  have hl : ((l.drop i).take n).length = n := by rw [List.length_take, List.length_drop]; omega
  refine .inr ⟨b, o + i * 5, cap' - n, by rw [hl, Nat.add_sub_cancel' hc], hb, fun j x hx => ?_⟩
  have hj : j < n := by have := (List.getElem?_eq_some_iff.1 hx).1; omega
  rw [List.getElem?_take_of_lt hj, List.getElem?_drop] at hx
  have := h (i + j) x hx
  rwa [show o + (i + j) * 5 = o + i * 5 + j * 5 by omega] at this
theorem small_nodes {l : List Nd} (h : checkV l = 0) {i : Nat} (hi : i < l.length) : SmallN l[i] := by
  have h60 := (check_acc h).2.2.1
  obtain ⟨k1, k2, _, _, _, _, hc⟩ := node_facts h hi
  rcases hc with ⟨_, ha, hb, _⟩ | ⟨_, _, ha, hb, _⟩ | ⟨_, _, _, ha, hb, _⟩ <;> refine ⟨k1, k2, ?_, ?_, ?_, ?_⟩ <;> omega
theorem cut_is (l : List Nd) (f s m : Nat) (hf : m + 1 - s = f) : cutL l s m = ((l.drop f).take s).map (shift (-(-(f : Int)))) := by
  subst hf; unfold cutL; rw [Int.neg_neg]
end Go.Proofs.YtdinaedknlkicaaGreatDoor.Nodes

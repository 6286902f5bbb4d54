/-
  Contracts of the helpers of layer 7's statements: leaf, two, is, alive.
-/
import Derived.Test.YtflmpjejlkhpcaaDoorEvalUses
import Derived.Test.YtflmpjejlkhpcaaDoorKindHelp
import Derived.Outline
namespace Go.Proofs.YtflmpjejlkhpcaaDoor.Nodes
open Go.ChangeShapes Go.WideShapes Go.ChangeAt Go.RowKit

def lf (k n : Int) : List Nd := [⟨k, n, 0, 0, 0⟩]
theorem leaf_any (k n : Int) (w : World) : Calls Tryd.prog 13 #[.int .u8 k, .int .i64 n] w fun e w' => ∃ vo, e = .returned vo ∧ ReadsN w' vo (lf k n) ∧ Below w.heap.size w w' := by
  have HR := Lib.hid (lit_reads_in (lf k n) 1 rfl w _ rfl _ (Below.refl _ _))
  go_enter Tryd.func13, Tryd.ntmps13
  go_wp2_with fail
  go_ret
  exact ⟨_, rfl, HR.out, refl_alloc _ _⟩
theorem two_any (k : Int) (va vb : Value) (a b : List Nd) (w : World) (ha : ReadsN w va a) (hb : ReadsN w vb b) (sa : PartSmall a) (sb : PartSmall b) : Calls Tryd.prog 12 #[.int .u8 k, va, vb] w fun e w' => ∃ vo, e = .returned vo ∧ ReadsN w' vo (madeL k 0 0 [a, b]) ∧ Below w.heap.size w w' := by
  have H : Hid (Calls Tryd.prog 14 #[.int .u8 k, .int .i64 0, .int .i64 0, .slice (some ⟨w.heap.size, 0, none⟩) 2 2] (w.alloc (.cells #[va, vb] 32)) fun e w' => ∃ vo, e = .returned vo ∧ ReadsN w' vo (madeL k 0 0 [a, b]) ∧ Below w.heap.size w w') := Lib.hid (by
    refine (refMade_any k 0 0 _ [a, b] _ (pair_reads ha hb _ rfl) (Nat.le_refl 2) (fun p hp => by simp at hp; rcases hp with rfl | rfl; exact sa; exact sb)).mono ?_
    rintro e w' ⟨vo, rfl, ho, hb⟩
    exact ⟨vo, rfl, own_readsN ho, below_box (Below.refl _ _) hb⟩)
  obtain ⟨ada, capa, rfl⟩ := ha.shape
  obtain ⟨adb, capb, rfl⟩ := hb.shape
  clear ha hb sa sb
  go_enter Tryd.func12, Tryd.ntmps12
  go_wp2_with fail
  refine H.out.mono ?_
  rintro e w' ⟨vo, rfl, hr, hb⟩
  have HR := Lib.hid hr
  have HB := Lib.hid hb
  clear hr hb
  go_wp2_with fail
  go_ret
  exact ⟨_, rfl, HR.out, HB.out⟩
/-- The chapter's record. -/
def chR : Rec := ⟨3, 10, -4⟩
theorem is_any (v : Value) (l : List Nd) (want : Int) (w : World) (hf : KindFix w) (hR : ReadsN w v l) (hn : l.length ≤ 1000000) (h0 : (ofV l).2.2 = 0) (hv : ofE chR l = want) :
    Calls Tryd.prog 15 #[v, .int .i64 want] w fun e w' => e = .returned (.bool true) ∧ Below w.heap.size w w' := by
  have O := Lib.hid (evalsOf_any chR v l w hf hR hn)
  rw [h0, hv] at O
  unfold recVal chR at O
  simp only at O
  have q : (want == want) = true := by simp
  clear hf hR hv h0
  go_enter Tryd.func15, Tryd.ntmps15
  go_wp2_with fail
  refine O.out.mono ?_
  rintro e w1 ⟨rfl, hb⟩
  have HB := Lib.hid hb
  clear hb
  go_wp2_with fail
  go_ret
  exact ⟨rfl, HB.out⟩
set_option maxRecDepth 100000 in
set_option maxHeartbeats 2000000 in
theorem alive7_any (w : World) (hf : KindFix w) : Calls Tryd.prog 17 #[] w fun e w' => e = .returned (.bool true) ∧ Below w.heap.size w w' := by
  have LF := Lib.hid leaf_any
  have TW := Lib.hid two_any
  have MK := Lib.hid (fun k va l (W : World) (hr : ReadsP W va [l]) (hs : PartSmall l) => refMade_any k 0 0 va [l] W hr (by simp) (fun p hp => by simp at hp; subst hp; exact hs))
  have IS := Lib.hid (fun v l want (W : World) (h : Below w.heap.size w W) (hr : ReadsN W v l) hn h0 hv => is_any v l want W (hf.below h) hr hn h0 hv)
  have HB0 := Lib.hid (Below.refl w.heap.size w)
  clear hf
  go_enter Tryd.func17, Tryd.ntmps17
  go_wp2_with fail
  refine (LF.out 4 0 _).mono ?_
  rintro e w1 ⟨va, rfl, hr, hb⟩
  have HB1 := Lib.hid (below_then HB0.out hb)
  have Ra1 : Hid (ReadsN w1 va (lf 4 0)) := Lib.hid hr
  clear hb hr
  go_wp2_with fail
  refine (LF.out 1 0 _).mono ?_
  rintro e w2 ⟨vb, rfl, hr, hb⟩
  have HB2 := Lib.hid (below_then HB1.out hb)
  have Ra2 := Lib.hid (Ra1.out.below hb)
  have Rb2 : Hid (ReadsN w2 vb (lf 1 0)) := Lib.hid hr
  clear hb hr
  go_wp2_with fail
  refine (TW.out 12 va vb _ _ _ Ra2.out Rb2.out (by unfold PartSmall; decide +kernel) (by unfold PartSmall; decide +kernel)).mono ?_
  rintro e w3 ⟨vless, rfl, hr, hb⟩
  have HB3 := Lib.hid (below_then HB2.out hb)
  have Rless3 : Hid (ReadsN w3 vless (madeL 12 0 0 [(lf 4 0), (lf 1 0)])) := Lib.hid hr
  clear hb hr
  obtain ⟨adless, capless, hvv⟩ := Rless3.out.shape
  rw [show ((madeL 12 0 0 [(lf 4 0), (lf 1 0)])).length = 3 by decide +kernel] at hvv
  subst hvv
  go_wp2_with fail
  refine (MK.out 6 _ _ _ (one_reads Rless3.out w3.heap.size rfl) (by unfold PartSmall; decide +kernel)).mono ?_
  rintro e w4 ⟨vnot, rfl, ho, hb⟩
  have HB4 := Lib.hid (below_box HB3.out hb)
  have Rnot4 : Hid (ReadsN w4 vnot (madeL 6 0 0 [(madeL 12 0 0 [(lf 4 0), (lf 1 0)])])) := Lib.hid (own_readsN ho)
  clear hb ho
  go_wp2_with fail
  refine (LF.out 4 0 _).mono ?_
  rintro e w5 ⟨va, rfl, hr, hb⟩
  have HB5 := Lib.hid (below_then HB4.out hb)
  have Rnot5 := Lib.hid (Rnot4.out.below hb)
  have Ra5 : Hid (ReadsN w5 va (lf 4 0)) := Lib.hid hr
  clear hb hr
  go_wp2_with fail
  refine (LF.out 1 2 _).mono ?_
  rintro e w6 ⟨vb, rfl, hr, hb⟩
  have HB6 := Lib.hid (below_then HB5.out hb)
  have Rnot6 := Lib.hid (Rnot5.out.below hb)
  have Ra6 := Lib.hid (Ra5.out.below hb)
  have Rb6 : Hid (ReadsN w6 vb (lf 1 2)) := Lib.hid hr
  clear hb hr
  go_wp2_with fail
  refine (LF.out 2 0 _).mono ?_
  rintro e w7 ⟨vc, rfl, hr, hb⟩
  have HB7 := Lib.hid (below_then HB6.out hb)
  have Rnot7 := Lib.hid (Rnot6.out.below hb)
  have Ra7 := Lib.hid (Ra6.out.below hb)
  have Rb7 := Lib.hid (Rb6.out.below hb)
  have Rc7 : Hid (ReadsN w7 vc (lf 2 0)) := Lib.hid hr
  clear hb hr
  go_wp2_with fail
  refine (TW.out 7 vb vc _ _ _ Rb7.out Rc7.out (by unfold PartSmall; decide +kernel) (by unfold PartSmall; decide +kernel)).mono ?_
  rintro e w8 ⟨vd, rfl, hr, hb⟩
  have HB8 := Lib.hid (below_then HB7.out hb)
  have Rnot8 := Lib.hid (Rnot7.out.below hb)
  have Ra8 := Lib.hid (Ra7.out.below hb)
  have Rd8 : Hid (ReadsN w8 vd (madeL 7 0 0 [(lf 1 2), (lf 2 0)])) := Lib.hid hr
  clear hb hr
  go_wp2_with fail
  refine (TW.out 8 va vd _ _ _ Ra8.out Rd8.out (by unfold PartSmall; decide +kernel) (by unfold PartSmall; decide +kernel)).mono ?_
  rintro e w9 ⟨ve, rfl, hr, hb⟩
  have HB9 := Lib.hid (below_then HB8.out hb)
  have Rnot9 := Lib.hid (Rnot8.out.below hb)
  have Re9 : Hid (ReadsN w9 ve (madeL 8 0 0 [(lf 4 0), (madeL 7 0 0 [(lf 1 2), (lf 2 0)])])) := Lib.hid hr
  clear hb hr
  go_wp2_with fail
  refine (IS.out _ _ 2 _ HB9.out Re9.out (by decide +kernel) (by decide +kernel) (by decide +kernel)).mono ?_
  rintro e w10 ⟨rfl, hb⟩
  have HB10 := Lib.hid (below_then HB9.out hb)
  have Rnot10 := Lib.hid (Rnot9.out.below hb)
  clear hb
  go_wp2_with fail
  refine (LF.out 3 0 _).mono ?_
  rintro e w11 ⟨va, rfl, hr, hb⟩
  have HB11 := Lib.hid (below_then HB10.out hb)
  have Rnot11 := Lib.hid (Rnot10.out.below hb)
  have Ra11 : Hid (ReadsN w11 va (lf 3 0)) := Lib.hid hr
  clear hb hr
  go_wp2_with fail
  refine (LF.out 1 1 _).mono ?_
  rintro e w12 ⟨vb, rfl, hr, hb⟩
  have HB12 := Lib.hid (below_then HB11.out hb)
  have Rnot12 := Lib.hid (Rnot11.out.below hb)
  have Ra12 := Lib.hid (Ra11.out.below hb)
  have Rb12 : Hid (ReadsN w12 vb (lf 1 1)) := Lib.hid hr
  clear hb hr
  go_wp2_with fail
  refine (TW.out 11 va vb _ _ _ Ra12.out Rb12.out (by unfold PartSmall; decide +kernel) (by unfold PartSmall; decide +kernel)).mono ?_
  rintro e w13 ⟨vc, rfl, hr, hb⟩
  have HB13 := Lib.hid (below_then HB12.out hb)
  have Rnot13 := Lib.hid (Rnot12.out.below hb)
  have Rc13 : Hid (ReadsN w13 vc (madeL 11 0 0 [(lf 3 0), (lf 1 1)])) := Lib.hid hr
  clear hb hr
  go_wp2_with fail
  refine (IS.out _ _ 5 _ HB13.out Rc13.out (by decide +kernel) (by decide +kernel) (by decide +kernel)).mono ?_
  rintro e w14 ⟨rfl, hb⟩
  have HB14 := Lib.hid (below_then HB13.out hb)
  have Rnot14 := Lib.hid (Rnot13.out.below hb)
  clear hb
  go_wp2_with fail
  refine (IS.out _ _ 0 _ HB14.out Rnot14.out (by decide +kernel) (by decide +kernel) (by decide +kernel)).mono ?_
  rintro e w15 ⟨rfl, hb⟩
  have HB15 := Lib.hid (below_then HB14.out hb)
  clear hb
  go_wp2_with fail
  refine (LF.out 4 0 _).mono ?_
  rintro e w16 ⟨va, rfl, hr, hb⟩
  have HB16 := Lib.hid (below_then HB15.out hb)
  have Ra16 : Hid (ReadsN w16 va (lf 4 0)) := Lib.hid hr
  clear hb hr
  go_wp2_with fail
  refine (LF.out 2 0 _).mono ?_
  rintro e w17 ⟨vb, rfl, hr, hb⟩
  have HB17 := Lib.hid (below_then HB16.out hb)
  have Ra17 := Lib.hid (Ra16.out.below hb)
  have Rb17 : Hid (ReadsN w17 vb (lf 2 0)) := Lib.hid hr
  clear hb hr
  go_wp2_with fail
  refine (TW.out 12 va vb _ _ _ Ra17.out Rb17.out (by unfold PartSmall; decide +kernel) (by unfold PartSmall; decide +kernel)).mono ?_
  rintro e w18 ⟨vc, rfl, hr, hb⟩
  have HB18 := Lib.hid (below_then HB17.out hb)
  have Rc18 : Hid (ReadsN w18 vc (madeL 12 0 0 [(lf 4 0), (lf 2 0)])) := Lib.hid hr
  clear hb hr
  go_wp2_with fail
  refine (IS.out _ _ 1 _ HB18.out Rc18.out (by decide +kernel) (by decide +kernel) (by decide +kernel)).mono ?_
  rintro e w19 ⟨rfl, hb⟩
  have HB19 := Lib.hid (below_then HB18.out hb)
  clear hb
  go_wp2_with fail
  go_ret
  exact ⟨rfl, HB19.out⟩
end Go.Proofs.YtflmpjejlkhpcaaDoor.Nodes

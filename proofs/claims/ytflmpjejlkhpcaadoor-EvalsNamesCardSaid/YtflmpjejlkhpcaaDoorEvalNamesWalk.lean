/-
  Walk of the statement EvalsNames: the chapter's examples, leaves, expressions that are not typed, and errors.
-/
import Derived.Test.YtflmpjejlkhpcaaDoorEvalHelp
import Derived.Test.YtflmpjejlkhpcaaDoorRefVals
import Derived.Test.YtflmpjejlkhpcaaDoorNodeMake
import Derived.Outline
namespace Go.Proofs.YtflmpjejlkhpcaaDoor.Nodes
open Go.ChangeShapes Go.WideShapes Go.ChangeAt Go.RowKit

def zR : Rec := ⟨0, 0, 0⟩
theorem nm_nil : ofE zR [] = 0 ∧ (ofV []).2.2 = 8 := by decide +kernel
theorem nm_zero : (ofV [zeroN]).2.2 = 8 ∧ allE zR [zeroN] = [] := by decide +kernel
theorem nm_wrong : ofE zR (madeL 18 0 0 [(lf 2 0), (lf 2 0)]) = 0 ∧ (ofV (madeL 18 0 0 [(lf 2 0), (lf 2 0)])).2.2 = 42 ∧ allE zR (madeL 18 0 0 [(lf 2 0), (lf 2 0)]) = [] ∧ useE 2 (madeL 18 0 0 [(lf 2 0), (lf 2 0)]) = false ∧ useE 3 (madeL 18 0 0 [(lf 2 0), (lf 2 0)]) = false ∧ useE 4 (madeL 18 0 0 [(lf 2 0), (lf 2 0)]) = false := by decide +kernel
theorem nm_vals : (ofV (madeL 9 0 0 [(madeL 5 0 0 [(lf 1 9223372036854775807)]), (lf 1 2)])).2.2 = 0 ∧ allE zR (madeL 9 0 0 [(madeL 5 0 0 [(lf 1 9223372036854775807)]), (lf 1 2)]) = [9223372036854775807, -9223372036854775807, 2, 9223372036854775807] := by decide +kernel
theorem nm_uses : (ofV (madeL 7 0 0 [(lf 2 0), (lf 3 0)])).2.2 = 0 ∧ useE 2 (madeL 7 0 0 [(lf 2 0), (lf 3 0)]) = true ∧ useE 3 (madeL 7 0 0 [(lf 2 0), (lf 3 0)]) = true ∧ useE 4 (madeL 7 0 0 [(lf 2 0), (lf 3 0)]) = false := by decide +kernel
theorem nm_many : (ofV (List.replicate 61 zeroN)).2.2 = 4 ∧ ∀ k, useE k (List.replicate 61 zeroN) = false := by
  have h : checkV (List.replicate 61 zeroN) = 4 := checkV_many (by rw [List.length_replicate]; decide)
  have ho := of_bad (l := List.replicate 61 zeroN) (by rw [h]; decide)
  rw [h] at ho
  have h4 : (ofV (List.replicate 61 zeroN)).2.2 = 4 := by rw [ho]
  exact ⟨h4, fun k => by unfold useE; rw [if_neg (by rw [h4]; decide)]⟩
set_option maxRecDepth 100000 in
set_option maxHeartbeats 8000000 in
theorem enames_walk (w : World) (hf : KindFix w) : Calls Tryd.prog 3 #[] w fun e w' => e = .returned (.bool true) ∧ Below w.heap.size w w' := by
  have LF := Lib.hid leaf_any
  have TW := Lib.hid two_any
  have MK := Lib.hid (fun k va l (W : World) (hr : ReadsP W va [l]) (hs : PartSmall l) => refMade_any k 0 0 va [l] W hr (by simp) (fun p hp => by simp at hp; subst hp; exact hs))
  have IS := Lib.hid (fun v l want (W : World) (h : Below w.heap.size w W) (hr : ReadsN W v l) hn h0 hv => is_any v l want W (hf.below h) hr hn h0 hv)
  have EO := Lib.hid (fun v l (W : World) (h : Below w.heap.size w W) (hr : ReadsN W v l) (hn : l.length ≤ 1000000) => evalsOf_any zR v l W (hf.below h) hr hn)
  have EA := Lib.hid (fun v l (W : World) (h : Below w.heap.size w W) (hr : ReadsN W v l) (hn : l.length ≤ 1000000) => evalsAll_any zR v l W (hf.below h) hr hn)
  have EU := Lib.hid (fun v l (W : World) (h : Below w.heap.size w W) (hr : ReadsN W v l) (hn : l.length ≤ 1000000) => evalsUses_any v l W (hf.below h) hr hn)
  have AL := Lib.hid (fun (W : World) (h : Below w.heap.size w W) => alive7_any W (hf.below h))
  unfold AllVals at EA
  unfold UsesIs at EU
  unfold recVal at EO EA
  have HB0 := Lib.hid (Below.refl w.heap.size w)
  clear hf
  go_enter Tryd.func3, Tryd.ntmps3
  have O0 := Lib.hid (EO.out (.slice none 0 0) [] _ HB0.out (.inl ⟨rfl, _, _, rfl⟩) (by decide))
  rw [nm_nil.1, nm_nil.2] at O0
  go_wp2_with fail
  refine (O0.out).mono ?_
  rintro e w1 ⟨rfl, hb⟩
  have HB1 := Lib.hid (below_then HB0.out hb)
  clear hb
  have Z1 := lit_reads_in [zeroN] 1 rfl w1 _ rfl _ (Below.refl _ _)
  have HBz := Lib.hid (HB1.out.alloc HB1.out.size (Obj.cells (rowN [zeroN]).toArray 31))
  have O1 := Lib.hid (EA.out _ [zeroN] _ HBz.out Z1 (by decide))
  rw [nm_zero.1, nm_zero.2] at O1
  clear Z1
  go_wp2_with fail
  refine (O1.out).mono ?_
  rintro e w2 ⟨vz, rfl, hoz, hb⟩
  have HB2 := Lib.hid (below_then HBz.out hb)
  obtain ⟨adz, capz, hvz⟩ := own_shape hoz
  subst hvz
  clear hb hoz
  obtain ⟨wM, hmk, hown, hbm⟩ := make_nds w2 61 (by decide)
  have hmk2 : (Instr.makeSlice 32 (.int .i64 61) (.int .i64 61)).run Tryd.prog w2 = .ok (.slice (some ⟨w2.heap.size, 0, none⟩) 61 61) wM := hmk
  have HM := Lib.hid (own_readsN (l := List.replicate 61 zeroN) (by rw [List.length_replicate]; exact hown))
  have HBM := Lib.hid (below_then HB2.out hbm)
  have O2 := Lib.hid (EU.out _ (List.replicate 61 zeroN) _ HBM.out HM.out (by rw [List.length_replicate]; decide))
  rw [nm_many.2, nm_many.2, nm_many.2, nm_many.1] at O2
  clear hmk hown hbm
  go_wp2_with fail
  refine (O2.out).mono ?_
  rintro e w3 ⟨rfl, hb⟩
  have HB3 := Lib.hid (below_then HBM.out hb)
  clear hb hmk2
  go_wp2_with fail
  refine (LF.out 2 0 _).mono ?_
  rintro e w4 ⟨va, rfl, hr, hb⟩
  have HB4 := Lib.hid (below_then HB3.out hb)
  have Ra4 : Hid (ReadsN w4 va (lf 2 0)) := Lib.hid hr
  clear hb hr
  go_wp2_with fail
  refine (LF.out 2 0 _).mono ?_
  rintro e w5 ⟨vb, rfl, hr, hb⟩
  have HB5 := Lib.hid (below_then HB4.out hb)
  have Ra5 := Lib.hid (Ra4.out.below hb)
  have Rb5 : Hid (ReadsN w5 vb (lf 2 0)) := Lib.hid hr
  clear hb hr
  go_wp2_with fail
  refine (TW.out 18 va vb _ _ _ Ra5.out Rb5.out (by unfold PartSmall; decide +kernel) (by unfold PartSmall; decide +kernel)).mono ?_
  rintro e w6 ⟨vwr, rfl, hr, hb⟩
  have HB6 := Lib.hid (below_then HB5.out hb)
  have Rwr6 : Hid (ReadsN w6 vwr (madeL 18 0 0 [(lf 2 0), (lf 2 0)])) := Lib.hid hr
  clear hb hr
  have O6 := Lib.hid (EO.out _ _ _ HB6.out Rwr6.out (by decide +kernel))
  rw [nm_wrong.1, nm_wrong.2.1] at O6
  go_wp2_with fail
  refine (O6.out).mono ?_
  rintro e w7 ⟨rfl, hb⟩
  have HB7 := Lib.hid (below_then HB6.out hb)
  have Rwr7 := Lib.hid (Rwr6.out.below hb)
  clear hb
  have O7 := Lib.hid (EA.out _ _ _ HB7.out Rwr7.out (by decide +kernel))
  rw [nm_wrong.2.1, nm_wrong.2.2.1] at O7
  go_wp2_with fail
  refine (O7.out).mono ?_
  rintro e w8 ⟨vx, rfl, hox, hb⟩
  have HB8 := Lib.hid (below_then HB7.out hb)
  have Rwr8 := Lib.hid (Rwr7.out.below hb)
  obtain ⟨adx, capx, hvx⟩ := own_shape hox
  subst hvx
  clear hb hox
  have O8 := Lib.hid (EU.out _ _ _ HB8.out Rwr8.out (by decide +kernel))
  rw [nm_wrong.2.1, nm_wrong.2.2.2.1, nm_wrong.2.2.2.2.1, nm_wrong.2.2.2.2.2] at O8
  go_wp2_with fail
  refine (O8.out).mono ?_
  rintro e w9 ⟨rfl, hb⟩
  have HB9 := Lib.hid (below_then HB8.out hb)
  clear hb
  go_wp2_with fail
  refine (LF.out 1 9223372036854775807 _).mono ?_
  rintro e w10 ⟨va, rfl, hr, hb⟩
  have HB10 := Lib.hid (below_then HB9.out hb)
  have Ra10 : Hid (ReadsN w10 va (lf 1 9223372036854775807)) := Lib.hid hr
  clear hb hr
  obtain ⟨ada, capa, hvv⟩ := Ra10.out.shape
  rw [show ((lf 1 9223372036854775807)).length = 1 by decide +kernel] at hvv
  subst hvv
  go_wp2_with fail
  refine (MK.out 5 _ _ _ (one_reads Ra10.out w10.heap.size rfl) (by unfold PartSmall; decide +kernel)).mono ?_
  rintro e w11 ⟨vneg, rfl, ho, hb⟩
  have HB11 := Lib.hid (below_box HB10.out hb)
  have Rneg11 : Hid (ReadsN w11 vneg (madeL 5 0 0 [(lf 1 9223372036854775807)])) := Lib.hid (own_readsN ho)
  clear hb ho
  go_wp2_with fail
  refine (LF.out 1 2 _).mono ?_
  rintro e w12 ⟨vb, rfl, hr, hb⟩
  have HB12 := Lib.hid (below_then HB11.out hb)
  have Rneg12 := Lib.hid (Rneg11.out.below hb)
  have Rb12 : Hid (ReadsN w12 vb (lf 1 2)) := Lib.hid hr
  clear hb hr
  go_wp2_with fail
  refine (TW.out 9 vneg vb _ _ _ Rneg12.out Rb12.out (by unfold PartSmall; decide +kernel) (by unfold PartSmall; decide +kernel)).mono ?_
  rintro e w13 ⟨vl, rfl, hr, hb⟩
  have HB13 := Lib.hid (below_then HB12.out hb)
  have Rl13 : Hid (ReadsN w13 vl (madeL 9 0 0 [(madeL 5 0 0 [(lf 1 9223372036854775807)]), (lf 1 2)])) := Lib.hid hr
  clear hb hr
  have O13 := Lib.hid (EA.out _ _ _ HB13.out Rl13.out (by decide +kernel))
  rw [nm_vals.1, nm_vals.2] at O13
  go_wp2_with fail
  refine (O13.out).mono ?_
  rintro e w14 ⟨vl, rfl, hol, hb⟩
  have HB14 := Lib.hid (below_then HB13.out hb)
  have Ql14 := Lib.hid hol
  obtain ⟨adl, capl, hvl⟩ := own_shape hol
  subst hvl
  clear hb hol
  go_wp2_with fail
  refine (LF.out 2 0 _).mono ?_
  rintro e w15 ⟨va, rfl, hr, hb⟩
  have HB15 := Lib.hid (below_then HB14.out hb)
  have Ql15 := Lib.hid (own_below Ql14.out hb)
  have Ra15 : Hid (ReadsN w15 va (lf 2 0)) := Lib.hid hr
  clear hb hr
  go_wp2_with fail
  refine (LF.out 3 0 _).mono ?_
  rintro e w16 ⟨vb, rfl, hr, hb⟩
  have HB16 := Lib.hid (below_then HB15.out hb)
  have Ra16 := Lib.hid (Ra15.out.below hb)
  have Ql16 := Lib.hid (own_below Ql15.out hb)
  have Rb16 : Hid (ReadsN w16 vb (lf 3 0)) := Lib.hid hr
  clear hb hr
  go_wp2_with fail
  refine (TW.out 7 va vb _ _ _ Ra16.out Rb16.out (by unfold PartSmall; decide +kernel) (by unfold PartSmall; decide +kernel)).mono ?_
  rintro e w17 ⟨vu, rfl, hr, hb⟩
  have HB17 := Lib.hid (below_then HB16.out hb)
  have Ql17 := Lib.hid (own_below Ql16.out hb)
  have Ru17 : Hid (ReadsN w17 vu (madeL 7 0 0 [(lf 2 0), (lf 3 0)])) := Lib.hid hr
  clear hb hr
  have O17 := Lib.hid (EU.out _ _ _ HB17.out Ru17.out (by decide +kernel))
  rw [nm_uses.1, nm_uses.2.1, nm_uses.2.2.1, nm_uses.2.2.2] at O17
  go_wp2_with fail
  refine (O17.out).mono ?_
  rintro e w18 ⟨rfl, hb⟩
  have HB18 := Lib.hid (below_then HB17.out hb)
  have Ql18 := Lib.hid (own_below Ql17.out hb)
  clear hb
  go_wp2_with fail
  refine (LF.out 1 7 _).mono ?_
  rintro e w19 ⟨va, rfl, hr, hb⟩
  have HB19 := Lib.hid (below_then HB18.out hb)
  have Ql19 := Lib.hid (own_below Ql18.out hb)
  have Ra19 : Hid (ReadsN w19 va (lf 1 7)) := Lib.hid hr
  clear hb hr
  go_wp2_with fail
  refine (IS.out _ _ 7 _ HB19.out Ra19.out (by decide +kernel) (by decide +kernel) (by decide +kernel)).mono ?_
  rintro e w20 ⟨rfl, hb⟩
  have HB20 := Lib.hid (below_then HB19.out hb)
  have Ql20 := Lib.hid (own_below Ql19.out hb)
  clear hb
  go_wp2_with fail
  refine (LF.out 2 0 _).mono ?_
  rintro e w21 ⟨va, rfl, hr, hb⟩
  have HB21 := Lib.hid (below_then HB20.out hb)
  have Ql21 := Lib.hid (own_below Ql20.out hb)
  have Ra21 : Hid (ReadsN w21 va (lf 2 0)) := Lib.hid hr
  clear hb hr
  go_wp2_with fail
  refine (IS.out _ _ 3 _ HB21.out Ra21.out (by decide +kernel) (by decide +kernel) (by decide +kernel)).mono ?_
  rintro e w22 ⟨rfl, hb⟩
  have HB22 := Lib.hid (below_then HB21.out hb)
  have Ql22 := Lib.hid (own_below Ql21.out hb)
  clear hb
  go_wp2_with fail
  refine (LF.out 3 0 _).mono ?_
  rintro e w23 ⟨va, rfl, hr, hb⟩
  have HB23 := Lib.hid (below_then HB22.out hb)
  have Ql23 := Lib.hid (own_below Ql22.out hb)
  have Ra23 : Hid (ReadsN w23 va (lf 3 0)) := Lib.hid hr
  clear hb hr
  go_wp2_with fail
  refine (IS.out _ _ 10 _ HB23.out Ra23.out (by decide +kernel) (by decide +kernel) (by decide +kernel)).mono ?_
  rintro e w24 ⟨rfl, hb⟩
  have HB24 := Lib.hid (below_then HB23.out hb)
  have Ql24 := Lib.hid (own_below Ql23.out hb)
  clear hb
  go_wp2_with fail
  refine (LF.out 4 0 _).mono ?_
  rintro e w25 ⟨va, rfl, hr, hb⟩
  have HB25 := Lib.hid (below_then HB24.out hb)
  have Ql25 := Lib.hid (own_below Ql24.out hb)
  have Ra25 : Hid (ReadsN w25 va (lf 4 0)) := Lib.hid hr
  clear hb hr
  go_wp2_with fail
  refine (IS.out _ _ (-4) _ HB25.out Ra25.out (by decide +kernel) (by decide +kernel) (by decide +kernel)).mono ?_
  rintro e w26 ⟨rfl, hb⟩
  have HB26 := Lib.hid (below_then HB25.out hb)
  have Ql26 := Lib.hid (own_below Ql25.out hb)
  clear hb
  have HX := Lib.hid (World.ownsRow_lit (base := w26.heap.size) (e := 2) (size := 1) w26 #[.int .i64 9223372036854775807, .int .i64 (-9223372036854775807), .int .i64 2, .int .i64 9223372036854775807] 4 (Nat.le_refl _) (by unfold maxLen; decide) rfl)
  go_wp2_with fail
  refine (sameVals_any _ _ _ _ [9223372036854775807, -9223372036854775807, 2, 9223372036854775807] _ (Ql26.out.alloc _) HX.out (by decide)).mono ?_
  rintro e w27 ⟨rfl, hd⟩
  have HB27 := Lib.hid ((HB26.out.alloc HB26.out.size _).trans (hd.below _))
  clear hd
  go_wp2_with fail
  refine (AL.out _ HB27.out).mono ?_
  rintro e w28 ⟨rfl, hb⟩
  have HB28 := Lib.hid (below_then HB27.out hb)
  clear hb
  go_wp2_with fail
  go_ret
  exact ⟨rfl, HB28.out⟩
end Go.Proofs.YtflmpjejlkhpcaaDoor.Nodes

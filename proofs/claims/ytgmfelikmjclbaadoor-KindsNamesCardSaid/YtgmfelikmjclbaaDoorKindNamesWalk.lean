/-
  Walk of the statement KindsNames: the chapter's examples, what each kind takes and gives, errors.
-/
import Derived.Test.YtgmfelikmjclbaaDoorKindHelp
import Derived.Test.YtgmfelikmjclbaaDoorNodeMake
import Derived.Outline
namespace Go.Proofs.YtgmfelikmjclbaaDoor.Nodes
open Go.ChangeShapes Go.WideShapes Go.ChangeAt Go.RowKit

theorem names_bin : ∀ j : Fin 13, ∀ a b : Bool, ofV (binL (7 + (j.val : Int)) a b) = (if fitB (7 + (j.val : Int)) a b = true then (givesB (7 + (j.val : Int)), ((pickL a).length : Int) + (pickL b).length, 0) else (false, ((pickL a).length : Int) + (pickL b).length, 42)) := by decide +kernel
theorem bin_len (k : Int) (a b : Bool) : (binL k a b).length = (pickL a).length + (pickL b).length + 1 := by unfold binL; simp [madeL]; omega
theorem names_wrap : ∀ j : Fin 13, IntKind.u8.wrap (7 + (j.val : Int) + 1) = 7 + (j.val : Int) + 1 := by decide
def negL : List Nd := madeL 5 0 0 [numL]
def notL : List Nd := madeL 6 0 0 [binL 14 false false]
def badL : List Nd := madeL 5 0 0 [binL 14 false false]
theorem names_rest : wantV (binL 14 false false) false = (2, 42) ∧ wantV numL true = (0, 42) ∧ wantV numL false = (0, 0) ∧ wantV notL true = (3, 0) ∧ ofV badL = (false, 3, 42) ∧ ofV [] = (false, 0, 8) ∧ ofV [zeroN] = (false, 0, 8) ∧ wantV (binL 18 true false) true = (4, 42) ∧ ofV negL = (false, (negL.length : Int) - 1, 0) ∧ ofV notL = (true, (notL.length : Int) - 1, 0) ∧ ofV numL = (false, (numL.length : Int) - 1, 0) := by decide +kernel
theorem names_many : wantV (List.replicate 61 zeroN) false = (0, 4) := by
  have h : checkV (List.replicate 61 zeroN) = 4 := checkV_many (by rw [List.length_replicate]; decide)
  have ho := of_bad (l := List.replicate 61 zeroN) (by rw [h]; decide)
  rw [h] at ho
  unfold wantV
  rw [ho]
  rfl
theorem tru_small : PartSmall (binL 14 false false) := ⟨by decide, fun x hx => by
  have e : binL 14 false false = [⟨4, 0, 0, 0, 0⟩, ⟨4, 0, 0, 0, 0⟩, ⟨14, 0, 0, 1, 0⟩] := rfl
  rw [e] at hx
  simp at hx
  rcases hx with rfl | rfl <;> decide⟩
set_option maxRecDepth 100000 in
set_option maxHeartbeats 8000000 in
theorem names_walk (w : World) (hf : KindFix w) :
    Calls Tryd.prog 3 #[] w fun e w' => e = .returned (.bool true) ∧ Below w.heap.size w w' := by
  have AL := Lib.hid (fun (W : World) (h : Below w.heap.size w W) => alive6_any W (hf.below h))
  have F := Lib.hid hf
  have HB0 := Lib.hid (Below.refl w.heap.size w)
  have BI := Lib.hid (fun (k : Int) (a b : Bool) (W : World) => binary_any k a b W)
  have TY := Lib.hid (fun v l t (W : World) (h : Below w.heap.size w W) (hr : ReadsN W v l) (hn : l.length ≤ 1000000) (ho : ofV l = (t, (l.length : Int) - 1, 0)) => typed_is v l t W (hf.below h) hr hn ho)
  have OF := Lib.hid (fun v l (W : World) (h : Below w.heap.size w W) (hr : ReadsN W v l) (hn : l.length ≤ 1000000) => kindsOf_any v l W (hf.below h) hr hn)
  have NU := Lib.hid (fun v l (W : World) (h : Below w.heap.size w W) (hr : ReadsN W v l) (hn : l.length ≤ 1000000) => kindsNumber_any v l W (hf.below h) hr hn)
  have TR := Lib.hid (fun v l (W : World) (h : Below w.heap.size w W) (hr : ReadsN W v l) (hn : l.length ≤ 1000000) => kindsTruth_any v l W (hf.below h) hr hn)
  have MK := Lib.hid (fun k va l (W : World) (hr : ReadsP W va [l]) (hs : PartSmall l) => refMade_any k 0 0 va [l] W hr (by simp) (fun p hp => by simp at hp; subst hp; exact hs))
  clear hf
  go_enter Tryd.func3, Tryd.ntmps3
  go_wp2_with fail
  go_loopg [1] 13 (fun g s1 wx => ∃ (j : Nat) (kk : Int), j + g = 13 ∧ kk = 7 + (j : Int) ∧ s1 = .int .u8 kk ∧ Hid (Below w.heap.size w wx))
  case atStart => exact ⟨0, 7, by omega, by omega, rfl, HB0⟩
  case round =>
    obtain ⟨j, kk, hj, hkk, rfl, HB0⟩ := hrel
    cases gk with
    | succ g =>
      have hj13 : j < 13 := by omega
      have hwr : IntKind.u8.wrap (kk + 1) = kk + 1 := by rw [hkk]; exact names_wrap ⟨j, hj13⟩
      have hle : kk ≤ 19 := by omega
      have hge : 7 ≤ kk := by omega
      have NB := Lib.hid (names_bin ⟨j, hj13⟩)
      simp only [← hkk] at NB
      have HJ : Hid (kk + 1 = 7 + ((j + 1 : Nat) : Int)) := Lib.hid (by omega)
      clear hkk
      go_wp2_with fail
      go_loopg [2] 4 (fun g2 s2 wy => ∃ i : Nat, i + g2 = 4 ∧ s2 = .int .i64 i ∧ Hid (Below w.heap.size w wy))
      case atStart => exact ⟨0, by omega, rfl, HB0⟩
      case round =>
        obtain ⟨i, hi, rfl, HB0⟩ := hrel
        cases gk with
        | zero =>
          obtain rfl : i = 4 := by omega
          clear hi
          go_wp2_with fail
          go_roundg g
          case measure => omega
          case rel => exact ⟨j + 1, kk + 1, by omega, HJ.out, rfl, HB0⟩
        | succ g2 =>
          rcases (show (7 ≤ kk ∧ kk ≤ 11) ∨ (12 ≤ kk ∧ kk ≤ 15) ∨ (kk = 16 ∨ kk = 17) ∨ (18 ≤ kk ∧ kk ≤ 19) by omega) with hcl | hcl | hcl | hcl
          · have hd17 : decide (kk ≤ 17) = true := decide_eq_true (by omega)
            have hd16 : decide (16 ≤ kk) = false := decide_eq_false (by omega)
            have hd12 : decide (12 ≤ kk) = false := decide_eq_false (by omega)
            have hfb : ∀ x y, fitB kk x y = (!x && !y) := fun x y => by unfold fitB; rw [if_neg (by omega), if_neg (by omega), if_neg (by omega), if_neg (by omega), if_neg (by omega)]
            have hgv : givesB kk = false := by unfold givesB; exact decide_eq_false (by omega)
            clear hcl
            rcases (show i = 0 ∨ i = 1 ∨ i = 2 ∨ i = 3 by omega) with rfl | rfl | rfl | rfl
            · have hb := NB.out false false
              rw [hfb, hgv] at hb
              have hlen := bin_len kk false false
              have ho : Hid (ofV (binL kk false false) = (false, 2, 0)) := Lib.hid hb
              have hl : Hid ((binL kk false false).length = 3) := Lib.hid hlen
              clear hb hlen hfb hgv
              go_wp2_with fail
              refine (BI.out kk false false _).mono ?_
              rintro e w1 ⟨vo, rfl, hr, hb⟩
              have HB1 := Lib.hid (below_then HB0.out hb)
              have OF1 := Lib.hid (fun (W : World) (h : Below w.heap.size w W) (h2 : Below w1.heap.size w1 W) => OF.out vo _ W h (hr.below h2) (by rw [hl.out]; decide))
              rw [ho.out] at OF1
              have TY1 := Lib.hid (TY.out vo _ false _ HB1.out hr (by rw [hl.out]; decide) (by rw [ho.out, hl.out]; rfl))
              obtain ⟨adv, capv, hvv⟩ := hr.shape
              rw [hl.out] at hvv
              subst hvv
              clear hb hr
              go_wp2_with fail
              refine TY1.out.mono ?_
              rintro e w2 ⟨rfl, hb⟩
              have HB2 := Lib.hid (below_then HB1.out hb)
              have HD2 := Lib.hid hb
              clear hb
              go_wp2_with fail
              refine (OF1.out _ HB2.out HD2.out).mono ?_
              rintro e w3 ⟨rfl, hb⟩
              have HB3 := Lib.hid (below_then HB2.out hb)
              clear hb
              go_wp2_with fail
              go_roundg g2
              case measure => omega
              case rel => exact ⟨1, by omega, rfl, HB3⟩
            · have hb := NB.out true false
              rw [hfb, hgv] at hb
              have hlen := bin_len kk true false
              have ho : Hid (ofV (binL kk true false) = (false, 4, 42)) := Lib.hid hb
              have hl : Hid ((binL kk true false).length = 5) := Lib.hid hlen
              clear hb hlen hfb hgv
              go_wp2_with fail
              refine (BI.out kk true false _).mono ?_
              rintro e w1 ⟨vo, rfl, hr, hb⟩
              have HB1 := Lib.hid (below_then HB0.out hb)
              have OF1 := Lib.hid (fun (W : World) (h : Below w.heap.size w W) (h2 : Below w1.heap.size w1 W) => OF.out vo _ W h (hr.below h2) (by rw [hl.out]; decide))
              rw [ho.out] at OF1
              obtain ⟨adv, capv, hvv⟩ := hr.shape
              rw [hl.out] at hvv
              subst hvv
              clear hb hr
              go_wp2_with fail
              refine (OF1.out _ HB1.out (Below.refl _ _)).mono ?_
              rintro e w2 ⟨rfl, hb⟩
              have HB2 := Lib.hid (below_then HB1.out hb)
              clear hb
              go_wp2_with fail
              go_roundg g2
              case measure => omega
              case rel => exact ⟨2, by omega, rfl, HB2⟩
            · have hb := NB.out false true
              rw [hfb, hgv] at hb
              have hlen := bin_len kk false true
              have ho : Hid (ofV (binL kk false true) = (false, 4, 42)) := Lib.hid hb
              have hl : Hid ((binL kk false true).length = 5) := Lib.hid hlen
              clear hb hlen hfb hgv
              go_wp2_with fail
              refine (BI.out kk false true _).mono ?_
              rintro e w1 ⟨vo, rfl, hr, hb⟩
              have HB1 := Lib.hid (below_then HB0.out hb)
              have OF1 := Lib.hid (fun (W : World) (h : Below w.heap.size w W) (h2 : Below w1.heap.size w1 W) => OF.out vo _ W h (hr.below h2) (by rw [hl.out]; decide))
              rw [ho.out] at OF1
              obtain ⟨adv, capv, hvv⟩ := hr.shape
              rw [hl.out] at hvv
              subst hvv
              clear hb hr
              go_wp2_with fail
              refine (OF1.out _ HB1.out (Below.refl _ _)).mono ?_
              rintro e w2 ⟨rfl, hb⟩
              have HB2 := Lib.hid (below_then HB1.out hb)
              clear hb
              go_wp2_with fail
              go_roundg g2
              case measure => omega
              case rel => exact ⟨3, by omega, rfl, HB2⟩
            · have hb := NB.out true true
              rw [hfb, hgv] at hb
              have hlen := bin_len kk true true
              have ho : Hid (ofV (binL kk true true) = (false, 6, 42)) := Lib.hid hb
              have hl : Hid ((binL kk true true).length = 7) := Lib.hid hlen
              clear hb hlen hfb hgv
              go_wp2_with fail
              refine (BI.out kk true true _).mono ?_
              rintro e w1 ⟨vo, rfl, hr, hb⟩
              have HB1 := Lib.hid (below_then HB0.out hb)
              have OF1 := Lib.hid (fun (W : World) (h : Below w.heap.size w W) (h2 : Below w1.heap.size w1 W) => OF.out vo _ W h (hr.below h2) (by rw [hl.out]; decide))
              rw [ho.out] at OF1
              obtain ⟨adv, capv, hvv⟩ := hr.shape
              rw [hl.out] at hvv
              subst hvv
              clear hb hr
              go_wp2_with fail
              refine (OF1.out _ HB1.out (Below.refl _ _)).mono ?_
              rintro e w2 ⟨rfl, hb⟩
              have HB2 := Lib.hid (below_then HB1.out hb)
              clear hb
              go_wp2_with fail
              go_roundg g2
              case measure => omega
              case rel => exact ⟨4, by omega, rfl, HB2⟩
          · have hd17 : decide (kk ≤ 17) = true := decide_eq_true (by omega)
            have hd16 : decide (16 ≤ kk) = false := decide_eq_false (by omega)
            have hd12 : decide (12 ≤ kk) = true := decide_eq_true (by omega)
            have hfb : ∀ x y, fitB kk x y = (!x && !y) := fun x y => by unfold fitB; rw [if_neg (by omega), if_neg (by omega), if_neg (by omega), if_neg (by omega), if_neg (by omega)]
            have hgv : givesB kk = true := by unfold givesB; exact decide_eq_true (by omega)
            clear hcl
            rcases (show i = 0 ∨ i = 1 ∨ i = 2 ∨ i = 3 by omega) with rfl | rfl | rfl | rfl
            · have hb := NB.out false false
              rw [hfb, hgv] at hb
              have hlen := bin_len kk false false
              have ho : Hid (ofV (binL kk false false) = (true, 2, 0)) := Lib.hid hb
              have hl : Hid ((binL kk false false).length = 3) := Lib.hid hlen
              clear hb hlen hfb hgv
              go_wp2_with fail
              refine (BI.out kk false false _).mono ?_
              rintro e w1 ⟨vo, rfl, hr, hb⟩
              have HB1 := Lib.hid (below_then HB0.out hb)
              have OF1 := Lib.hid (fun (W : World) (h : Below w.heap.size w W) (h2 : Below w1.heap.size w1 W) => OF.out vo _ W h (hr.below h2) (by rw [hl.out]; decide))
              rw [ho.out] at OF1
              have TY1 := Lib.hid (TY.out vo _ true _ HB1.out hr (by rw [hl.out]; decide) (by rw [ho.out, hl.out]; rfl))
              obtain ⟨adv, capv, hvv⟩ := hr.shape
              rw [hl.out] at hvv
              subst hvv
              clear hb hr
              go_wp2_with fail
              refine TY1.out.mono ?_
              rintro e w2 ⟨rfl, hb⟩
              have HB2 := Lib.hid (below_then HB1.out hb)
              have HD2 := Lib.hid hb
              clear hb
              go_wp2_with fail
              refine (OF1.out _ HB2.out HD2.out).mono ?_
              rintro e w3 ⟨rfl, hb⟩
              have HB3 := Lib.hid (below_then HB2.out hb)
              clear hb
              go_wp2_with fail
              go_roundg g2
              case measure => omega
              case rel => exact ⟨1, by omega, rfl, HB3⟩
            · have hb := NB.out true false
              rw [hfb, hgv] at hb
              have hlen := bin_len kk true false
              have ho : Hid (ofV (binL kk true false) = (false, 4, 42)) := Lib.hid hb
              have hl : Hid ((binL kk true false).length = 5) := Lib.hid hlen
              clear hb hlen hfb hgv
              go_wp2_with fail
              refine (BI.out kk true false _).mono ?_
              rintro e w1 ⟨vo, rfl, hr, hb⟩
              have HB1 := Lib.hid (below_then HB0.out hb)
              have OF1 := Lib.hid (fun (W : World) (h : Below w.heap.size w W) (h2 : Below w1.heap.size w1 W) => OF.out vo _ W h (hr.below h2) (by rw [hl.out]; decide))
              rw [ho.out] at OF1
              obtain ⟨adv, capv, hvv⟩ := hr.shape
              rw [hl.out] at hvv
              subst hvv
              clear hb hr
              go_wp2_with fail
              refine (OF1.out _ HB1.out (Below.refl _ _)).mono ?_
              rintro e w2 ⟨rfl, hb⟩
              have HB2 := Lib.hid (below_then HB1.out hb)
              clear hb
              go_wp2_with fail
              go_roundg g2
              case measure => omega
              case rel => exact ⟨2, by omega, rfl, HB2⟩
            · have hb := NB.out false true
              rw [hfb, hgv] at hb
              have hlen := bin_len kk false true
              have ho : Hid (ofV (binL kk false true) = (false, 4, 42)) := Lib.hid hb
              have hl : Hid ((binL kk false true).length = 5) := Lib.hid hlen
              clear hb hlen hfb hgv
              go_wp2_with fail
              refine (BI.out kk false true _).mono ?_
              rintro e w1 ⟨vo, rfl, hr, hb⟩
              have HB1 := Lib.hid (below_then HB0.out hb)
              have OF1 := Lib.hid (fun (W : World) (h : Below w.heap.size w W) (h2 : Below w1.heap.size w1 W) => OF.out vo _ W h (hr.below h2) (by rw [hl.out]; decide))
              rw [ho.out] at OF1
              obtain ⟨adv, capv, hvv⟩ := hr.shape
              rw [hl.out] at hvv
              subst hvv
              clear hb hr
              go_wp2_with fail
              refine (OF1.out _ HB1.out (Below.refl _ _)).mono ?_
              rintro e w2 ⟨rfl, hb⟩
              have HB2 := Lib.hid (below_then HB1.out hb)
              clear hb
              go_wp2_with fail
              go_roundg g2
              case measure => omega
              case rel => exact ⟨3, by omega, rfl, HB2⟩
            · have hb := NB.out true true
              rw [hfb, hgv] at hb
              have hlen := bin_len kk true true
              have ho : Hid (ofV (binL kk true true) = (false, 6, 42)) := Lib.hid hb
              have hl : Hid ((binL kk true true).length = 7) := Lib.hid hlen
              clear hb hlen hfb hgv
              go_wp2_with fail
              refine (BI.out kk true true _).mono ?_
              rintro e w1 ⟨vo, rfl, hr, hb⟩
              have HB1 := Lib.hid (below_then HB0.out hb)
              have OF1 := Lib.hid (fun (W : World) (h : Below w.heap.size w W) (h2 : Below w1.heap.size w1 W) => OF.out vo _ W h (hr.below h2) (by rw [hl.out]; decide))
              rw [ho.out] at OF1
              obtain ⟨adv, capv, hvv⟩ := hr.shape
              rw [hl.out] at hvv
              subst hvv
              clear hb hr
              go_wp2_with fail
              refine (OF1.out _ HB1.out (Below.refl _ _)).mono ?_
              rintro e w2 ⟨rfl, hb⟩
              have HB2 := Lib.hid (below_then HB1.out hb)
              clear hb
              go_wp2_with fail
              go_roundg g2
              case measure => omega
              case rel => exact ⟨4, by omega, rfl, HB2⟩
          · have hd17 : decide (kk ≤ 17) = true := decide_eq_true (by omega)
            have hd16 : decide (16 ≤ kk) = true := decide_eq_true (by omega)
            have hd12 : decide (12 ≤ kk) = true := decide_eq_true (by omega)
            have hfb : ∀ x y, fitB kk x y = (x == y) := fun x y => by unfold fitB; rw [if_neg (by omega), if_neg (by omega), if_neg (by omega), if_pos (by omega)]
            have hgv : givesB kk = true := by unfold givesB; exact decide_eq_true (by omega)
            clear hcl
            rcases (show i = 0 ∨ i = 1 ∨ i = 2 ∨ i = 3 by omega) with rfl | rfl | rfl | rfl
            · have hb := NB.out false false
              rw [hfb, hgv] at hb
              have hlen := bin_len kk false false
              have ho : Hid (ofV (binL kk false false) = (true, 2, 0)) := Lib.hid hb
              have hl : Hid ((binL kk false false).length = 3) := Lib.hid hlen
              clear hb hlen hfb hgv
              go_wp2_with fail
              refine (BI.out kk false false _).mono ?_
              rintro e w1 ⟨vo, rfl, hr, hb⟩
              have HB1 := Lib.hid (below_then HB0.out hb)
              have OF1 := Lib.hid (fun (W : World) (h : Below w.heap.size w W) (h2 : Below w1.heap.size w1 W) => OF.out vo _ W h (hr.below h2) (by rw [hl.out]; decide))
              rw [ho.out] at OF1
              have TY1 := Lib.hid (TY.out vo _ true _ HB1.out hr (by rw [hl.out]; decide) (by rw [ho.out, hl.out]; rfl))
              obtain ⟨adv, capv, hvv⟩ := hr.shape
              rw [hl.out] at hvv
              subst hvv
              clear hb hr
              go_wp2_with fail
              refine TY1.out.mono ?_
              rintro e w2 ⟨rfl, hb⟩
              have HB2 := Lib.hid (below_then HB1.out hb)
              have HD2 := Lib.hid hb
              clear hb
              go_wp2_with fail
              refine (OF1.out _ HB2.out HD2.out).mono ?_
              rintro e w3 ⟨rfl, hb⟩
              have HB3 := Lib.hid (below_then HB2.out hb)
              clear hb
              go_wp2_with fail
              go_roundg g2
              case measure => omega
              case rel => exact ⟨1, by omega, rfl, HB3⟩
            · have hb := NB.out true false
              rw [hfb, hgv] at hb
              have hlen := bin_len kk true false
              have ho : Hid (ofV (binL kk true false) = (false, 4, 42)) := Lib.hid hb
              have hl : Hid ((binL kk true false).length = 5) := Lib.hid hlen
              clear hb hlen hfb hgv
              go_wp2_with fail
              refine (BI.out kk true false _).mono ?_
              rintro e w1 ⟨vo, rfl, hr, hb⟩
              have HB1 := Lib.hid (below_then HB0.out hb)
              have OF1 := Lib.hid (fun (W : World) (h : Below w.heap.size w W) (h2 : Below w1.heap.size w1 W) => OF.out vo _ W h (hr.below h2) (by rw [hl.out]; decide))
              rw [ho.out] at OF1
              obtain ⟨adv, capv, hvv⟩ := hr.shape
              rw [hl.out] at hvv
              subst hvv
              clear hb hr
              go_wp2_with fail
              refine (OF1.out _ HB1.out (Below.refl _ _)).mono ?_
              rintro e w2 ⟨rfl, hb⟩
              have HB2 := Lib.hid (below_then HB1.out hb)
              clear hb
              go_wp2_with fail
              go_roundg g2
              case measure => omega
              case rel => exact ⟨2, by omega, rfl, HB2⟩
            · have hb := NB.out false true
              rw [hfb, hgv] at hb
              have hlen := bin_len kk false true
              have ho : Hid (ofV (binL kk false true) = (false, 4, 42)) := Lib.hid hb
              have hl : Hid ((binL kk false true).length = 5) := Lib.hid hlen
              clear hb hlen hfb hgv
              go_wp2_with fail
              refine (BI.out kk false true _).mono ?_
              rintro e w1 ⟨vo, rfl, hr, hb⟩
              have HB1 := Lib.hid (below_then HB0.out hb)
              have OF1 := Lib.hid (fun (W : World) (h : Below w.heap.size w W) (h2 : Below w1.heap.size w1 W) => OF.out vo _ W h (hr.below h2) (by rw [hl.out]; decide))
              rw [ho.out] at OF1
              obtain ⟨adv, capv, hvv⟩ := hr.shape
              rw [hl.out] at hvv
              subst hvv
              clear hb hr
              go_wp2_with fail
              refine (OF1.out _ HB1.out (Below.refl _ _)).mono ?_
              rintro e w2 ⟨rfl, hb⟩
              have HB2 := Lib.hid (below_then HB1.out hb)
              clear hb
              go_wp2_with fail
              go_roundg g2
              case measure => omega
              case rel => exact ⟨3, by omega, rfl, HB2⟩
            · have hb := NB.out true true
              rw [hfb, hgv] at hb
              have hlen := bin_len kk true true
              have ho : Hid (ofV (binL kk true true) = (true, 6, 0)) := Lib.hid hb
              have hl : Hid ((binL kk true true).length = 7) := Lib.hid hlen
              clear hb hlen hfb hgv
              go_wp2_with fail
              refine (BI.out kk true true _).mono ?_
              rintro e w1 ⟨vo, rfl, hr, hb⟩
              have HB1 := Lib.hid (below_then HB0.out hb)
              have OF1 := Lib.hid (fun (W : World) (h : Below w.heap.size w W) (h2 : Below w1.heap.size w1 W) => OF.out vo _ W h (hr.below h2) (by rw [hl.out]; decide))
              rw [ho.out] at OF1
              have TY1 := Lib.hid (TY.out vo _ true _ HB1.out hr (by rw [hl.out]; decide) (by rw [ho.out, hl.out]; rfl))
              obtain ⟨adv, capv, hvv⟩ := hr.shape
              rw [hl.out] at hvv
              subst hvv
              clear hb hr
              go_wp2_with fail
              refine TY1.out.mono ?_
              rintro e w2 ⟨rfl, hb⟩
              have HB2 := Lib.hid (below_then HB1.out hb)
              have HD2 := Lib.hid hb
              clear hb
              go_wp2_with fail
              refine (OF1.out _ HB2.out HD2.out).mono ?_
              rintro e w3 ⟨rfl, hb⟩
              have HB3 := Lib.hid (below_then HB2.out hb)
              clear hb
              go_wp2_with fail
              go_roundg g2
              case measure => omega
              case rel => exact ⟨4, by omega, rfl, HB3⟩
          · have hd17 : decide (kk ≤ 17) = false := decide_eq_false (by omega)
            have hd16 : decide (16 ≤ kk) = true := decide_eq_true (by omega)
            have hd12 : decide (12 ≤ kk) = true := decide_eq_true (by omega)
            have hfb : ∀ x y, fitB kk x y = (x && y) := fun x y => by unfold fitB; rw [if_neg (by omega), if_neg (by omega), if_neg (by omega), if_neg (by omega), if_pos (by omega)]
            have hgv : givesB kk = true := by unfold givesB; exact decide_eq_true (by omega)
            clear hcl
            rcases (show i = 0 ∨ i = 1 ∨ i = 2 ∨ i = 3 by omega) with rfl | rfl | rfl | rfl
            · have hb := NB.out false false
              rw [hfb, hgv] at hb
              have hlen := bin_len kk false false
              have ho : Hid (ofV (binL kk false false) = (false, 2, 42)) := Lib.hid hb
              have hl : Hid ((binL kk false false).length = 3) := Lib.hid hlen
              clear hb hlen hfb hgv
              go_wp2_with fail
              refine (BI.out kk false false _).mono ?_
              rintro e w1 ⟨vo, rfl, hr, hb⟩
              have HB1 := Lib.hid (below_then HB0.out hb)
              have OF1 := Lib.hid (fun (W : World) (h : Below w.heap.size w W) (h2 : Below w1.heap.size w1 W) => OF.out vo _ W h (hr.below h2) (by rw [hl.out]; decide))
              rw [ho.out] at OF1
              obtain ⟨adv, capv, hvv⟩ := hr.shape
              rw [hl.out] at hvv
              subst hvv
              clear hb hr
              go_wp2_with fail
              refine (OF1.out _ HB1.out (Below.refl _ _)).mono ?_
              rintro e w2 ⟨rfl, hb⟩
              have HB2 := Lib.hid (below_then HB1.out hb)
              clear hb
              go_wp2_with fail
              go_roundg g2
              case measure => omega
              case rel => exact ⟨1, by omega, rfl, HB2⟩
            · have hb := NB.out true false
              rw [hfb, hgv] at hb
              have hlen := bin_len kk true false
              have ho : Hid (ofV (binL kk true false) = (false, 4, 42)) := Lib.hid hb
              have hl : Hid ((binL kk true false).length = 5) := Lib.hid hlen
              clear hb hlen hfb hgv
              go_wp2_with fail
              refine (BI.out kk true false _).mono ?_
              rintro e w1 ⟨vo, rfl, hr, hb⟩
              have HB1 := Lib.hid (below_then HB0.out hb)
              have OF1 := Lib.hid (fun (W : World) (h : Below w.heap.size w W) (h2 : Below w1.heap.size w1 W) => OF.out vo _ W h (hr.below h2) (by rw [hl.out]; decide))
              rw [ho.out] at OF1
              obtain ⟨adv, capv, hvv⟩ := hr.shape
              rw [hl.out] at hvv
              subst hvv
              clear hb hr
              go_wp2_with fail
              refine (OF1.out _ HB1.out (Below.refl _ _)).mono ?_
              rintro e w2 ⟨rfl, hb⟩
              have HB2 := Lib.hid (below_then HB1.out hb)
              clear hb
              go_wp2_with fail
              go_roundg g2
              case measure => omega
              case rel => exact ⟨2, by omega, rfl, HB2⟩
            · have hb := NB.out false true
              rw [hfb, hgv] at hb
              have hlen := bin_len kk false true
              have ho : Hid (ofV (binL kk false true) = (false, 4, 42)) := Lib.hid hb
              have hl : Hid ((binL kk false true).length = 5) := Lib.hid hlen
              clear hb hlen hfb hgv
              go_wp2_with fail
              refine (BI.out kk false true _).mono ?_
              rintro e w1 ⟨vo, rfl, hr, hb⟩
              have HB1 := Lib.hid (below_then HB0.out hb)
              have OF1 := Lib.hid (fun (W : World) (h : Below w.heap.size w W) (h2 : Below w1.heap.size w1 W) => OF.out vo _ W h (hr.below h2) (by rw [hl.out]; decide))
              rw [ho.out] at OF1
              obtain ⟨adv, capv, hvv⟩ := hr.shape
              rw [hl.out] at hvv
              subst hvv
              clear hb hr
              go_wp2_with fail
              refine (OF1.out _ HB1.out (Below.refl _ _)).mono ?_
              rintro e w2 ⟨rfl, hb⟩
              have HB2 := Lib.hid (below_then HB1.out hb)
              clear hb
              go_wp2_with fail
              go_roundg g2
              case measure => omega
              case rel => exact ⟨3, by omega, rfl, HB2⟩
            · have hb := NB.out true true
              rw [hfb, hgv] at hb
              have hlen := bin_len kk true true
              have ho : Hid (ofV (binL kk true true) = (true, 6, 0)) := Lib.hid hb
              have hl : Hid ((binL kk true true).length = 7) := Lib.hid hlen
              clear hb hlen hfb hgv
              go_wp2_with fail
              refine (BI.out kk true true _).mono ?_
              rintro e w1 ⟨vo, rfl, hr, hb⟩
              have HB1 := Lib.hid (below_then HB0.out hb)
              have OF1 := Lib.hid (fun (W : World) (h : Below w.heap.size w W) (h2 : Below w1.heap.size w1 W) => OF.out vo _ W h (hr.below h2) (by rw [hl.out]; decide))
              rw [ho.out] at OF1
              have TY1 := Lib.hid (TY.out vo _ true _ HB1.out hr (by rw [hl.out]; decide) (by rw [ho.out, hl.out]; rfl))
              obtain ⟨adv, capv, hvv⟩ := hr.shape
              rw [hl.out] at hvv
              subst hvv
              clear hb hr
              go_wp2_with fail
              refine TY1.out.mono ?_
              rintro e w2 ⟨rfl, hb⟩
              have HB2 := Lib.hid (below_then HB1.out hb)
              have HD2 := Lib.hid hb
              clear hb
              go_wp2_with fail
              refine (OF1.out _ HB2.out HD2.out).mono ?_
              rintro e w3 ⟨rfl, hb⟩
              have HB3 := Lib.hid (below_then HB2.out hb)
              clear hb
              go_wp2_with fail
              go_roundg g2
              case measure => omega
              case rel => exact ⟨4, by omega, rfl, HB3⟩
    | zero =>
      obtain rfl : j = 13 := by omega
      have hkk2 : kk = 20 := by omega
      subst hkk2
      clear hkk hj
      have HV0 := Lib.hid (lit_reads_in numL 1 rfl wr _ rfl _ (Below.refl _ _))
      have HBv := Lib.hid (HB0.out.alloc HB0.out.size (Obj.cells (rowN numL).toArray 29))
      go_wp2_with fail
      refine (BI.out 14 false false _).mono ?_
      rintro e w1 ⟨vt, rfl, hr, hb⟩
      have HB1 := Lib.hid (below_then HBv.out hb)
      have V1 := Lib.hid (HV0.out.below hb)
      have T1 := Lib.hid hr
      obtain ⟨adt, capt, hvt⟩ := hr.shape
      rw [show (binL 14 false false).length = 3 by decide] at hvt
      subst hvt
      clear hb hr
      go_wp2_with fail
      refine (MK.out 5 _ numL _ (one_reads V1.out w1.heap.size rfl) (pick_small false)).mono ?_
      rintro e w2 ⟨vneg, rfl, hom, hb⟩
      have HB2 := Lib.hid (below_box HB1.out hb)
      have V2 := Lib.hid ((V1.out.below (refl_alloc _ _)).below hb)
      have T2 := Lib.hid ((T1.out.below (refl_alloc _ _)).below hb)
      have N2 : Hid (ReadsN w2 vneg negL) := Lib.hid (own_readsN hom)
      clear hb hom
      go_wp2_with fail
      refine (MK.out 6 _ _ _ (one_reads T2.out w2.heap.size rfl) tru_small).mono ?_
      rintro e w3 ⟨vnot, rfl, hom, hb⟩
      have HB3 := Lib.hid (below_box HB2.out hb)
      have V3 := Lib.hid ((V2.out.below (refl_alloc _ _)).below hb)
      have T3 := Lib.hid ((T2.out.below (refl_alloc _ _)).below hb)
      have N3 := Lib.hid ((N2.out.below (refl_alloc _ _)).below hb)
      have K3 : Hid (ReadsN w3 vnot notL) := Lib.hid (own_readsN hom)
      clear hb hom
      go_wp2_with fail
      refine (MK.out 5 _ _ _ (one_reads T3.out w3.heap.size rfl) tru_small).mono ?_
      rintro e w4 ⟨vbad, rfl, hom, hb⟩
      have HB4 := Lib.hid (below_box HB3.out hb)
      have V4 := Lib.hid ((V3.out.below (refl_alloc _ _)).below hb)
      have T4 := Lib.hid ((T3.out.below (refl_alloc _ _)).below hb)
      have N4 := Lib.hid ((N3.out.below (refl_alloc _ _)).below hb)
      have K4 := Lib.hid ((K3.out.below (refl_alloc _ _)).below hb)
      have O4 := Lib.hid (OF.out vbad badL _ HB4.out (own_readsN hom) (by decide))
      rw [names_rest.2.2.2.2.1] at O4
      clear hb hom
      go_wp2_with fail
      refine (O4.out).mono ?_
      rintro e w5 ⟨rfl, hb⟩
      have HB5 := Lib.hid (below_then HB4.out hb)
      have V5 := Lib.hid (V4.out.below hb)
      have T5 := Lib.hid (T4.out.below hb)
      have N5 := Lib.hid (N4.out.below hb)
      have K5 := Lib.hid (K4.out.below hb)
      clear hb
      have O5 := Lib.hid (NU.out _ (binL 14 false false) _ HB5.out T5.out (by decide))
      rw [names_rest.1] at O5
      go_wp2_with fail
      refine (O5.out).mono ?_
      rintro e w6 ⟨rfl, hb⟩
      have HB6 := Lib.hid (below_then HB5.out hb)
      have V6 := Lib.hid (V5.out.below hb)
      have T6 := Lib.hid (T5.out.below hb)
      have N6 := Lib.hid (N5.out.below hb)
      have K6 := Lib.hid (K5.out.below hb)
      clear hb
      have O6 := Lib.hid (TR.out _ numL _ HB6.out V6.out (by decide))
      rw [names_rest.2.1] at O6
      go_wp2_with fail
      refine (O6.out).mono ?_
      rintro e w7 ⟨rfl, hb⟩
      have HB7 := Lib.hid (below_then HB6.out hb)
      have V7 := Lib.hid (V6.out.below hb)
      have T7 := Lib.hid (T6.out.below hb)
      have N7 := Lib.hid (N6.out.below hb)
      have K7 := Lib.hid (K6.out.below hb)
      clear hb
      have O7 := Lib.hid (NU.out _ numL _ HB7.out V7.out (by decide))
      rw [names_rest.2.2.1] at O7
      go_wp2_with fail
      refine (O7.out).mono ?_
      rintro e w8 ⟨rfl, hb⟩
      have HB8 := Lib.hid (below_then HB7.out hb)
      have V8 := Lib.hid (V7.out.below hb)
      have T8 := Lib.hid (T7.out.below hb)
      have N8 := Lib.hid (N7.out.below hb)
      have K8 := Lib.hid (K7.out.below hb)
      clear hb
      have O8 := Lib.hid (TR.out _ notL _ HB8.out K8.out (by decide))
      rw [names_rest.2.2.2.1] at O8
      go_wp2_with fail
      refine (O8.out).mono ?_
      rintro e w9 ⟨rfl, hb⟩
      have HB9 := Lib.hid (below_then HB8.out hb)
      have V9 := Lib.hid (V8.out.below hb)
      have T9 := Lib.hid (T8.out.below hb)
      have N9 := Lib.hid (N8.out.below hb)
      have K9 := Lib.hid (K8.out.below hb)
      clear hb
      have O9 := Lib.hid (OF.out (.slice none 0 0) [] _ HB9.out (.inl ⟨rfl, _, _, rfl⟩) (by decide))
      rw [names_rest.2.2.2.2.2.1] at O9
      go_wp2_with fail
      refine (O9.out).mono ?_
      rintro e w10 ⟨rfl, hb⟩
      have HB10 := Lib.hid (below_then HB9.out hb)
      have V10 := Lib.hid (V9.out.below hb)
      have T10 := Lib.hid (T9.out.below hb)
      have N10 := Lib.hid (N9.out.below hb)
      have K10 := Lib.hid (K9.out.below hb)
      clear hb
      have Z10 := lit_reads_in [zeroN] 1 rfl w10 _ rfl _ (Below.refl _ _)
      have HBz := Lib.hid (HB10.out.alloc HB10.out.size (Obj.cells (rowN [zeroN]).toArray 29))
      have O10 := Lib.hid (kindsAll_any _ [zeroN] _ (F.out.below HBz.out) Z10 (by decide))
      unfold AllKinds at O10
      rw [names_rest.2.2.2.2.2.2.1] at O10
      clear Z10
      go_wp2_with fail
      refine (O10.out).mono ?_
      rintro e w11 ⟨vz, rfl, hoz, hb⟩
      have HB11 := Lib.hid (below_then HBz.out hb)
      have V11 := Lib.hid ((V10.out.below (refl_alloc _ _)).below hb)
      have T11 := Lib.hid ((T10.out.below (refl_alloc _ _)).below hb)
      have N11 := Lib.hid ((N10.out.below (refl_alloc _ _)).below hb)
      have K11 := Lib.hid ((K10.out.below (refl_alloc _ _)).below hb)
      clear hb hoz
      obtain ⟨wM, hmk, hown, hbm⟩ := make_nds w11 61 (by decide)
      have hmk2 : (Instr.makeSlice 22 (.int .i64 61) (.int .i64 61)).run Tryd.prog w11 = .ok (.slice (some ⟨w11.heap.size, 0, none⟩) 61 61) wM := hmk
      have HM := Lib.hid (own_readsN (l := List.replicate 61 zeroN) (by rw [List.length_replicate]; exact hown))
      have HBM := Lib.hid (below_then HB11.out hbm)
      have VM := Lib.hid (V11.out.below hbm)
      have TM := Lib.hid (T11.out.below hbm)
      have NM := Lib.hid (N11.out.below hbm)
      have KM := Lib.hid (K11.out.below hbm)
      have O11 := Lib.hid (NU.out _ (List.replicate 61 zeroN) _ HBM.out HM.out (by rw [List.length_replicate]; decide))
      rw [names_many] at O11
      clear hmk hown hbm
      go_wp2_with fail
      refine (O11.out).mono ?_
      rintro e w12 ⟨rfl, hb⟩
      have HB12 := Lib.hid (below_then HBM.out hb)
      have V12 := Lib.hid (VM.out.below hb)
      have T12 := Lib.hid (TM.out.below hb)
      have N12 := Lib.hid (NM.out.below hb)
      have K12 := Lib.hid (KM.out.below hb)
      clear hb hmk2
      go_wp2_with fail
      refine (BI.out 18 true false _).mono ?_
      rintro e w13 ⟨va, rfl, hr, hb⟩
      have HB13 := Lib.hid (below_then HB12.out hb)
      have V13 := Lib.hid (V12.out.below hb)
      have T13 := Lib.hid (T12.out.below hb)
      have N13 := Lib.hid (N12.out.below hb)
      have K13 := Lib.hid (K12.out.below hb)
      have O13 := Lib.hid (TR.out va _ _ HB13.out hr (by decide))
      rw [names_rest.2.2.2.2.2.2.2.1] at O13
      clear hb hr
      go_wp2_with fail
      refine (O13.out).mono ?_
      rintro e w14 ⟨rfl, hb⟩
      have HB14 := Lib.hid (below_then HB13.out hb)
      have V14 := Lib.hid (V13.out.below hb)
      have T14 := Lib.hid (T13.out.below hb)
      have N14 := Lib.hid (N13.out.below hb)
      have K14 := Lib.hid (K13.out.below hb)
      clear hb
      have O14 := Lib.hid (TY.out _ negL false _ HB14.out N14.out (by decide) names_rest.2.2.2.2.2.2.2.2.1)
      go_wp2_with fail
      refine (O14.out).mono ?_
      rintro e w15 ⟨rfl, hb⟩
      have HB15 := Lib.hid (below_then HB14.out hb)
      have V15 := Lib.hid (V14.out.below hb)
      have T15 := Lib.hid (T14.out.below hb)
      have N15 := Lib.hid (N14.out.below hb)
      have K15 := Lib.hid (K14.out.below hb)
      clear hb
      have O15 := Lib.hid (TY.out _ notL true _ HB15.out K15.out (by decide) names_rest.2.2.2.2.2.2.2.2.2.1)
      go_wp2_with fail
      refine (O15.out).mono ?_
      rintro e w16 ⟨rfl, hb⟩
      have HB16 := Lib.hid (below_then HB15.out hb)
      have V16 := Lib.hid (V15.out.below hb)
      have T16 := Lib.hid (T15.out.below hb)
      have N16 := Lib.hid (N15.out.below hb)
      have K16 := Lib.hid (K15.out.below hb)
      clear hb
      have O16 := Lib.hid (TY.out _ numL false _ HB16.out V16.out (by decide) names_rest.2.2.2.2.2.2.2.2.2.2)
      go_wp2_with fail
      refine (O16.out).mono ?_
      rintro e w17 ⟨rfl, hb⟩
      have HB17 := Lib.hid (below_then HB16.out hb)
      have V17 := Lib.hid (V16.out.below hb)
      have T17 := Lib.hid (T16.out.below hb)
      have N17 := Lib.hid (N16.out.below hb)
      have K17 := Lib.hid (K16.out.below hb)
      clear hb
      go_wp2_with fail
      refine (AL.out _ HB17.out).mono ?_
      rintro e w18 ⟨rfl, hb⟩
      have HB18 := Lib.hid (below_then HB17.out hb)
      clear hb
      go_wp2_with fail
      go_ret
      exact ⟨rfl, HB18.out⟩
end Go.Proofs.YtgmfelikmjclbaaDoor.Nodes

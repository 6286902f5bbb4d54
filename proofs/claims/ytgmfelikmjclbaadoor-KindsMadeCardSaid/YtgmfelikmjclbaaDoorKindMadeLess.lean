/-
  Walk of the statement KindsMade: two parts, and kinds of one class (less).
-/
import Derived.Test.YtgmfelikmjclbaaDoorKindHelp
import Derived.Test.YtgmfelikmjclbaaDoorKindMadeOne
import Derived.Outline
namespace Go.Proofs.YtgmfelikmjclbaaDoor.Nodes
open Go.ChangeShapes Go.WideShapes Go.ChangeAt Go.RowKit

set_option linter.unusedVariables false in
set_option maxRecDepth 100000 in
set_option maxHeartbeats 4000000 in
theorem made_less (va vb : Value) (a b : List Nd) (k : Int) (w : World) (hf : KindFix w) (hA : ReadsN w va a) (hB : ReadsN w vb b) (hk0 : 0 ≤ k) (hk1 : k ≤ 255) (ha7 : a.length ≤ 70) (hb7 : b.length ≤ 70) (x y : Bool) (ax ay : Int) (hx : ofV a = (x, ax, 0)) (hy : ofV b = (y, ay, 0)) (hcl : 12 ≤ k ∧ k ≤ 15) (c : Int) (hnc : checkV (madeL k 0 0 [a, b]) = c ∧ c = 0 ∧ nodeV k 0 0 [a, b] = (madeL k 0 0 [a, b], 0)) :
    Calls Tryd.prog 7 #[va, vb, .int .u8 k] w fun e w' => e = .returned (.bool true) ∧ Below w.heap.size w w' := by
  have AL := Lib.hid (fun (W : World) (h : Below w.heap.size w W) => alive6_any W (hf.below h))
  have GA := Lib.hid (fun (W : World) (h : Below w.heap.size w W) => great_any va a W (hA.below h))
  have GB := Lib.hid (fun (W : World) (h : Below w.heap.size w W) => great_any vb b W (hB.below h))
  have OA := Lib.hid (fun (W : World) (h : Below w.heap.size w W) (h70 : a.length ≤ 70) => kindsOf_any va a W (hf.below h) (hA.below h) (by omega))
  have OB := Lib.hid (fun (W : World) (h : Below w.heap.size w W) (h70 : b.length ≤ 70) => kindsOf_any vb b W (hf.below h) (hB.below h) (by omega))
  have PT := Lib.hid (fun (W : World) => nodesParts_same k W)
  have F := Lib.hid hf
  have HRA := Lib.hid hA
  have HRB := Lib.hid hB
  obtain ⟨ada, capa, rfl⟩ := hA.shape
  obtain ⟨adb, capb, rfl⟩ := hB.shape
  have HB0 := Lib.hid (Below.refl w.heap.size w)
  rw [decide_eq_false (by omega)] at GA GB
  have hka : arity k = 2 := by unfold arity; rw [if_neg (by omega), if_neg (by omega)]
  rw [parts_ok (by omega) (by omega), hka] at PT
  have hq5 : (k == 5) = false := by rw [beq_eq_false_iff_ne]; omega
  have hq6 : (k == 6) = false := by rw [beq_eq_false_iff_ne]; omega
  have hd17 : decide (k ≤ 17) = true := decide_eq_true (by omega)
  have hd16 : decide (16 ≤ k) = false := decide_eq_false (by omega)
  have hd12 : decide (12 ≤ k) = true := decide_eq_true (by omega)
  have N1 := Lib.hid (fun (W : World) (h : Below w.heap.size w W) => nodesNode_any k 0 0 _ [a] _ (one_reads (hA.below h) W.heap.size rfl) hk0 hk1 (fun p hp => by simp at hp; subst hp; omega) (by simp))
  rw [node_arg hka] at N1
  have ND := Lib.hid (fun (W : World) (h : Below w.heap.size w W) => nodesNode_any k 0 0 _ [a, b] _ (pair_reads (hA.below h) (hB.below h) W.heap.size rfl) hk0 hk1 (fun p hp => by simp at hp; rcases hp with rfl | rfl <;> omega) (by simp))
  rw [hnc.2.2] at ND
  have hl1 := made_len2 k a b
  have MO := made_two (k := k) (n := 0) (p := 0) (a := a) (b := b) (by rw [hx]) (by rw [hy]) (by rw [hnc.1]; exact hnc.2.1)
  rw [hx] at OA MO
  rw [hy] at OB MO
  have hgv : givesB k = true := by unfold givesB; exact decide_eq_true (by omega)
  have OM := Lib.hid (fun vo (W : World) (h : Below w.heap.size w W) (hr : ReadsN W vo (madeL k 0 0 [a, b])) => kindsOf_any vo _ W (F.out.below h) hr (by omega))
  rw [MO, hgv] at OM
  obtain ⟨L, hL⟩ : ∃ L : Nat, a.length + b.length = L := ⟨_, rfl⟩
  have hLi : (a.length : Int) + b.length = L := by omega
  rw [hLi] at OM
  have HLL : Hid ((madeL k 0 0 [a, b]).length = L + 1) := Lib.hid (by omega)
  have hL1' : L ≤ 140 := by omega
  have hLL : ((L : Int) == L) = true := by simp
  have hfb : ∀ x y, fitB k x y = (!x && !y) := fun x y => by unfold fitB; rw [if_neg (by omega), if_neg (by omega), if_neg (by omega), if_neg (by omega), if_neg (by omega)]
  simp only at OM
  clear hf hA hB hx hy hka MO hnc hl1 hgv hLi hL
  cases x <;> cases y
  · have hfc : fitB k false false = true := by rw [hfb]; rfl
    rw [hfc, if_pos rfl] at OM
    simp only at OM
    clear hfc hfb
    go_enter Tryd.func7, Tryd.ntmps7
    go_wp2_with fail
    refine (GA.out _ HB0.out).mono ?_
    rintro e w1 ⟨rfl, rfl⟩
    have HB1 := HB0
    go_wp2_with fail
    refine (GB.out _ HB1.out).mono ?_
    rintro e w2 ⟨rfl, rfl⟩
    have HB2 := HB1
    go_wp2_with fail
    refine (PT.out _).mono ?_
    rintro e w3 ⟨rfl, rfl⟩
    have HB3 := HB2
    go_wp2_with fail
    refine (OA.out _ HB3.out ha7).mono ?_
    rintro e w4 ⟨rfl, hb⟩
    have HB4 := Lib.hid (below_then HB3.out hb)
    clear hb
    go_wp2_with fail
    refine (OB.out _ HB4.out hb7).mono ?_
    rintro e w5 ⟨rfl, hb⟩
    have HB5 := Lib.hid (below_then HB4.out hb)
    clear hb
    go_wp2_with fail
    refine (N1.out _ HB5.out).mono ?_
    rintro e w6 ⟨vm5, rfl, hom, hb⟩
    have HB6 := Lib.hid (below_box HB5.out hb)
    clear hb hom
    go_wp2_with fail
    refine (ND.out _ HB6.out).mono ?_
    rintro e w7 ⟨vm6, rfl, hom, hb⟩
    have HB7 := Lib.hid (below_box HB6.out hb)
    have OM1 := Lib.hid (OM.out vm6 _ HB7.out (own_readsN hom))
    obtain ⟨adm, capm, hvm⟩ := own_shape hom
    simp only [HLL.out] at hvm
    subst hvm
    clear hb hom
    go_wp2_with fail
    refine (OM1.out).mono ?_
    rintro e w8 ⟨rfl, hb⟩
    have HB8 := Lib.hid (below_then HB7.out hb)
    clear hb
    go_wp2_with fail
    refine (AL.out _ HB8.out).mono ?_
    rintro e w9 ⟨rfl, hb⟩
    have HB9 := Lib.hid (below_then HB8.out hb)
    clear hb
    go_wp2_with fail
    go_ret
    exact ⟨rfl, HB9.out⟩
  · have hfc : fitB k false true = false := by rw [hfb]; rfl
    rw [hfc, if_neg (by decide)] at OM
    simp only at OM
    clear hfc hfb
    go_enter Tryd.func7, Tryd.ntmps7
    go_wp2_with fail
    refine (GA.out _ HB0.out).mono ?_
    rintro e w1 ⟨rfl, rfl⟩
    have HB1 := HB0
    go_wp2_with fail
    refine (GB.out _ HB1.out).mono ?_
    rintro e w2 ⟨rfl, rfl⟩
    have HB2 := HB1
    go_wp2_with fail
    refine (PT.out _).mono ?_
    rintro e w3 ⟨rfl, rfl⟩
    have HB3 := HB2
    go_wp2_with fail
    refine (OA.out _ HB3.out ha7).mono ?_
    rintro e w4 ⟨rfl, hb⟩
    have HB4 := Lib.hid (below_then HB3.out hb)
    clear hb
    go_wp2_with fail
    refine (OB.out _ HB4.out hb7).mono ?_
    rintro e w5 ⟨rfl, hb⟩
    have HB5 := Lib.hid (below_then HB4.out hb)
    clear hb
    go_wp2_with fail
    refine (N1.out _ HB5.out).mono ?_
    rintro e w6 ⟨vm5, rfl, hom, hb⟩
    have HB6 := Lib.hid (below_box HB5.out hb)
    clear hb hom
    go_wp2_with fail
    refine (ND.out _ HB6.out).mono ?_
    rintro e w7 ⟨vm6, rfl, hom, hb⟩
    have HB7 := Lib.hid (below_box HB6.out hb)
    have OM1 := Lib.hid (OM.out vm6 _ HB7.out (own_readsN hom))
    obtain ⟨adm, capm, hvm⟩ := own_shape hom
    simp only [HLL.out] at hvm
    subst hvm
    clear hb hom
    go_wp2_with fail
    refine (OM1.out).mono ?_
    rintro e w8 ⟨rfl, hb⟩
    have HB8 := Lib.hid (below_then HB7.out hb)
    clear hb
    go_wp2_with fail
    refine (AL.out _ HB8.out).mono ?_
    rintro e w9 ⟨rfl, hb⟩
    have HB9 := Lib.hid (below_then HB8.out hb)
    clear hb
    go_wp2_with fail
    go_ret
    exact ⟨rfl, HB9.out⟩
  · have hfc : fitB k true false = false := by rw [hfb]; rfl
    rw [hfc, if_neg (by decide)] at OM
    simp only at OM
    clear hfc hfb
    go_enter Tryd.func7, Tryd.ntmps7
    go_wp2_with fail
    refine (GA.out _ HB0.out).mono ?_
    rintro e w1 ⟨rfl, rfl⟩
    have HB1 := HB0
    go_wp2_with fail
    refine (GB.out _ HB1.out).mono ?_
    rintro e w2 ⟨rfl, rfl⟩
    have HB2 := HB1
    go_wp2_with fail
    refine (PT.out _).mono ?_
    rintro e w3 ⟨rfl, rfl⟩
    have HB3 := HB2
    go_wp2_with fail
    refine (OA.out _ HB3.out ha7).mono ?_
    rintro e w4 ⟨rfl, hb⟩
    have HB4 := Lib.hid (below_then HB3.out hb)
    clear hb
    go_wp2_with fail
    refine (OB.out _ HB4.out hb7).mono ?_
    rintro e w5 ⟨rfl, hb⟩
    have HB5 := Lib.hid (below_then HB4.out hb)
    clear hb
    go_wp2_with fail
    refine (N1.out _ HB5.out).mono ?_
    rintro e w6 ⟨vm5, rfl, hom, hb⟩
    have HB6 := Lib.hid (below_box HB5.out hb)
    clear hb hom
    go_wp2_with fail
    refine (ND.out _ HB6.out).mono ?_
    rintro e w7 ⟨vm6, rfl, hom, hb⟩
    have HB7 := Lib.hid (below_box HB6.out hb)
    have OM1 := Lib.hid (OM.out vm6 _ HB7.out (own_readsN hom))
    obtain ⟨adm, capm, hvm⟩ := own_shape hom
    simp only [HLL.out] at hvm
    subst hvm
    clear hb hom
    go_wp2_with fail
    refine (OM1.out).mono ?_
    rintro e w8 ⟨rfl, hb⟩
    have HB8 := Lib.hid (below_then HB7.out hb)
    clear hb
    go_wp2_with fail
    refine (AL.out _ HB8.out).mono ?_
    rintro e w9 ⟨rfl, hb⟩
    have HB9 := Lib.hid (below_then HB8.out hb)
    clear hb
    go_wp2_with fail
    go_ret
    exact ⟨rfl, HB9.out⟩
  · have hfc : fitB k true true = false := by rw [hfb]; rfl
    rw [hfc, if_neg (by decide)] at OM
    simp only at OM
    clear hfc hfb
    go_enter Tryd.func7, Tryd.ntmps7
    go_wp2_with fail
    refine (GA.out _ HB0.out).mono ?_
    rintro e w1 ⟨rfl, rfl⟩
    have HB1 := HB0
    go_wp2_with fail
    refine (GB.out _ HB1.out).mono ?_
    rintro e w2 ⟨rfl, rfl⟩
    have HB2 := HB1
    go_wp2_with fail
    refine (PT.out _).mono ?_
    rintro e w3 ⟨rfl, rfl⟩
    have HB3 := HB2
    go_wp2_with fail
    refine (OA.out _ HB3.out ha7).mono ?_
    rintro e w4 ⟨rfl, hb⟩
    have HB4 := Lib.hid (below_then HB3.out hb)
    clear hb
    go_wp2_with fail
    refine (OB.out _ HB4.out hb7).mono ?_
    rintro e w5 ⟨rfl, hb⟩
    have HB5 := Lib.hid (below_then HB4.out hb)
    clear hb
    go_wp2_with fail
    refine (N1.out _ HB5.out).mono ?_
    rintro e w6 ⟨vm5, rfl, hom, hb⟩
    have HB6 := Lib.hid (below_box HB5.out hb)
    clear hb hom
    go_wp2_with fail
    refine (ND.out _ HB6.out).mono ?_
    rintro e w7 ⟨vm6, rfl, hom, hb⟩
    have HB7 := Lib.hid (below_box HB6.out hb)
    have OM1 := Lib.hid (OM.out vm6 _ HB7.out (own_readsN hom))
    obtain ⟨adm, capm, hvm⟩ := own_shape hom
    simp only [HLL.out] at hvm
    subst hvm
    clear hb hom
    go_wp2_with fail
    refine (OM1.out).mono ?_
    rintro e w8 ⟨rfl, hb⟩
    have HB8 := Lib.hid (below_then HB7.out hb)
    clear hb
    go_wp2_with fail
    refine (AL.out _ HB8.out).mono ?_
    rintro e w9 ⟨rfl, hb⟩
    have HB9 := Lib.hid (below_then HB8.out hb)
    clear hb
    go_wp2_with fail
    go_ret
    exact ⟨rfl, HB9.out⟩
set_option linter.unusedVariables false in
set_option maxRecDepth 100000 in
set_option maxHeartbeats 4000000 in
theorem made_less_err (va vb : Value) (a b : List Nd) (k : Int) (w : World) (hf : KindFix w) (hA : ReadsN w va a) (hB : ReadsN w vb b) (hk0 : 0 ≤ k) (hk1 : k ≤ 255) (ha7 : a.length ≤ 70) (hb7 : b.length ≤ 70) (x y : Bool) (ax ay : Int) (hx : ofV a = (x, ax, 0)) (hy : ofV b = (y, ay, 0)) (hcl : 12 ≤ k ∧ k ≤ 15) (c : Int) (hnc : (c = 4 ∨ c = 34) ∧ nodeV k 0 0 [a, b] = ([], c)) :
    Calls Tryd.prog 7 #[va, vb, .int .u8 k] w fun e w' => e = .returned (.bool true) ∧ Below w.heap.size w w' := by
  have AL := Lib.hid (fun (W : World) (h : Below w.heap.size w W) => alive6_any W (hf.below h))
  have GA := Lib.hid (fun (W : World) (h : Below w.heap.size w W) => great_any va a W (hA.below h))
  have GB := Lib.hid (fun (W : World) (h : Below w.heap.size w W) => great_any vb b W (hB.below h))
  have OA := Lib.hid (fun (W : World) (h : Below w.heap.size w W) (h70 : a.length ≤ 70) => kindsOf_any va a W (hf.below h) (hA.below h) (by omega))
  have OB := Lib.hid (fun (W : World) (h : Below w.heap.size w W) (h70 : b.length ≤ 70) => kindsOf_any vb b W (hf.below h) (hB.below h) (by omega))
  have PT := Lib.hid (fun (W : World) => nodesParts_same k W)
  have F := Lib.hid hf
  have HRA := Lib.hid hA
  have HRB := Lib.hid hB
  obtain ⟨ada, capa, rfl⟩ := hA.shape
  obtain ⟨adb, capb, rfl⟩ := hB.shape
  have HB0 := Lib.hid (Below.refl w.heap.size w)
  rw [decide_eq_false (by omega)] at GA GB
  have hka : arity k = 2 := by unfold arity; rw [if_neg (by omega), if_neg (by omega)]
  rw [parts_ok (by omega) (by omega), hka] at PT
  have hq5 : (k == 5) = false := by rw [beq_eq_false_iff_ne]; omega
  have hq6 : (k == 6) = false := by rw [beq_eq_false_iff_ne]; omega
  have hd17 : decide (k ≤ 17) = true := decide_eq_true (by omega)
  have hd16 : decide (16 ≤ k) = false := decide_eq_false (by omega)
  have hd12 : decide (12 ≤ k) = true := decide_eq_true (by omega)
  have N1 := Lib.hid (fun (W : World) (h : Below w.heap.size w W) => nodesNode_any k 0 0 _ [a] _ (one_reads (hA.below h) W.heap.size rfl) hk0 hk1 (fun p hp => by simp at hp; subst hp; omega) (by simp))
  rw [node_arg hka] at N1
  have ND := Lib.hid (fun (W : World) (h : Below w.heap.size w W) => nodesNode_any k 0 0 _ [a, b] _ (pair_reads (hA.below h) (hB.below h) W.heap.size rfl) hk0 hk1 (fun p hp => by simp at hp; rcases hp with rfl | rfl <;> omega) (by simp))
  rw [hnc.2] at ND
  rw [hx] at OA
  rw [hy] at OB
  have hcc := hnc.1
  clear hf hA hB hx hy hka hnc
  rcases hcc with rfl | rfl <;> cases x <;> cases y
  · skip
    go_enter Tryd.func7, Tryd.ntmps7
    go_wp2_with fail
    refine (GA.out _ HB0.out).mono ?_
    rintro e w1 ⟨rfl, rfl⟩
    have HB1 := HB0
    go_wp2_with fail
    refine (GB.out _ HB1.out).mono ?_
    rintro e w2 ⟨rfl, rfl⟩
    have HB2 := HB1
    go_wp2_with fail
    refine (PT.out _).mono ?_
    rintro e w3 ⟨rfl, rfl⟩
    have HB3 := HB2
    go_wp2_with fail
    refine (OA.out _ HB3.out ha7).mono ?_
    rintro e w4 ⟨rfl, hb⟩
    have HB4 := Lib.hid (below_then HB3.out hb)
    clear hb
    go_wp2_with fail
    refine (OB.out _ HB4.out hb7).mono ?_
    rintro e w5 ⟨rfl, hb⟩
    have HB5 := Lib.hid (below_then HB4.out hb)
    clear hb
    go_wp2_with fail
    refine (N1.out _ HB5.out).mono ?_
    rintro e w6 ⟨vm5, rfl, hom, hb⟩
    have HB6 := Lib.hid (below_box HB5.out hb)
    clear hb hom
    go_wp2_with fail
    refine (ND.out _ HB6.out).mono ?_
    rintro e w7 ⟨vm6, rfl, hom, hb⟩
    have HB7 := Lib.hid (below_box HB6.out hb)
    clear hb hom
    go_wp2_with fail
    refine (AL.out _ HB7.out).mono ?_
    rintro e w8 ⟨rfl, hb⟩
    have HB8 := Lib.hid (below_then HB7.out hb)
    clear hb
    go_wp2_with fail
    go_ret
    exact ⟨rfl, HB8.out⟩
  · skip
    go_enter Tryd.func7, Tryd.ntmps7
    go_wp2_with fail
    refine (GA.out _ HB0.out).mono ?_
    rintro e w1 ⟨rfl, rfl⟩
    have HB1 := HB0
    go_wp2_with fail
    refine (GB.out _ HB1.out).mono ?_
    rintro e w2 ⟨rfl, rfl⟩
    have HB2 := HB1
    go_wp2_with fail
    refine (PT.out _).mono ?_
    rintro e w3 ⟨rfl, rfl⟩
    have HB3 := HB2
    go_wp2_with fail
    refine (OA.out _ HB3.out ha7).mono ?_
    rintro e w4 ⟨rfl, hb⟩
    have HB4 := Lib.hid (below_then HB3.out hb)
    clear hb
    go_wp2_with fail
    refine (OB.out _ HB4.out hb7).mono ?_
    rintro e w5 ⟨rfl, hb⟩
    have HB5 := Lib.hid (below_then HB4.out hb)
    clear hb
    go_wp2_with fail
    refine (N1.out _ HB5.out).mono ?_
    rintro e w6 ⟨vm5, rfl, hom, hb⟩
    have HB6 := Lib.hid (below_box HB5.out hb)
    clear hb hom
    go_wp2_with fail
    refine (ND.out _ HB6.out).mono ?_
    rintro e w7 ⟨vm6, rfl, hom, hb⟩
    have HB7 := Lib.hid (below_box HB6.out hb)
    clear hb hom
    go_wp2_with fail
    refine (AL.out _ HB7.out).mono ?_
    rintro e w8 ⟨rfl, hb⟩
    have HB8 := Lib.hid (below_then HB7.out hb)
    clear hb
    go_wp2_with fail
    go_ret
    exact ⟨rfl, HB8.out⟩
  · skip
    go_enter Tryd.func7, Tryd.ntmps7
    go_wp2_with fail
    refine (GA.out _ HB0.out).mono ?_
    rintro e w1 ⟨rfl, rfl⟩
    have HB1 := HB0
    go_wp2_with fail
    refine (GB.out _ HB1.out).mono ?_
    rintro e w2 ⟨rfl, rfl⟩
    have HB2 := HB1
    go_wp2_with fail
    refine (PT.out _).mono ?_
    rintro e w3 ⟨rfl, rfl⟩
    have HB3 := HB2
    go_wp2_with fail
    refine (OA.out _ HB3.out ha7).mono ?_
    rintro e w4 ⟨rfl, hb⟩
    have HB4 := Lib.hid (below_then HB3.out hb)
    clear hb
    go_wp2_with fail
    refine (OB.out _ HB4.out hb7).mono ?_
    rintro e w5 ⟨rfl, hb⟩
    have HB5 := Lib.hid (below_then HB4.out hb)
    clear hb
    go_wp2_with fail
    refine (N1.out _ HB5.out).mono ?_
    rintro e w6 ⟨vm5, rfl, hom, hb⟩
    have HB6 := Lib.hid (below_box HB5.out hb)
    clear hb hom
    go_wp2_with fail
    refine (ND.out _ HB6.out).mono ?_
    rintro e w7 ⟨vm6, rfl, hom, hb⟩
    have HB7 := Lib.hid (below_box HB6.out hb)
    clear hb hom
    go_wp2_with fail
    refine (AL.out _ HB7.out).mono ?_
    rintro e w8 ⟨rfl, hb⟩
    have HB8 := Lib.hid (below_then HB7.out hb)
    clear hb
    go_wp2_with fail
    go_ret
    exact ⟨rfl, HB8.out⟩
  · skip
    go_enter Tryd.func7, Tryd.ntmps7
    go_wp2_with fail
    refine (GA.out _ HB0.out).mono ?_
    rintro e w1 ⟨rfl, rfl⟩
    have HB1 := HB0
    go_wp2_with fail
    refine (GB.out _ HB1.out).mono ?_
    rintro e w2 ⟨rfl, rfl⟩
    have HB2 := HB1
    go_wp2_with fail
    refine (PT.out _).mono ?_
    rintro e w3 ⟨rfl, rfl⟩
    have HB3 := HB2
    go_wp2_with fail
    refine (OA.out _ HB3.out ha7).mono ?_
    rintro e w4 ⟨rfl, hb⟩
    have HB4 := Lib.hid (below_then HB3.out hb)
    clear hb
    go_wp2_with fail
    refine (OB.out _ HB4.out hb7).mono ?_
    rintro e w5 ⟨rfl, hb⟩
    have HB5 := Lib.hid (below_then HB4.out hb)
    clear hb
    go_wp2_with fail
    refine (N1.out _ HB5.out).mono ?_
    rintro e w6 ⟨vm5, rfl, hom, hb⟩
    have HB6 := Lib.hid (below_box HB5.out hb)
    clear hb hom
    go_wp2_with fail
    refine (ND.out _ HB6.out).mono ?_
    rintro e w7 ⟨vm6, rfl, hom, hb⟩
    have HB7 := Lib.hid (below_box HB6.out hb)
    clear hb hom
    go_wp2_with fail
    refine (AL.out _ HB7.out).mono ?_
    rintro e w8 ⟨rfl, hb⟩
    have HB8 := Lib.hid (below_then HB7.out hb)
    clear hb
    go_wp2_with fail
    go_ret
    exact ⟨rfl, HB8.out⟩
  · skip
    go_enter Tryd.func7, Tryd.ntmps7
    go_wp2_with fail
    refine (GA.out _ HB0.out).mono ?_
    rintro e w1 ⟨rfl, rfl⟩
    have HB1 := HB0
    go_wp2_with fail
    refine (GB.out _ HB1.out).mono ?_
    rintro e w2 ⟨rfl, rfl⟩
    have HB2 := HB1
    go_wp2_with fail
    refine (PT.out _).mono ?_
    rintro e w3 ⟨rfl, rfl⟩
    have HB3 := HB2
    go_wp2_with fail
    refine (OA.out _ HB3.out ha7).mono ?_
    rintro e w4 ⟨rfl, hb⟩
    have HB4 := Lib.hid (below_then HB3.out hb)
    clear hb
    go_wp2_with fail
    refine (OB.out _ HB4.out hb7).mono ?_
    rintro e w5 ⟨rfl, hb⟩
    have HB5 := Lib.hid (below_then HB4.out hb)
    clear hb
    go_wp2_with fail
    refine (N1.out _ HB5.out).mono ?_
    rintro e w6 ⟨vm5, rfl, hom, hb⟩
    have HB6 := Lib.hid (below_box HB5.out hb)
    clear hb hom
    go_wp2_with fail
    refine (ND.out _ HB6.out).mono ?_
    rintro e w7 ⟨vm6, rfl, hom, hb⟩
    have HB7 := Lib.hid (below_box HB6.out hb)
    clear hb hom
    go_wp2_with fail
    refine (AL.out _ HB7.out).mono ?_
    rintro e w8 ⟨rfl, hb⟩
    have HB8 := Lib.hid (below_then HB7.out hb)
    clear hb
    go_wp2_with fail
    go_ret
    exact ⟨rfl, HB8.out⟩
  · skip
    go_enter Tryd.func7, Tryd.ntmps7
    go_wp2_with fail
    refine (GA.out _ HB0.out).mono ?_
    rintro e w1 ⟨rfl, rfl⟩
    have HB1 := HB0
    go_wp2_with fail
    refine (GB.out _ HB1.out).mono ?_
    rintro e w2 ⟨rfl, rfl⟩
    have HB2 := HB1
    go_wp2_with fail
    refine (PT.out _).mono ?_
    rintro e w3 ⟨rfl, rfl⟩
    have HB3 := HB2
    go_wp2_with fail
    refine (OA.out _ HB3.out ha7).mono ?_
    rintro e w4 ⟨rfl, hb⟩
    have HB4 := Lib.hid (below_then HB3.out hb)
    clear hb
    go_wp2_with fail
    refine (OB.out _ HB4.out hb7).mono ?_
    rintro e w5 ⟨rfl, hb⟩
    have HB5 := Lib.hid (below_then HB4.out hb)
    clear hb
    go_wp2_with fail
    refine (N1.out _ HB5.out).mono ?_
    rintro e w6 ⟨vm5, rfl, hom, hb⟩
    have HB6 := Lib.hid (below_box HB5.out hb)
    clear hb hom
    go_wp2_with fail
    refine (ND.out _ HB6.out).mono ?_
    rintro e w7 ⟨vm6, rfl, hom, hb⟩
    have HB7 := Lib.hid (below_box HB6.out hb)
    clear hb hom
    go_wp2_with fail
    refine (AL.out _ HB7.out).mono ?_
    rintro e w8 ⟨rfl, hb⟩
    have HB8 := Lib.hid (below_then HB7.out hb)
    clear hb
    go_wp2_with fail
    go_ret
    exact ⟨rfl, HB8.out⟩
  · skip
    go_enter Tryd.func7, Tryd.ntmps7
    go_wp2_with fail
    refine (GA.out _ HB0.out).mono ?_
    rintro e w1 ⟨rfl, rfl⟩
    have HB1 := HB0
    go_wp2_with fail
    refine (GB.out _ HB1.out).mono ?_
    rintro e w2 ⟨rfl, rfl⟩
    have HB2 := HB1
    go_wp2_with fail
    refine (PT.out _).mono ?_
    rintro e w3 ⟨rfl, rfl⟩
    have HB3 := HB2
    go_wp2_with fail
    refine (OA.out _ HB3.out ha7).mono ?_
    rintro e w4 ⟨rfl, hb⟩
    have HB4 := Lib.hid (below_then HB3.out hb)
    clear hb
    go_wp2_with fail
    refine (OB.out _ HB4.out hb7).mono ?_
    rintro e w5 ⟨rfl, hb⟩
    have HB5 := Lib.hid (below_then HB4.out hb)
    clear hb
    go_wp2_with fail
    refine (N1.out _ HB5.out).mono ?_
    rintro e w6 ⟨vm5, rfl, hom, hb⟩
    have HB6 := Lib.hid (below_box HB5.out hb)
    clear hb hom
    go_wp2_with fail
    refine (ND.out _ HB6.out).mono ?_
    rintro e w7 ⟨vm6, rfl, hom, hb⟩
    have HB7 := Lib.hid (below_box HB6.out hb)
    clear hb hom
    go_wp2_with fail
    refine (AL.out _ HB7.out).mono ?_
    rintro e w8 ⟨rfl, hb⟩
    have HB8 := Lib.hid (below_then HB7.out hb)
    clear hb
    go_wp2_with fail
    go_ret
    exact ⟨rfl, HB8.out⟩
  · skip
    go_enter Tryd.func7, Tryd.ntmps7
    go_wp2_with fail
    refine (GA.out _ HB0.out).mono ?_
    rintro e w1 ⟨rfl, rfl⟩
    have HB1 := HB0
    go_wp2_with fail
    refine (GB.out _ HB1.out).mono ?_
    rintro e w2 ⟨rfl, rfl⟩
    have HB2 := HB1
    go_wp2_with fail
    refine (PT.out _).mono ?_
    rintro e w3 ⟨rfl, rfl⟩
    have HB3 := HB2
    go_wp2_with fail
    refine (OA.out _ HB3.out ha7).mono ?_
    rintro e w4 ⟨rfl, hb⟩
    have HB4 := Lib.hid (below_then HB3.out hb)
    clear hb
    go_wp2_with fail
    refine (OB.out _ HB4.out hb7).mono ?_
    rintro e w5 ⟨rfl, hb⟩
    have HB5 := Lib.hid (below_then HB4.out hb)
    clear hb
    go_wp2_with fail
    refine (N1.out _ HB5.out).mono ?_
    rintro e w6 ⟨vm5, rfl, hom, hb⟩
    have HB6 := Lib.hid (below_box HB5.out hb)
    clear hb hom
    go_wp2_with fail
    refine (ND.out _ HB6.out).mono ?_
    rintro e w7 ⟨vm6, rfl, hom, hb⟩
    have HB7 := Lib.hid (below_box HB6.out hb)
    clear hb hom
    go_wp2_with fail
    refine (AL.out _ HB7.out).mono ?_
    rintro e w8 ⟨rfl, hb⟩
    have HB8 := Lib.hid (below_then HB7.out hb)
    clear hb
    go_wp2_with fail
    go_ret
    exact ⟨rfl, HB8.out⟩
end Go.Proofs.YtgmfelikmjclbaaDoor.Nodes

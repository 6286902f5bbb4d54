/-
  Walk of the statement EvalsMade: the value of an expression that is made of two others is what its operator gives for theirs.
-/
import Derived.Test.YtflmpjejlkhpcaaDoorEvalHelp
import Derived.Test.YtflmpjejlkhpcaaDoorKindMadeOne
import Derived.Test.YtflmpjejlkhpcaaDoorIntsDo
import Derived.Outline
namespace Go.Proofs.YtflmpjejlkhpcaaDoor.Nodes
open Go.ChangeShapes Go.WideShapes Go.ChangeAt Go.RowKit

theorem great_b (v : Value) (l : List Nd) (w : World) (h : ReadsN w v l) : Calls Tryd.prog 18 #[v] w fun e w' => e = .returned (.bool (decide (70 < l.length))) ∧ Below w.heap.size w w' :=
  (great_any v l w h).mono (by rintro e w' ⟨he, rfl⟩; exact ⟨he, Below.refl _ _⟩)
set_option maxRecDepth 100000 in
set_option maxHeartbeats 2000000 in
theorem emade_great (r : Rec) (va vb : Value) (a b : List Nd) (k : Int) (w : World) (hf : KindFix w) (hA : ReadsN w va a) (hB : ReadsN w vb b) (hk0 : 0 ≤ k) (hk1 : k ≤ 255) (h : 70 < a.length ∨ 70 < b.length ∨ k < 7 ∨ 19 < k) :
    Calls Tryd.prog 8 #[va, vb, .int .u8 k, recVal r] w fun e w' => e = .returned (.bool true) ∧ Below w.heap.size w w' := by
  obtain ⟨W0, hW0⟩ : ∃ W0, w.alloc (recBox r) = W0 := ⟨_, rfl⟩
  have hb0 : Below w.heap.size w W0 := by rw [← hW0]; exact (Below.refl _ w).alloc (Nat.le_refl _) _
  have hsz : W0.heap.size = w.heap.size + 1 := by rw [← hW0]; simp
  have GG : Hid (Calls Tryd.prog 18 #[va] (w.alloc (recBox r)) fun e w' => e = .returned (.bool (decide (70 < a.length))) ∧ Below W0.heap.size W0 w') := Lib.hid (by rw [hW0]; exact (great_any va a W0 (hA.below hb0)).mono (by rintro e w' ⟨he, rfl⟩; exact ⟨he, Below.refl _ _⟩))
  have HRA := Lib.hid (hA.below hb0)
  have HRB := Lib.hid (hB.below hb0)
  have F := Lib.hid (hf.below hb0)
  have GB := Lib.hid (fun (W : World) (h : Below W0.heap.size W0 W) => great_b vb b W (HRB.out.below h))
  have HC0 : Hid (RecAt W0 w.heap.size r) := Lib.hid (by rw [← hW0]; exact rec_at w r)
  have FIN : Hid (∀ wx, Below W0.heap.size W0 wx → Below w.heap.size w wx) := Lib.hid fun wx h => by
    rw [← hW0] at h
    exact below_box (Below.refl _ w) h
  have HSZ := Lib.hid hsz
  have AL := Lib.hid (fun (W : World) (h : Below W0.heap.size W0 W) => alive7_any W (F.out.below h))
  obtain ⟨ada, capa, rfl⟩ := hA.shape
  obtain ⟨adb, capb, rfl⟩ := hB.shape
  unfold recBox at GG
  clear hb0 hsz hW0 hf hA hB
  unfold recVal
  cases hga : decide (70 < a.length)
  · rw [hga] at GG
    cases hgb : decide (70 < b.length)
    · rw [hgb] at GB
      rw [decide_eq_false_iff_not] at hga hgb
      by_cases h7 : k < 7
      · have hd : decide (k < 7) = true := decide_eq_true h7
        clear hga hgb h
        go_enter Tryd.func8, Tryd.ntmps8
        go_wp2_with fail
        refine (GG.out).mono ?_
        rintro e w1 ⟨rfl, hb⟩
        have HB1 := Lib.hid hb
        clear hb
        go_wp2_with fail
        refine (GB.out _ HB1.out).mono ?_
        rintro e w2 ⟨rfl, hb⟩
        have HB2 := Lib.hid (below_then HB1.out hb)
        clear hb
        go_wp2_with fail
        refine (AL.out _ HB2.out).mono ?_
        rintro e w3 ⟨rfl, hb⟩
        have HB3 := Lib.hid (below_then HB2.out hb)
        clear hb
        go_wp2_with fail
        go_ret
        exact ⟨rfl, FIN.out _ HB3.out⟩
      · have hd : decide (k < 7) = false := decide_eq_false h7
        have hd2 : decide (19 < k) = true := decide_eq_true (by omega)
        clear hga hgb h
        go_enter Tryd.func8, Tryd.ntmps8
        go_wp2_with fail
        refine (GG.out).mono ?_
        rintro e w1 ⟨rfl, hb⟩
        have HB1 := Lib.hid hb
        clear hb
        go_wp2_with fail
        refine (GB.out _ HB1.out).mono ?_
        rintro e w2 ⟨rfl, hb⟩
        have HB2 := Lib.hid (below_then HB1.out hb)
        clear hb
        go_wp2_with fail
        refine (AL.out _ HB2.out).mono ?_
        rintro e w3 ⟨rfl, hb⟩
        have HB3 := Lib.hid (below_then HB2.out hb)
        clear hb
        go_wp2_with fail
        go_ret
        exact ⟨rfl, FIN.out _ HB3.out⟩
    · rw [hgb] at GB
      clear hga hgb h
      go_enter Tryd.func8, Tryd.ntmps8
      go_wp2_with fail
      refine (GG.out).mono ?_
      rintro e w1 ⟨rfl, hb⟩
      have HB1 := Lib.hid hb
      clear hb
      go_wp2_with fail
      refine (GB.out _ HB1.out).mono ?_
      rintro e w2 ⟨rfl, hb⟩
      have HB2 := Lib.hid (below_then HB1.out hb)
      clear hb
      go_wp2_with fail
      refine (AL.out _ HB2.out).mono ?_
      rintro e w3 ⟨rfl, hb⟩
      have HB3 := Lib.hid (below_then HB2.out hb)
      clear hb
      go_wp2_with fail
      go_ret
      exact ⟨rfl, FIN.out _ HB3.out⟩
  · rw [hga] at GG
    clear hga h GB
    go_enter Tryd.func8, Tryd.ntmps8
    go_wp2_with fail
    refine (GG.out).mono ?_
    rintro e w1 ⟨rfl, hb⟩
    have HB1 := Lib.hid hb
    clear hb
    go_wp2_with fail
    refine (AL.out _ HB1.out).mono ?_
    rintro e w2 ⟨rfl, hb⟩
    have HB2 := Lib.hid (below_then HB1.out hb)
    clear hb
    go_wp2_with fail
    go_ret
    exact ⟨rfl, FIN.out _ HB2.out⟩
set_option maxRecDepth 100000 in
set_option maxHeartbeats 2000000 in
theorem emade_exits (r : Rec) (va vb : Value) (a b : List Nd) (k : Int) (w : World) (hf : KindFix w) (hA : ReadsN w va a) (hB : ReadsN w vb b) (hk0 : 0 ≤ k) (hk1 : k ≤ 255) (h70 : a.length ≤ 70) (h71 : b.length ≤ 70) (h7 : 7 ≤ k) (h19 : k ≤ 19) (h : (ofV a).2.2 ≠ 0 ∨ (ofV b).2.2 ≠ 0) :
    Calls Tryd.prog 8 #[va, vb, .int .u8 k, recVal r] w fun e w' => e = .returned (.bool true) ∧ Below w.heap.size w w' := by
  obtain ⟨W0, hW0⟩ : ∃ W0, w.alloc (recBox r) = W0 := ⟨_, rfl⟩
  have hb0 : Below w.heap.size w W0 := by rw [← hW0]; exact (Below.refl _ w).alloc (Nat.le_refl _) _
  have hsz : W0.heap.size = w.heap.size + 1 := by rw [← hW0]; simp
  have GG : Hid (Calls Tryd.prog 18 #[va] (w.alloc (recBox r)) fun e w' => e = .returned (.bool (decide (70 < a.length))) ∧ Below W0.heap.size W0 w') := Lib.hid (by rw [hW0]; exact (great_any va a W0 (hA.below hb0)).mono (by rintro e w' ⟨he, rfl⟩; exact ⟨he, Below.refl _ _⟩))
  have HRA := Lib.hid (hA.below hb0)
  have HRB := Lib.hid (hB.below hb0)
  have F := Lib.hid (hf.below hb0)
  have GB := Lib.hid (fun (W : World) (h : Below W0.heap.size W0 W) => great_b vb b W (HRB.out.below h))
  have HC0 : Hid (RecAt W0 w.heap.size r) := Lib.hid (by rw [← hW0]; exact rec_at w r)
  have FIN : Hid (∀ wx, Below W0.heap.size W0 wx → Below w.heap.size w wx) := Lib.hid fun wx h => by
    rw [← hW0] at h
    exact below_box (Below.refl _ w) h
  have HSZ := Lib.hid hsz
  have AL := Lib.hid (fun (W : World) (h : Below W0.heap.size W0 W) => alive7_any W (F.out.below h))
  obtain ⟨ada, capa, rfl⟩ := hA.shape
  obtain ⟨adb, capb, rfl⟩ := hB.shape
  unfold recBox at GG
  have EA := Lib.hid (fun (W : World) (h : Below W0.heap.size W0 W) => evalsOf_any r (.slice ada a.length capa) a W (F.out.below h) (HRA.out.below h) (by omega))
  have EB := Lib.hid (fun (W : World) (h : Below W0.heap.size W0 W) => evalsOf_any r (.slice adb b.length capb) b W (F.out.below h) (HRB.out.below h) (by omega))
  rw [decide_eq_false (by omega)] at GG
  have gb : decide (70 < b.length) = false := decide_eq_false (by omega)
  rw [gb] at GB
  have hd : decide (k < 7) = false := decide_eq_false (by omega)
  have hd2 : decide (19 < k) = false := decide_eq_false (by omega)
  obtain ⟨ea, hea⟩ : ∃ e, (ofV a).2.2 = e := ⟨_, rfl⟩
  obtain ⟨eb, heb⟩ : ∃ e, (ofV b).2.2 = e := ⟨_, rfl⟩
  obtain ⟨xa, hxa⟩ : ∃ e, ofE r a = e := ⟨_, rfl⟩
  obtain ⟨xb, hxb⟩ : ∃ e, ofE r b = e := ⟨_, rfl⟩
  rw [hea, hxa] at EA
  rw [heb, hxb] at EB
  rw [hea, heb] at h
  unfold recVal at EA EB
  clear hea heb hxa hxb gb h7 h19
  clear hb0 hsz hW0 hf hA hB
  unfold recVal
  by_cases h1 : ea = 0
  · have q1 : (ea != 0) = false := by rw [h1]; rfl
    have q2 : (eb != 0) = true := by rw [bne_iff_ne]; exact h.resolve_left (fun h2 => h2 h1)
    clear h h1
    go_enter Tryd.func8, Tryd.ntmps8
    go_wp2_with fail
    refine (GG.out).mono ?_
    rintro e w1 ⟨rfl, hb⟩
    have HB1 := Lib.hid hb
    clear hb
    go_wp2_with fail
    refine (GB.out _ HB1.out).mono ?_
    rintro e w2 ⟨rfl, hb⟩
    have HB2 := Lib.hid (below_then HB1.out hb)
    clear hb
    obtain ⟨t0, t1, t2⟩ := HC0.out.below (by have := HSZ.out; omega) HB2.out
    go_wp2_with fail
    refine (EA.out _ HB2.out).mono ?_
    rintro e w3 ⟨rfl, hb⟩
    have HB3 := Lib.hid (below_then HB2.out hb)
    clear hb t0 t1 t2
    obtain ⟨t0, t1, t2⟩ := HC0.out.below (by have := HSZ.out; omega) HB3.out
    go_wp2_with fail
    refine (EB.out _ HB3.out).mono ?_
    rintro e w4 ⟨rfl, hb⟩
    have HB4 := Lib.hid (below_then HB3.out hb)
    clear hb t0 t1 t2
    go_wp2_with fail
    refine (AL.out _ HB4.out).mono ?_
    rintro e w5 ⟨rfl, hb⟩
    have HB5 := Lib.hid (below_then HB4.out hb)
    clear hb
    go_wp2_with fail
    go_ret
    exact ⟨rfl, FIN.out _ HB5.out⟩
  · have q1 : (ea != 0) = true := by rw [bne_iff_ne]; exact h1
    clear h h1
    go_enter Tryd.func8, Tryd.ntmps8
    go_wp2_with fail
    refine (GG.out).mono ?_
    rintro e w1 ⟨rfl, hb⟩
    have HB1 := Lib.hid hb
    clear hb
    go_wp2_with fail
    refine (GB.out _ HB1.out).mono ?_
    rintro e w2 ⟨rfl, hb⟩
    have HB2 := Lib.hid (below_then HB1.out hb)
    clear hb
    obtain ⟨t0, t1, t2⟩ := HC0.out.below (by have := HSZ.out; omega) HB2.out
    go_wp2_with fail
    refine (EA.out _ HB2.out).mono ?_
    rintro e w3 ⟨rfl, hb⟩
    have HB3 := Lib.hid (below_then HB2.out hb)
    clear hb t0 t1 t2
    obtain ⟨t0, t1, t2⟩ := HC0.out.below (by have := HSZ.out; omega) HB3.out
    go_wp2_with fail
    refine (EB.out _ HB3.out).mono ?_
    rintro e w4 ⟨rfl, hb⟩
    have HB4 := Lib.hid (below_then HB3.out hb)
    clear hb t0 t1 t2
    go_wp2_with fail
    refine (AL.out _ HB4.out).mono ?_
    rintro e w5 ⟨rfl, hb⟩
    have HB5 := Lib.hid (below_then HB4.out hb)
    clear hb
    go_wp2_with fail
    go_ret
    exact ⟨rfl, FIN.out _ HB5.out⟩
set_option maxRecDepth 100000 in
set_option maxHeartbeats 2000000 in
theorem emade_err (r : Rec) (va vb : Value) (a b : List Nd) (k : Int) (w : World) (hf : KindFix w) (hA : ReadsN w va a) (hB : ReadsN w vb b) (hk0 : 0 ≤ k) (hk1 : k ≤ 255) (h70 : a.length ≤ 70) (h71 : b.length ≤ 70) (h7 : 7 ≤ k) (h19 : k ≤ 19) (h1 : (ofV a).2.2 = 0) (h2 : (ofV b).2.2 = 0) (c : Int) (hc : c = 4 ∨ c = 34) (hn : nodeV k 0 0 [a, b] = ([], c)) :
    Calls Tryd.prog 8 #[va, vb, .int .u8 k, recVal r] w fun e w' => e = .returned (.bool true) ∧ Below w.heap.size w w' := by
  obtain ⟨W0, hW0⟩ : ∃ W0, w.alloc (recBox r) = W0 := ⟨_, rfl⟩
  have hb0 : Below w.heap.size w W0 := by rw [← hW0]; exact (Below.refl _ w).alloc (Nat.le_refl _) _
  have hsz : W0.heap.size = w.heap.size + 1 := by rw [← hW0]; simp
  have GG : Hid (Calls Tryd.prog 18 #[va] (w.alloc (recBox r)) fun e w' => e = .returned (.bool (decide (70 < a.length))) ∧ Below W0.heap.size W0 w') := Lib.hid (by rw [hW0]; exact (great_any va a W0 (hA.below hb0)).mono (by rintro e w' ⟨he, rfl⟩; exact ⟨he, Below.refl _ _⟩))
  have HRA := Lib.hid (hA.below hb0)
  have HRB := Lib.hid (hB.below hb0)
  have F := Lib.hid (hf.below hb0)
  have GB := Lib.hid (fun (W : World) (h : Below W0.heap.size W0 W) => great_b vb b W (HRB.out.below h))
  have HC0 : Hid (RecAt W0 w.heap.size r) := Lib.hid (by rw [← hW0]; exact rec_at w r)
  have FIN : Hid (∀ wx, Below W0.heap.size W0 wx → Below w.heap.size w wx) := Lib.hid fun wx h => by
    rw [← hW0] at h
    exact below_box (Below.refl _ w) h
  have HSZ := Lib.hid hsz
  have AL := Lib.hid (fun (W : World) (h : Below W0.heap.size W0 W) => alive7_any W (F.out.below h))
  obtain ⟨ada, capa, rfl⟩ := hA.shape
  obtain ⟨adb, capb, rfl⟩ := hB.shape
  unfold recBox at GG
  have EA := Lib.hid (fun (W : World) (h : Below W0.heap.size W0 W) => evalsOf_any r (.slice ada a.length capa) a W (F.out.below h) (HRA.out.below h) (by omega))
  have EB := Lib.hid (fun (W : World) (h : Below W0.heap.size W0 W) => evalsOf_any r (.slice adb b.length capb) b W (F.out.below h) (HRB.out.below h) (by omega))
  rw [decide_eq_false (by omega)] at GG
  have gb : decide (70 < b.length) = false := decide_eq_false (by omega)
  rw [gb] at GB
  have hd : decide (k < 7) = false := decide_eq_false (by omega)
  have hd2 : decide (19 < k) = false := decide_eq_false (by omega)
  have ND := Lib.hid (fun (W : World) (h : Below W0.heap.size W0 W) => nodesNode_any k 0 0 _ [a, b] _ (pair_reads (HRA.out.below h) (HRB.out.below h) W.heap.size rfl) hk0 hk1 (fun p hp => by simp at hp; rcases hp with rfl | rfl <;> omega) (by simp))
  unfold ListEnds at ND
  obtain ⟨xa, hxa⟩ : ∃ e, ofE r a = e := ⟨_, rfl⟩
  obtain ⟨xb, hxb⟩ : ∃ e, ofE r b = e := ⟨_, rfl⟩
  rw [h1, hxa] at EA
  rw [h2, hxb] at EB
  unfold recVal at EA EB
  rw [hn] at ND
  clear hxa hxb gb h7 h19 h1 h2 hn
  clear hb0 hsz hW0 hf hA hB
  unfold recVal
  rcases hc with rfl | rfl
  · skip
    go_enter Tryd.func8, Tryd.ntmps8
    go_wp2_with fail
    refine (GG.out).mono ?_
    rintro e w1 ⟨rfl, hb⟩
    have HB1 := Lib.hid hb
    clear hb
    go_wp2_with fail
    refine (GB.out _ HB1.out).mono ?_
    rintro e w2 ⟨rfl, hb⟩
    have HB2 := Lib.hid (below_then HB1.out hb)
    clear hb
    obtain ⟨t0, t1, t2⟩ := HC0.out.below (by have := HSZ.out; omega) HB2.out
    go_wp2_with fail
    refine (EA.out _ HB2.out).mono ?_
    rintro e w3 ⟨rfl, hb⟩
    have HB3 := Lib.hid (below_then HB2.out hb)
    clear hb t0 t1 t2
    obtain ⟨t0, t1, t2⟩ := HC0.out.below (by have := HSZ.out; omega) HB3.out
    go_wp2_with fail
    refine (EB.out _ HB3.out).mono ?_
    rintro e w4 ⟨rfl, hb⟩
    have HB4 := Lib.hid (below_then HB3.out hb)
    clear hb t0 t1 t2
    go_wp2_with fail
    refine (ND.out _ HB4.out).mono ?_
    rintro e w5 ⟨vo, rfl, ho, hb⟩
    have HB5 := Lib.hid (below_box HB4.out hb)
    obtain ⟨ado, capo, hvo⟩ := own_shape ho
    subst hvo
    clear hb ho
    go_wp2_with fail
    refine (AL.out _ HB5.out).mono ?_
    rintro e w6 ⟨rfl, hb⟩
    have HB6 := Lib.hid (below_then HB5.out hb)
    clear hb
    go_wp2_with fail
    go_ret
    exact ⟨rfl, FIN.out _ HB6.out⟩
  · skip
    go_enter Tryd.func8, Tryd.ntmps8
    go_wp2_with fail
    refine (GG.out).mono ?_
    rintro e w1 ⟨rfl, hb⟩
    have HB1 := Lib.hid hb
    clear hb
    go_wp2_with fail
    refine (GB.out _ HB1.out).mono ?_
    rintro e w2 ⟨rfl, hb⟩
    have HB2 := Lib.hid (below_then HB1.out hb)
    clear hb
    obtain ⟨t0, t1, t2⟩ := HC0.out.below (by have := HSZ.out; omega) HB2.out
    go_wp2_with fail
    refine (EA.out _ HB2.out).mono ?_
    rintro e w3 ⟨rfl, hb⟩
    have HB3 := Lib.hid (below_then HB2.out hb)
    clear hb t0 t1 t2
    obtain ⟨t0, t1, t2⟩ := HC0.out.below (by have := HSZ.out; omega) HB3.out
    go_wp2_with fail
    refine (EB.out _ HB3.out).mono ?_
    rintro e w4 ⟨rfl, hb⟩
    have HB4 := Lib.hid (below_then HB3.out hb)
    clear hb t0 t1 t2
    go_wp2_with fail
    refine (ND.out _ HB4.out).mono ?_
    rintro e w5 ⟨vo, rfl, ho, hb⟩
    have HB5 := Lib.hid (below_box HB4.out hb)
    obtain ⟨ado, capo, hvo⟩ := own_shape ho
    subst hvo
    clear hb ho
    go_wp2_with fail
    refine (AL.out _ HB5.out).mono ?_
    rintro e w6 ⟨rfl, hb⟩
    have HB6 := Lib.hid (below_then HB5.out hb)
    clear hb
    go_wp2_with fail
    go_ret
    exact ⟨rfl, FIN.out _ HB6.out⟩
set_option maxRecDepth 100000 in
set_option maxHeartbeats 2000000 in
theorem emade_done (r : Rec) (va vb : Value) (a b : List Nd) (k : Int) (w : World) (hf : KindFix w) (hA : ReadsN w va a) (hB : ReadsN w vb b) (hk0 : 0 ≤ k) (hk1 : k ≤ 255) (h70 : a.length ≤ 70) (h71 : b.length ≤ 70) (h7 : 7 ≤ k) (h19 : k ≤ 19) (h1 : (ofV a).2.2 = 0) (h2 : (ofV b).2.2 = 0) (hc : checkV (madeL k 0 0 [a, b]) = 0) (hn : nodeV k 0 0 [a, b] = (madeL k 0 0 [a, b], 0)) :
    Calls Tryd.prog 8 #[va, vb, .int .u8 k, recVal r] w fun e w' => e = .returned (.bool true) ∧ Below w.heap.size w w' := by
  obtain ⟨W0, hW0⟩ : ∃ W0, w.alloc (recBox r) = W0 := ⟨_, rfl⟩
  have hb0 : Below w.heap.size w W0 := by rw [← hW0]; exact (Below.refl _ w).alloc (Nat.le_refl _) _
  have hsz : W0.heap.size = w.heap.size + 1 := by rw [← hW0]; simp
  have GG : Hid (Calls Tryd.prog 18 #[va] (w.alloc (recBox r)) fun e w' => e = .returned (.bool (decide (70 < a.length))) ∧ Below W0.heap.size W0 w') := Lib.hid (by rw [hW0]; exact (great_any va a W0 (hA.below hb0)).mono (by rintro e w' ⟨he, rfl⟩; exact ⟨he, Below.refl _ _⟩))
  have HRA := Lib.hid (hA.below hb0)
  have HRB := Lib.hid (hB.below hb0)
  have F := Lib.hid (hf.below hb0)
  have GB := Lib.hid (fun (W : World) (h : Below W0.heap.size W0 W) => great_b vb b W (HRB.out.below h))
  have HC0 : Hid (RecAt W0 w.heap.size r) := Lib.hid (by rw [← hW0]; exact rec_at w r)
  have FIN : Hid (∀ wx, Below W0.heap.size W0 wx → Below w.heap.size w wx) := Lib.hid fun wx h => by
    rw [← hW0] at h
    exact below_box (Below.refl _ w) h
  have HSZ := Lib.hid hsz
  have AL := Lib.hid (fun (W : World) (h : Below W0.heap.size W0 W) => alive7_any W (F.out.below h))
  obtain ⟨ada, capa, rfl⟩ := hA.shape
  obtain ⟨adb, capb, rfl⟩ := hB.shape
  unfold recBox at GG
  have EA := Lib.hid (fun (W : World) (h : Below W0.heap.size W0 W) => evalsOf_any r (.slice ada a.length capa) a W (F.out.below h) (HRA.out.below h) (by omega))
  have EB := Lib.hid (fun (W : World) (h : Below W0.heap.size W0 W) => evalsOf_any r (.slice adb b.length capb) b W (F.out.below h) (HRB.out.below h) (by omega))
  rw [decide_eq_false (by omega)] at GG
  have gb : decide (70 < b.length) = false := decide_eq_false (by omega)
  rw [gb] at GB
  have hd : decide (k < 7) = false := decide_eq_false (by omega)
  have hd2 : decide (19 < k) = false := decide_eq_false (by omega)
  have ND := Lib.hid (fun (W : World) (h : Below W0.heap.size W0 W) => nodesNode_any k 0 0 _ [a, b] _ (pair_reads (HRA.out.below h) (HRB.out.below h) W.heap.size rfl) hk0 hk1 (fun p hp => by simp at hp; rcases hp with rfl | rfl <;> omega) (by simp))
  unfold ListEnds at ND
  obtain ⟨xa, hxa⟩ : ∃ e, ofE r a = e := ⟨_, rfl⟩
  obtain ⟨xb, hxb⟩ : ∃ e, ofE r b = e := ⟨_, rfl⟩
  rw [h1, hxa] at EA
  rw [h2, hxb] at EB
  unfold recVal at EA EB
  rw [hn] at ND
  have MT := made_two (k := k) (n := 0) (p := 0) h1 h2 hc
  have hme := made_eval (r := r) (k := k) (n := 0) (p := 0) (of_ok h1).1 (of_ok h2).1 h7
  have hxa2 : evalV r a = xa := by rw [← hxa]; unfold ofE; rw [if_pos h1]
  have hxb2 : evalV r b = xb := by rw [← hxb]; unfold ofE; rw [if_pos h2]
  rw [hxa2, hxb2] at hme
  have hml : (madeL k 0 0 [a, b]).length ≤ 1000000 := by rw [made_len2]; omega
  have OM := Lib.hid (fun vo (W : World) (h : Below W0.heap.size W0 W) (hr : ReadsN W vo (madeL k 0 0 [a, b])) => evalsOf_any r vo _ W (F.out.below h) hr hml)
  have DO := Lib.hid (fun (W : World) => do_any xa xb W k)
  have hE : doE k = 0 := if_neg (by omega)
  rw [hE] at DO
  unfold DoEnds at DO
  obtain ⟨y, hy⟩ : ∃ y, opV k xa xb = y := ⟨_, rfl⟩
  rw [hy] at DO hme
  unfold recVal at OM
  cases hfb : fitB k (ofV a).1 (ofV b).1
  · rw [hfb] at MT
    rw [if_neg (by simp)] at MT
    have h42 : (ofV (madeL k 0 0 [a, b])).2.2 = 42 := by rw [MT]
    obtain ⟨z, hz⟩ : ∃ z, ofE r (madeL k 0 0 [a, b]) = z := ⟨_, rfl⟩
    rw [h42, hz] at OM
    clear hxa hxb gb h7 h19 h1 h2 hn hc MT hme hxa2 hxb2 hml hE hy hfb h42 hz
    clear hb0 hsz hW0 hf hA hB
    unfold recVal
    go_enter Tryd.func8, Tryd.ntmps8
    go_wp2_with fail
    refine (GG.out).mono ?_
    rintro e w1 ⟨rfl, hb⟩
    have HB1 := Lib.hid hb
    clear hb
    go_wp2_with fail
    refine (GB.out _ HB1.out).mono ?_
    rintro e w2 ⟨rfl, hb⟩
    have HB2 := Lib.hid (below_then HB1.out hb)
    clear hb
    obtain ⟨t0, t1, t2⟩ := HC0.out.below (by have := HSZ.out; omega) HB2.out
    go_wp2_with fail
    refine (EA.out _ HB2.out).mono ?_
    rintro e w3 ⟨rfl, hb⟩
    have HB3 := Lib.hid (below_then HB2.out hb)
    clear hb t0 t1 t2
    obtain ⟨t0, t1, t2⟩ := HC0.out.below (by have := HSZ.out; omega) HB3.out
    go_wp2_with fail
    refine (EB.out _ HB3.out).mono ?_
    rintro e w4 ⟨rfl, hb⟩
    have HB4 := Lib.hid (below_then HB3.out hb)
    clear hb t0 t1 t2
    go_wp2_with fail
    refine (ND.out _ HB4.out).mono ?_
    rintro e w5 ⟨vo, rfl, ho, hb⟩
    have HB5 := Lib.hid (below_box HB4.out hb)
    have OM1 := Lib.hid (OM.out vo _ HB5.out (own_readsN ho))
    obtain ⟨ado, capo, hvo⟩ := own_shape ho
    subst hvo
    clear hb ho
    obtain ⟨t0, t1, t2⟩ := HC0.out.below (by have := HSZ.out; omega) HB5.out
    go_wp2_with fail
    refine (OM1.out).mono ?_
    rintro e w6 ⟨rfl, hb⟩
    have HB6 := Lib.hid (below_then HB5.out hb)
    clear hb t0 t1 t2
    go_wp2_with fail
    refine (DO.out _).mono ?_
    rintro e w7 ⟨rfl, rfl⟩
    have HB7 := HB6
    go_wp2_with fail
    refine (AL.out _ HB7.out).mono ?_
    rintro e w8 ⟨rfl, hb⟩
    have HB8 := Lib.hid (below_then HB7.out hb)
    clear hb
    go_wp2_with fail
    go_ret
    exact ⟨rfl, FIN.out _ HB8.out⟩
  · rw [hfb] at MT
    rw [if_pos rfl] at MT
    have h42 : (ofV (madeL k 0 0 [a, b])).2.2 = 0 := by rw [MT]
    have hz : ofE r (madeL k 0 0 [a, b]) = y := by unfold ofE; rw [if_pos h42, hme]
    rw [h42, hz] at OM
    have qy : (y == y) = true := by simp
    clear hxa hxb gb h7 h19 h1 h2 hn hc MT hme hxa2 hxb2 hml hE hy hfb h42 hz
    clear hb0 hsz hW0 hf hA hB
    unfold recVal
    go_enter Tryd.func8, Tryd.ntmps8
    go_wp2_with fail
    refine (GG.out).mono ?_
    rintro e w1 ⟨rfl, hb⟩
    have HB1 := Lib.hid hb
    clear hb
    go_wp2_with fail
    refine (GB.out _ HB1.out).mono ?_
    rintro e w2 ⟨rfl, hb⟩
    have HB2 := Lib.hid (below_then HB1.out hb)
    clear hb
    obtain ⟨t0, t1, t2⟩ := HC0.out.below (by have := HSZ.out; omega) HB2.out
    go_wp2_with fail
    refine (EA.out _ HB2.out).mono ?_
    rintro e w3 ⟨rfl, hb⟩
    have HB3 := Lib.hid (below_then HB2.out hb)
    clear hb t0 t1 t2
    obtain ⟨t0, t1, t2⟩ := HC0.out.below (by have := HSZ.out; omega) HB3.out
    go_wp2_with fail
    refine (EB.out _ HB3.out).mono ?_
    rintro e w4 ⟨rfl, hb⟩
    have HB4 := Lib.hid (below_then HB3.out hb)
    clear hb t0 t1 t2
    go_wp2_with fail
    refine (ND.out _ HB4.out).mono ?_
    rintro e w5 ⟨vo, rfl, ho, hb⟩
    have HB5 := Lib.hid (below_box HB4.out hb)
    have OM1 := Lib.hid (OM.out vo _ HB5.out (own_readsN ho))
    obtain ⟨ado, capo, hvo⟩ := own_shape ho
    subst hvo
    clear hb ho
    obtain ⟨t0, t1, t2⟩ := HC0.out.below (by have := HSZ.out; omega) HB5.out
    go_wp2_with fail
    refine (OM1.out).mono ?_
    rintro e w6 ⟨rfl, hb⟩
    have HB6 := Lib.hid (below_then HB5.out hb)
    clear hb t0 t1 t2
    go_wp2_with fail
    refine (DO.out _).mono ?_
    rintro e w7 ⟨rfl, rfl⟩
    have HB7 := HB6
    go_wp2_with fail
    refine (AL.out _ HB7.out).mono ?_
    rintro e w8 ⟨rfl, hb⟩
    have HB8 := Lib.hid (below_then HB7.out hb)
    clear hb
    go_wp2_with fail
    go_ret
    exact ⟨rfl, FIN.out _ HB8.out⟩
theorem emade_walk (r : Rec) (va vb : Value) (a b : List Nd) (k : Int) (w : World) (hf : KindFix w) (hA : ReadsN w va a) (hB : ReadsN w vb b) (hk0 : 0 ≤ k) (hk1 : k ≤ 255) :
    Calls Tryd.prog 8 #[va, vb, .int .u8 k, recVal r] w fun e w' => e = .returned (.bool true) ∧ Below w.heap.size w w' := by
  by_cases hg : 70 < a.length ∨ 70 < b.length ∨ k < 7 ∨ 19 < k
  · exact emade_great r va vb a b k w hf hA hB hk0 hk1 hg
  have h70 : a.length ≤ 70 := by omega
  have h71 : b.length ≤ 70 := by omega
  have h7 : 7 ≤ k := by omega
  have h19 : k ≤ 19 := by omega
  by_cases he : (ofV a).2.2 ≠ 0 ∨ (ofV b).2.2 ≠ 0
  · exact emade_exits r va vb a b k w hf hA hB hk0 hk1 h70 h71 h7 h19 he
  have h1 : (ofV a).2.2 = 0 := Classical.byContradiction fun h => he (.inl h)
  have h2 : (ofV b).2.2 = 0 := Classical.byContradiction fun h => he (.inr h)
  have hka : arity k = 2 := by unfold arity; rw [if_neg (by omega), if_neg (by omega)]
  rcases kmade_two (k := k) (of_ok h1).1 (of_ok h2).1 hka ⟨by omega, by omega⟩ with ⟨hc, hn⟩ | ⟨c, hc, hn⟩
  · exact emade_done r va vb a b k w hf hA hB hk0 hk1 h70 h71 h7 h19 h1 h2 hc hn
  · exact emade_err r va vb a b k w hf hA hB hk0 hk1 h70 h71 h7 h19 h1 h2 c hc hn
end Go.Proofs.YtflmpjejlkhpcaaDoor.Nodes

/-
  Walk of the statement KindsMade: an expression of typed parts is typed just if its whole fits, and is what its kind gives.
-/
import Derived.Test.YtgmfelikmjclbaaDoorKindHelp
import Derived.Test.YtgmfelikmjclbaaDoorNodeNode
import Derived.Test.YtgmfelikmjclbaaDoorNodeMade
import Derived.Outline
namespace Go.Proofs.YtgmfelikmjclbaaDoor.Nodes
open Go.ChangeShapes Go.WideShapes Go.ChangeAt Go.RowKit

theorem kmade_one {k : Int} {a : List Nd} (ha : checkV a = 0) (hk : arity k = 1) (h1 : 1 ≤ k ∧ k ≤ 19) : (checkV (madeL k 0 0 [a]) = 0 ∧ nodeV k 0 0 [a] = (madeL k 0 0 [a], 0)) ∨ ∃ c, (c = 4 ∨ c = 34) ∧ nodeV k 0 0 [a] = ([], c) := by
  have hc := made_check (k := k) (n := 0) (at_ := 0) (ps := [a]) ⟨h1.1, h1.2, hk, Int.le_refl _, .inl rfl, Int.le_refl _, by decide⟩ (fun p hp => by simp at hp; subst hp; exact ha)
  have hn : nodeV k 0 0 [a] = if checkV (madeL k 0 0 [a]) = 0 then (madeL k 0 0 [a], 0) else ([], checkV (madeL k 0 0 [a])) := by
    unfold nodeV
    rw [if_pos ⟨h1.1, h1.2, hk, Int.le_refl _, .inl rfl, Int.le_refl _, by decide⟩]
    have : [a].find? badP = none := List.find?_eq_none.2 fun p hp => by simp at hp; subst hp; unfold badP; rw [ha]; simp
    rw [this]
  by_cases h0 : checkV (madeL k 0 0 [a]) = 0
  · rw [if_pos h0] at hn; exact .inl ⟨h0, hn⟩
  · rw [if_neg h0] at hn
    refine .inr ⟨_, ?_, hn⟩
    rw [hc] at h0 ⊢
    split at h0
    · rename_i h; rw [if_pos h]; exact .inl rfl
    · rename_i h; rw [if_neg h]; split at h0
      · rename_i h2; rw [if_pos h2]; exact .inr rfl
      · exact absurd rfl h0
theorem kmade_two {k : Int} {a b : List Nd} (ha : checkV a = 0) (hb : checkV b = 0) (hk : arity k = 2) (h1 : 1 ≤ k ∧ k ≤ 19) : (checkV (madeL k 0 0 [a, b]) = 0 ∧ nodeV k 0 0 [a, b] = (madeL k 0 0 [a, b], 0)) ∨ ∃ c, (c = 4 ∨ c = 34) ∧ nodeV k 0 0 [a, b] = ([], c) := by
  have hc := made_check (k := k) (n := 0) (at_ := 0) (ps := [a, b]) ⟨h1.1, h1.2, hk, Int.le_refl _, .inl rfl, Int.le_refl _, by decide⟩ (fun p hp => by simp at hp; rcases hp with rfl | rfl; exact ha; exact hb)
  have hn : nodeV k 0 0 [a, b] = if checkV (madeL k 0 0 [a, b]) = 0 then (madeL k 0 0 [a, b], 0) else ([], checkV (madeL k 0 0 [a, b])) := by
    unfold nodeV
    rw [if_pos ⟨h1.1, h1.2, hk, Int.le_refl _, .inl rfl, Int.le_refl _, by decide⟩]
    have : [a, b].find? badP = none := List.find?_eq_none.2 fun p hp => by
      simp at hp
      rcases hp with rfl | rfl
      · unfold badP; rw [ha]; simp
      · unfold badP; rw [hb]; simp
    rw [this]
  by_cases h0 : checkV (madeL k 0 0 [a, b]) = 0
  · rw [if_pos h0] at hn; exact .inl ⟨h0, hn⟩
  · rw [if_neg h0] at hn
    refine .inr ⟨_, ?_, hn⟩
    rw [hc] at h0 ⊢
    split at h0
    · rename_i h; rw [if_pos h]; exact .inl rfl
    · rename_i h; rw [if_neg h]; split at h0
      · rename_i h2; rw [if_pos h2]; exact .inr rfl
      · exact absurd rfl h0
theorem node_arg {k : Int} {a : List Nd} (hk : arity k = 2) : nodeV k 0 0 [a] = ([], 2) := by
  unfold nodeV
  rw [if_neg]
  intro h
  have := h.2.2.1
  rw [hk] at this
  simp at this
theorem made_len1 (k : Int) (a : List Nd) : (madeL k 0 0 [a]).length = a.length + 1 := by simp [madeL]
theorem made_len2 (k : Int) (a b : List Nd) : (madeL k 0 0 [a, b]).length = a.length + b.length + 1 := by simp [madeL]; omega
set_option linter.unusedVariables false in
set_option maxRecDepth 100000 in
set_option maxHeartbeats 4000000 in
theorem made_great (va vb : Value) (a b : List Nd) (k : Int) (w : World) (hf : KindFix w) (hA : ReadsN w va a) (hB : ReadsN w vb b) (hk0 : 0 ≤ k) (hk1 : k ≤ 255) (h : 70 < a.length ∨ 70 < b.length) :
    Calls Tryd.prog 7 #[va, vb, .int .u8 k] w fun e w' => e = .returned (.bool true) ∧ Below w.heap.size w w' := by
  have AL := Lib.hid (fun (W : World) (h : Below w.heap.size w W) => alive6_any W (hf.below h))
  have GA := Lib.hid (fun (W : World) (h : Below w.heap.size w W) => great_any va a W (hA.below h))
  have GB := Lib.hid (fun (W : World) (h : Below w.heap.size w W) => great_any vb b W (hB.below h))
  have OA := Lib.hid (fun (W : World) (h : Below w.heap.size w W) (h70 : a.length ≤ 70) => kindsOf_any va a W (hf.below h) (hA.below h) (by omega))
  have OB := Lib.hid (fun (W : World) (h : Below w.heap.size w W) (h70 : b.length ≤ 70) => kindsOf_any vb b W (hf.below h) (hB.below h) (by omega))
  have PT := Lib.hid (fun (W : World) => nodesParts_same k W)
  have F := Lib.hid hf
  have HRA := Lib.hid hA
  have HRB := Lib.hid hB
  obtain ⟨ada, capa, rfl⟩ := hA.shape
  obtain ⟨adb, capb, rfl⟩ := hB.shape
  have HB0 := Lib.hid (Below.refl w.heap.size w)
  cases hg : decide (70 < a.length)
  · have h2 : decide (70 < b.length) = true := decide_eq_true (by rw [decide_eq_false_iff_not] at hg; omega)
    rw [hg] at GA
    rw [h2] at GB
    clear hg h2 h hf hA hB
    go_enter Tryd.func7, Tryd.ntmps7
    go_wp2_with fail
    refine (GA.out _ HB0.out).mono ?_
    rintro e w1 ⟨rfl, rfl⟩
    have HB1 := HB0
    go_wp2_with fail
    refine (GB.out _ HB1.out).mono ?_
    rintro e w2 ⟨rfl, rfl⟩
    have HB2 := HB1
    go_wp2_with fail
    refine (AL.out _ HB2.out).mono ?_
    rintro e w3 ⟨rfl, hb⟩
    have HB3 := Lib.hid (below_then HB2.out hb)
    clear hb
    go_wp2_with fail
    go_ret
    exact ⟨rfl, HB3.out⟩
  · rw [hg] at GA
    clear hg h hf hA hB
    go_enter Tryd.func7, Tryd.ntmps7
    go_wp2_with fail
    refine (GA.out _ HB0.out).mono ?_
    rintro e w1 ⟨rfl, rfl⟩
    have HB1 := HB0
    go_wp2_with fail
    refine (AL.out _ HB1.out).mono ?_
    rintro e w2 ⟨rfl, hb⟩
    have HB2 := Lib.hid (below_then HB1.out hb)
    clear hb
    go_wp2_with fail
    go_ret
    exact ⟨rfl, HB2.out⟩
set_option linter.unusedVariables false in
set_option maxRecDepth 100000 in
set_option maxHeartbeats 4000000 in
theorem made_exits (va vb : Value) (a b : List Nd) (k : Int) (w : World) (hf : KindFix w) (hA : ReadsN w va a) (hB : ReadsN w vb b) (hk0 : 0 ≤ k) (hk1 : k ≤ 255) (ha7 : a.length ≤ 70) (hb7 : b.length ≤ 70) (h : (partsV k).2 ≠ 0 ∨ (ofV a).2.2 ≠ 0 ∨ (ofV b).2.2 ≠ 0 ∨ (partsV k).1 = 0) :
    Calls Tryd.prog 7 #[va, vb, .int .u8 k] w fun e w' => e = .returned (.bool true) ∧ Below w.heap.size w w' := by
  have AL := Lib.hid (fun (W : World) (h : Below w.heap.size w W) => alive6_any W (hf.below h))
  have GA := Lib.hid (fun (W : World) (h : Below w.heap.size w W) => great_any va a W (hA.below h))
  have GB := Lib.hid (fun (W : World) (h : Below w.heap.size w W) => great_any vb b W (hB.below h))
  have OA := Lib.hid (fun (W : World) (h : Below w.heap.size w W) (h70 : a.length ≤ 70) => kindsOf_any va a W (hf.below h) (hA.below h) (by omega))
  have OB := Lib.hid (fun (W : World) (h : Below w.heap.size w W) (h70 : b.length ≤ 70) => kindsOf_any vb b W (hf.below h) (hB.below h) (by omega))
  have PT := Lib.hid (fun (W : World) => nodesParts_same k W)
  have F := Lib.hid hf
  have HRA := Lib.hid hA
  have HRB := Lib.hid hB
  obtain ⟨ada, capa, rfl⟩ := hA.shape
  obtain ⟨adb, capb, rfl⟩ := hB.shape
  have HB0 := Lib.hid (Below.refl w.heap.size w)
  rw [decide_eq_false (by omega)] at GA GB
  obtain ⟨n, e0, hp⟩ : ∃ n e0, partsV k = (n, e0) := ⟨_, _, rfl⟩
  obtain ⟨x, ax, fx, hx⟩ : ∃ x ax fx, ofV a = (x, ax, fx) := ⟨_, _, _, rfl⟩
  obtain ⟨y, ay, fy, hy⟩ : ∃ x ax fx, ofV b = (x, ax, fx) := ⟨_, _, _, rfl⟩
  rw [hp] at PT h
  rw [hx] at OA h
  rw [hy] at OB h
  simp only at h
  clear hf hA hB hp hx hy
  cases q1 : (e0 != 0)
  · cases q2 : (fx != 0)
    · cases q3 : (fy != 0)
      · have q4 : (n == 0) = true := by
          rw [bne_eq_false_iff_eq] at q1 q2 q3
          rw [beq_iff_eq]
          rcases h with h | h | h | h
          · exact absurd q1 h
          · exact absurd q2 h
          · exact absurd q3 h
          · exact h
        clear h
        go_enter Tryd.func7, Tryd.ntmps7
        go_wp2_with fail
        refine (GA.out _ HB0.out).mono ?_
        rintro e w1 ⟨rfl, rfl⟩
        have HB1 := HB0
        go_wp2_with fail
        refine (GB.out _ HB1.out).mono ?_
        rintro e w2 ⟨rfl, rfl⟩
        have HB2 := HB1
        go_wp2_with fail
        refine (PT.out _).mono ?_
        rintro e w3 ⟨rfl, rfl⟩
        have HB3 := HB2
        go_wp2_with fail
        refine (OA.out _ HB3.out ha7).mono ?_
        rintro e w4 ⟨rfl, hb⟩
        have HB4 := Lib.hid (below_then HB3.out hb)
        clear hb
        go_wp2_with fail
        refine (OB.out _ HB4.out hb7).mono ?_
        rintro e w5 ⟨rfl, hb⟩
        have HB5 := Lib.hid (below_then HB4.out hb)
        clear hb
        go_wp2_with fail
        refine (AL.out _ HB5.out).mono ?_
        rintro e w6 ⟨rfl, hb⟩
        have HB6 := Lib.hid (below_then HB5.out hb)
        clear hb
        go_wp2_with fail
        go_ret
        exact ⟨rfl, HB6.out⟩
      · clear h
        go_enter Tryd.func7, Tryd.ntmps7
        go_wp2_with fail
        refine (GA.out _ HB0.out).mono ?_
        rintro e w1 ⟨rfl, rfl⟩
        have HB1 := HB0
        go_wp2_with fail
        refine (GB.out _ HB1.out).mono ?_
        rintro e w2 ⟨rfl, rfl⟩
        have HB2 := HB1
        go_wp2_with fail
        refine (PT.out _).mono ?_
        rintro e w3 ⟨rfl, rfl⟩
        have HB3 := HB2
        go_wp2_with fail
        refine (OA.out _ HB3.out ha7).mono ?_
        rintro e w4 ⟨rfl, hb⟩
        have HB4 := Lib.hid (below_then HB3.out hb)
        clear hb
        go_wp2_with fail
        refine (OB.out _ HB4.out hb7).mono ?_
        rintro e w5 ⟨rfl, hb⟩
        have HB5 := Lib.hid (below_then HB4.out hb)
        clear hb
        go_wp2_with fail
        refine (AL.out _ HB5.out).mono ?_
        rintro e w6 ⟨rfl, hb⟩
        have HB6 := Lib.hid (below_then HB5.out hb)
        clear hb
        go_wp2_with fail
        go_ret
        exact ⟨rfl, HB6.out⟩
    · clear h
      go_enter Tryd.func7, Tryd.ntmps7
      go_wp2_with fail
      refine (GA.out _ HB0.out).mono ?_
      rintro e w1 ⟨rfl, rfl⟩
      have HB1 := HB0
      go_wp2_with fail
      refine (GB.out _ HB1.out).mono ?_
      rintro e w2 ⟨rfl, rfl⟩
      have HB2 := HB1
      go_wp2_with fail
      refine (PT.out _).mono ?_
      rintro e w3 ⟨rfl, rfl⟩
      have HB3 := HB2
      go_wp2_with fail
      refine (OA.out _ HB3.out ha7).mono ?_
      rintro e w4 ⟨rfl, hb⟩
      have HB4 := Lib.hid (below_then HB3.out hb)
      clear hb
      go_wp2_with fail
      refine (OB.out _ HB4.out hb7).mono ?_
      rintro e w5 ⟨rfl, hb⟩
      have HB5 := Lib.hid (below_then HB4.out hb)
      clear hb
      go_wp2_with fail
      refine (AL.out _ HB5.out).mono ?_
      rintro e w6 ⟨rfl, hb⟩
      have HB6 := Lib.hid (below_then HB5.out hb)
      clear hb
      go_wp2_with fail
      go_ret
      exact ⟨rfl, HB6.out⟩
  · clear h
    go_enter Tryd.func7, Tryd.ntmps7
    go_wp2_with fail
    refine (GA.out _ HB0.out).mono ?_
    rintro e w1 ⟨rfl, rfl⟩
    have HB1 := HB0
    go_wp2_with fail
    refine (GB.out _ HB1.out).mono ?_
    rintro e w2 ⟨rfl, rfl⟩
    have HB2 := HB1
    go_wp2_with fail
    refine (PT.out _).mono ?_
    rintro e w3 ⟨rfl, rfl⟩
    have HB3 := HB2
    go_wp2_with fail
    refine (OA.out _ HB3.out ha7).mono ?_
    rintro e w4 ⟨rfl, hb⟩
    have HB4 := Lib.hid (below_then HB3.out hb)
    clear hb
    go_wp2_with fail
    refine (OB.out _ HB4.out hb7).mono ?_
    rintro e w5 ⟨rfl, hb⟩
    have HB5 := Lib.hid (below_then HB4.out hb)
    clear hb
    go_wp2_with fail
    refine (AL.out _ HB5.out).mono ?_
    rintro e w6 ⟨rfl, hb⟩
    have HB6 := Lib.hid (below_then HB5.out hb)
    clear hb
    go_wp2_with fail
    go_ret
    exact ⟨rfl, HB6.out⟩
set_option linter.unusedVariables false in
set_option maxRecDepth 100000 in
set_option maxHeartbeats 4000000 in
theorem made_single (va vb : Value) (a b : List Nd) (k : Int) (w : World) (hf : KindFix w) (hA : ReadsN w va a) (hB : ReadsN w vb b) (hk0 : 0 ≤ k) (hk1 : k ≤ 255) (ha7 : a.length ≤ 70) (hb7 : b.length ≤ 70) (x y : Bool) (ax ay : Int) (hx : ofV a = (x, ax, 0)) (hy : ofV b = (y, ay, 0)) (h56 : k = 5 ∨ k = 6) :
    Calls Tryd.prog 7 #[va, vb, .int .u8 k] w fun e w' => e = .returned (.bool true) ∧ Below w.heap.size w w' := by
  have AL := Lib.hid (fun (W : World) (h : Below w.heap.size w W) => alive6_any W (hf.below h))
  have GA := Lib.hid (fun (W : World) (h : Below w.heap.size w W) => great_any va a W (hA.below h))
  have GB := Lib.hid (fun (W : World) (h : Below w.heap.size w W) => great_any vb b W (hB.below h))
  have OA := Lib.hid (fun (W : World) (h : Below w.heap.size w W) (h70 : a.length ≤ 70) => kindsOf_any va a W (hf.below h) (hA.below h) (by omega))
  have OB := Lib.hid (fun (W : World) (h : Below w.heap.size w W) (h70 : b.length ≤ 70) => kindsOf_any vb b W (hf.below h) (hB.below h) (by omega))
  have PT := Lib.hid (fun (W : World) => nodesParts_same k W)
  have F := Lib.hid hf
  have HRA := Lib.hid hA
  have HRB := Lib.hid hB
  obtain ⟨ada, capa, rfl⟩ := hA.shape
  obtain ⟨adb, capb, rfl⟩ := hB.shape
  have HB0 := Lib.hid (Below.refl w.heap.size w)
  rw [decide_eq_false (by omega)] at GA GB
  have hca := of_ok (l := a) (by rw [hx])
  have hka : arity k = 1 := by rcases h56 with rfl | rfl <;> rfl
  rw [parts_ok (by omega) (by omega), hka] at PT
  have MO := made_one (k := k) (n := 0) (p := 0) (a := a) (by rw [hx])
  rw [hx] at OA MO
  rw [hy] at OB
  have hl1 := made_len1 k a
  have ND := Lib.hid (fun (W : World) (h : Below w.heap.size w W) => nodesNode_any k 0 0 _ [a] _ (one_reads (hA.below h) W.heap.size rfl) hk0 hk1 (fun p hp => by simp at hp; subst hp; omega) (by simp))
  have nd := kmade_one hca.1 hka ⟨by omega, by omega⟩
  have hL0 : (0 : Int) ≤ a.length := by omega
  have hL1 : (a.length : Int) ≤ 70 := by omega
  obtain ⟨L, hL⟩ : ∃ L, (a.length : Int) = L := ⟨_, rfl⟩
  rcases nd with ⟨hc, hnd⟩ | ⟨c, hc, hnd⟩
  · replace MO := MO hc hka (by omega)
    rw [hL] at MO
    have OM := Lib.hid (fun vo (W : World) (h : Below w.heap.size w W) (hr : ReadsN W vo (madeL k 0 0 [a])) => kindsOf_any vo _ W (F.out.below h) hr (by omega))
    rw [MO] at OM
    rw [hnd] at ND
    have HLL : Hid ((madeL k 0 0 [a]).length = a.length + 1) := Lib.hid hl1
    have hwr : ((a.length + 1 : Nat) : Int) - 1 = L := by omega
    have hLL : (L == L) = true := by simp
    have hlast : Hid (((a.length + 1 : Nat) : Int) = L + 1) := Lib.hid (by omega)
    have hL0' : (0 : Int) ≤ L := by omega
    have hL1' : L ≤ 70 := by omega
    clear hf hA hB hx hy hca hka MO hc hnd hl1 hL0 hL1
    rcases h56 with rfl | rfl <;> cases x
    · have hfit : fitB 5 false false = true := rfl
      have hg : givesB 5 = false := rfl
      rw [hfit, if_pos rfl, hg] at OM
      simp only at OM
      clear hfit hg
      go_enter Tryd.func7, Tryd.ntmps7
      go_wp2_with fail
      refine (GA.out _ HB0.out).mono ?_
      rintro e w1 ⟨rfl, rfl⟩
      have HB1 := HB0
      go_wp2_with fail
      refine (GB.out _ HB1.out).mono ?_
      rintro e w2 ⟨rfl, rfl⟩
      have HB2 := HB1
      go_wp2_with fail
      refine (PT.out _).mono ?_
      rintro e w3 ⟨rfl, rfl⟩
      have HB3 := HB2
      go_wp2_with fail
      refine (OA.out _ HB3.out ha7).mono ?_
      rintro e w4 ⟨rfl, hb⟩
      have HB4 := Lib.hid (below_then HB3.out hb)
      clear hb
      go_wp2_with fail
      refine (OB.out _ HB4.out hb7).mono ?_
      rintro e w5 ⟨rfl, hb⟩
      have HB5 := Lib.hid (below_then HB4.out hb)
      clear hb
      go_wp2_with fail
      refine (ND.out _ HB5.out).mono ?_
      rintro e w6 ⟨vm, rfl, hom, hb⟩
      have HB6 := Lib.hid (below_box HB5.out hb)
      have OM1 := Lib.hid (OM.out vm _ HB6.out (own_readsN hom))
      obtain ⟨adm, capm, hvm⟩ := own_shape hom
      simp only [HLL.out] at hvm
      subst hvm
      clear hb hom
      go_wp2_with fail
      refine (OM1.out).mono ?_
      rintro e w7 ⟨rfl, hb⟩
      have HB7 := Lib.hid (below_then HB6.out hb)
      clear hb
      go_wp2_with fail
      refine (AL.out _ HB7.out).mono ?_
      rintro e w8 ⟨rfl, hb⟩
      have HB8 := Lib.hid (below_then HB7.out hb)
      clear hb
      go_wp2_with fail
      go_ret
      exact ⟨rfl, HB8.out⟩
    · have hfit : fitB 5 true false = false := rfl
      rw [hfit, if_neg (by decide)] at OM
      simp only at OM
      clear hfit
      go_enter Tryd.func7, Tryd.ntmps7
      go_wp2_with fail
      refine (GA.out _ HB0.out).mono ?_
      rintro e w1 ⟨rfl, rfl⟩
      have HB1 := HB0
      go_wp2_with fail
      refine (GB.out _ HB1.out).mono ?_
      rintro e w2 ⟨rfl, rfl⟩
      have HB2 := HB1
      go_wp2_with fail
      refine (PT.out _).mono ?_
      rintro e w3 ⟨rfl, rfl⟩
      have HB3 := HB2
      go_wp2_with fail
      refine (OA.out _ HB3.out ha7).mono ?_
      rintro e w4 ⟨rfl, hb⟩
      have HB4 := Lib.hid (below_then HB3.out hb)
      clear hb
      go_wp2_with fail
      refine (OB.out _ HB4.out hb7).mono ?_
      rintro e w5 ⟨rfl, hb⟩
      have HB5 := Lib.hid (below_then HB4.out hb)
      clear hb
      go_wp2_with fail
      refine (ND.out _ HB5.out).mono ?_
      rintro e w6 ⟨vm, rfl, hom, hb⟩
      have HB6 := Lib.hid (below_box HB5.out hb)
      have OM1 := Lib.hid (OM.out vm _ HB6.out (own_readsN hom))
      obtain ⟨adm, capm, hvm⟩ := own_shape hom
      simp only [HLL.out] at hvm
      subst hvm
      clear hb hom
      go_wp2_with fail
      refine (OM1.out).mono ?_
      rintro e w7 ⟨rfl, hb⟩
      have HB7 := Lib.hid (below_then HB6.out hb)
      clear hb
      go_wp2_with fail
      refine (AL.out _ HB7.out).mono ?_
      rintro e w8 ⟨rfl, hb⟩
      have HB8 := Lib.hid (below_then HB7.out hb)
      clear hb
      go_wp2_with fail
      go_ret
      exact ⟨rfl, HB8.out⟩
    · have hfit : fitB 6 false false = false := rfl
      rw [hfit, if_neg (by decide)] at OM
      simp only at OM
      clear hfit
      go_enter Tryd.func7, Tryd.ntmps7
      go_wp2_with fail
      refine (GA.out _ HB0.out).mono ?_
      rintro e w1 ⟨rfl, rfl⟩
      have HB1 := HB0
      go_wp2_with fail
      refine (GB.out _ HB1.out).mono ?_
      rintro e w2 ⟨rfl, rfl⟩
      have HB2 := HB1
      go_wp2_with fail
      refine (PT.out _).mono ?_
      rintro e w3 ⟨rfl, rfl⟩
      have HB3 := HB2
      go_wp2_with fail
      refine (OA.out _ HB3.out ha7).mono ?_
      rintro e w4 ⟨rfl, hb⟩
      have HB4 := Lib.hid (below_then HB3.out hb)
      clear hb
      go_wp2_with fail
      refine (OB.out _ HB4.out hb7).mono ?_
      rintro e w5 ⟨rfl, hb⟩
      have HB5 := Lib.hid (below_then HB4.out hb)
      clear hb
      go_wp2_with fail
      refine (ND.out _ HB5.out).mono ?_
      rintro e w6 ⟨vm, rfl, hom, hb⟩
      have HB6 := Lib.hid (below_box HB5.out hb)
      have OM1 := Lib.hid (OM.out vm _ HB6.out (own_readsN hom))
      obtain ⟨adm, capm, hvm⟩ := own_shape hom
      simp only [HLL.out] at hvm
      subst hvm
      clear hb hom
      go_wp2_with fail
      refine (OM1.out).mono ?_
      rintro e w7 ⟨rfl, hb⟩
      have HB7 := Lib.hid (below_then HB6.out hb)
      clear hb
      go_wp2_with fail
      refine (AL.out _ HB7.out).mono ?_
      rintro e w8 ⟨rfl, hb⟩
      have HB8 := Lib.hid (below_then HB7.out hb)
      clear hb
      go_wp2_with fail
      go_ret
      exact ⟨rfl, HB8.out⟩
    · have hfit : fitB 6 true false = true := rfl
      have hg : givesB 6 = true := rfl
      rw [hfit, if_pos rfl, hg] at OM
      simp only at OM
      clear hfit hg
      go_enter Tryd.func7, Tryd.ntmps7
      go_wp2_with fail
      refine (GA.out _ HB0.out).mono ?_
      rintro e w1 ⟨rfl, rfl⟩
      have HB1 := HB0
      go_wp2_with fail
      refine (GB.out _ HB1.out).mono ?_
      rintro e w2 ⟨rfl, rfl⟩
      have HB2 := HB1
      go_wp2_with fail
      refine (PT.out _).mono ?_
      rintro e w3 ⟨rfl, rfl⟩
      have HB3 := HB2
      go_wp2_with fail
      refine (OA.out _ HB3.out ha7).mono ?_
      rintro e w4 ⟨rfl, hb⟩
      have HB4 := Lib.hid (below_then HB3.out hb)
      clear hb
      go_wp2_with fail
      refine (OB.out _ HB4.out hb7).mono ?_
      rintro e w5 ⟨rfl, hb⟩
      have HB5 := Lib.hid (below_then HB4.out hb)
      clear hb
      go_wp2_with fail
      refine (ND.out _ HB5.out).mono ?_
      rintro e w6 ⟨vm, rfl, hom, hb⟩
      have HB6 := Lib.hid (below_box HB5.out hb)
      have OM1 := Lib.hid (OM.out vm _ HB6.out (own_readsN hom))
      obtain ⟨adm, capm, hvm⟩ := own_shape hom
      simp only [HLL.out] at hvm
      subst hvm
      clear hb hom
      go_wp2_with fail
      refine (OM1.out).mono ?_
      rintro e w7 ⟨rfl, hb⟩
      have HB7 := Lib.hid (below_then HB6.out hb)
      clear hb
      go_wp2_with fail
      refine (AL.out _ HB7.out).mono ?_
      rintro e w8 ⟨rfl, hb⟩
      have HB8 := Lib.hid (below_then HB7.out hb)
      clear hb
      go_wp2_with fail
      go_ret
      exact ⟨rfl, HB8.out⟩
  · rw [hnd] at ND
    clear hf hA hB hx hy hca hka MO hnd hl1 hL0 hL1
    have hc0 : (c != 0) = true := by rcases hc with rfl | rfl <;> rfl
    rcases hc with rfl | rfl <;> rcases h56 with rfl | rfl <;> cases x
    · clear hc0
      go_enter Tryd.func7, Tryd.ntmps7
      go_wp2_with fail
      refine (GA.out _ HB0.out).mono ?_
      rintro e w1 ⟨rfl, rfl⟩
      have HB1 := HB0
      go_wp2_with fail
      refine (GB.out _ HB1.out).mono ?_
      rintro e w2 ⟨rfl, rfl⟩
      have HB2 := HB1
      go_wp2_with fail
      refine (PT.out _).mono ?_
      rintro e w3 ⟨rfl, rfl⟩
      have HB3 := HB2
      go_wp2_with fail
      refine (OA.out _ HB3.out ha7).mono ?_
      rintro e w4 ⟨rfl, hb⟩
      have HB4 := Lib.hid (below_then HB3.out hb)
      clear hb
      go_wp2_with fail
      refine (OB.out _ HB4.out hb7).mono ?_
      rintro e w5 ⟨rfl, hb⟩
      have HB5 := Lib.hid (below_then HB4.out hb)
      clear hb
      go_wp2_with fail
      refine (ND.out _ HB5.out).mono ?_
      rintro e w6 ⟨vm, rfl, hom, hb⟩
      have HB6 := Lib.hid (below_box HB5.out hb)
      clear hb hom
      go_wp2_with fail
      refine (AL.out _ HB6.out).mono ?_
      rintro e w7 ⟨rfl, hb⟩
      have HB7 := Lib.hid (below_then HB6.out hb)
      clear hb
      go_wp2_with fail
      go_ret
      exact ⟨rfl, HB7.out⟩
    · clear hc0
      go_enter Tryd.func7, Tryd.ntmps7
      go_wp2_with fail
      refine (GA.out _ HB0.out).mono ?_
      rintro e w1 ⟨rfl, rfl⟩
      have HB1 := HB0
      go_wp2_with fail
      refine (GB.out _ HB1.out).mono ?_
      rintro e w2 ⟨rfl, rfl⟩
      have HB2 := HB1
      go_wp2_with fail
      refine (PT.out _).mono ?_
      rintro e w3 ⟨rfl, rfl⟩
      have HB3 := HB2
      go_wp2_with fail
      refine (OA.out _ HB3.out ha7).mono ?_
      rintro e w4 ⟨rfl, hb⟩
      have HB4 := Lib.hid (below_then HB3.out hb)
      clear hb
      go_wp2_with fail
      refine (OB.out _ HB4.out hb7).mono ?_
      rintro e w5 ⟨rfl, hb⟩
      have HB5 := Lib.hid (below_then HB4.out hb)
      clear hb
      go_wp2_with fail
      refine (ND.out _ HB5.out).mono ?_
      rintro e w6 ⟨vm, rfl, hom, hb⟩
      have HB6 := Lib.hid (below_box HB5.out hb)
      clear hb hom
      go_wp2_with fail
      refine (AL.out _ HB6.out).mono ?_
      rintro e w7 ⟨rfl, hb⟩
      have HB7 := Lib.hid (below_then HB6.out hb)
      clear hb
      go_wp2_with fail
      go_ret
      exact ⟨rfl, HB7.out⟩
    · clear hc0
      go_enter Tryd.func7, Tryd.ntmps7
      go_wp2_with fail
      refine (GA.out _ HB0.out).mono ?_
      rintro e w1 ⟨rfl, rfl⟩
      have HB1 := HB0
      go_wp2_with fail
      refine (GB.out _ HB1.out).mono ?_
      rintro e w2 ⟨rfl, rfl⟩
      have HB2 := HB1
      go_wp2_with fail
      refine (PT.out _).mono ?_
      rintro e w3 ⟨rfl, rfl⟩
      have HB3 := HB2
      go_wp2_with fail
      refine (OA.out _ HB3.out ha7).mono ?_
      rintro e w4 ⟨rfl, hb⟩
      have HB4 := Lib.hid (below_then HB3.out hb)
      clear hb
      go_wp2_with fail
      refine (OB.out _ HB4.out hb7).mono ?_
      rintro e w5 ⟨rfl, hb⟩
      have HB5 := Lib.hid (below_then HB4.out hb)
      clear hb
      go_wp2_with fail
      refine (ND.out _ HB5.out).mono ?_
      rintro e w6 ⟨vm, rfl, hom, hb⟩
      have HB6 := Lib.hid (below_box HB5.out hb)
      clear hb hom
      go_wp2_with fail
      refine (AL.out _ HB6.out).mono ?_
      rintro e w7 ⟨rfl, hb⟩
      have HB7 := Lib.hid (below_then HB6.out hb)
      clear hb
      go_wp2_with fail
      go_ret
      exact ⟨rfl, HB7.out⟩
    · clear hc0
      go_enter Tryd.func7, Tryd.ntmps7
      go_wp2_with fail
      refine (GA.out _ HB0.out).mono ?_
      rintro e w1 ⟨rfl, rfl⟩
      have HB1 := HB0
      go_wp2_with fail
      refine (GB.out _ HB1.out).mono ?_
      rintro e w2 ⟨rfl, rfl⟩
      have HB2 := HB1
      go_wp2_with fail
      refine (PT.out _).mono ?_
      rintro e w3 ⟨rfl, rfl⟩
      have HB3 := HB2
      go_wp2_with fail
      refine (OA.out _ HB3.out ha7).mono ?_
      rintro e w4 ⟨rfl, hb⟩
      have HB4 := Lib.hid (below_then HB3.out hb)
      clear hb
      go_wp2_with fail
      refine (OB.out _ HB4.out hb7).mono ?_
      rintro e w5 ⟨rfl, hb⟩
      have HB5 := Lib.hid (below_then HB4.out hb)
      clear hb
      go_wp2_with fail
      refine (ND.out _ HB5.out).mono ?_
      rintro e w6 ⟨vm, rfl, hom, hb⟩
      have HB6 := Lib.hid (below_box HB5.out hb)
      clear hb hom
      go_wp2_with fail
      refine (AL.out _ HB6.out).mono ?_
      rintro e w7 ⟨rfl, hb⟩
      have HB7 := Lib.hid (below_then HB6.out hb)
      clear hb
      go_wp2_with fail
      go_ret
      exact ⟨rfl, HB7.out⟩
    · clear hc0
      go_enter Tryd.func7, Tryd.ntmps7
      go_wp2_with fail
      refine (GA.out _ HB0.out).mono ?_
      rintro e w1 ⟨rfl, rfl⟩
      have HB1 := HB0
      go_wp2_with fail
      refine (GB.out _ HB1.out).mono ?_
      rintro e w2 ⟨rfl, rfl⟩
      have HB2 := HB1
      go_wp2_with fail
      refine (PT.out _).mono ?_
      rintro e w3 ⟨rfl, rfl⟩
      have HB3 := HB2
      go_wp2_with fail
      refine (OA.out _ HB3.out ha7).mono ?_
      rintro e w4 ⟨rfl, hb⟩
      have HB4 := Lib.hid (below_then HB3.out hb)
      clear hb
      go_wp2_with fail
      refine (OB.out _ HB4.out hb7).mono ?_
      rintro e w5 ⟨rfl, hb⟩
      have HB5 := Lib.hid (below_then HB4.out hb)
      clear hb
      go_wp2_with fail
      refine (ND.out _ HB5.out).mono ?_
      rintro e w6 ⟨vm, rfl, hom, hb⟩
      have HB6 := Lib.hid (below_box HB5.out hb)
      clear hb hom
      go_wp2_with fail
      refine (AL.out _ HB6.out).mono ?_
      rintro e w7 ⟨rfl, hb⟩
      have HB7 := Lib.hid (below_then HB6.out hb)
      clear hb
      go_wp2_with fail
      go_ret
      exact ⟨rfl, HB7.out⟩
    · clear hc0
      go_enter Tryd.func7, Tryd.ntmps7
      go_wp2_with fail
      refine (GA.out _ HB0.out).mono ?_
      rintro e w1 ⟨rfl, rfl⟩
      have HB1 := HB0
      go_wp2_with fail
      refine (GB.out _ HB1.out).mono ?_
      rintro e w2 ⟨rfl, rfl⟩
      have HB2 := HB1
      go_wp2_with fail
      refine (PT.out _).mono ?_
      rintro e w3 ⟨rfl, rfl⟩
      have HB3 := HB2
      go_wp2_with fail
      refine (OA.out _ HB3.out ha7).mono ?_
      rintro e w4 ⟨rfl, hb⟩
      have HB4 := Lib.hid (below_then HB3.out hb)
      clear hb
      go_wp2_with fail
      refine (OB.out _ HB4.out hb7).mono ?_
      rintro e w5 ⟨rfl, hb⟩
      have HB5 := Lib.hid (below_then HB4.out hb)
      clear hb
      go_wp2_with fail
      refine (ND.out _ HB5.out).mono ?_
      rintro e w6 ⟨vm, rfl, hom, hb⟩
      have HB6 := Lib.hid (below_box HB5.out hb)
      clear hb hom
      go_wp2_with fail
      refine (AL.out _ HB6.out).mono ?_
      rintro e w7 ⟨rfl, hb⟩
      have HB7 := Lib.hid (below_then HB6.out hb)
      clear hb
      go_wp2_with fail
      go_ret
      exact ⟨rfl, HB7.out⟩
    · clear hc0
      go_enter Tryd.func7, Tryd.ntmps7
      go_wp2_with fail
      refine (GA.out _ HB0.out).mono ?_
      rintro e w1 ⟨rfl, rfl⟩
      have HB1 := HB0
      go_wp2_with fail
      refine (GB.out _ HB1.out).mono ?_
      rintro e w2 ⟨rfl, rfl⟩
      have HB2 := HB1
      go_wp2_with fail
      refine (PT.out _).mono ?_
      rintro e w3 ⟨rfl, rfl⟩
      have HB3 := HB2
      go_wp2_with fail
      refine (OA.out _ HB3.out ha7).mono ?_
      rintro e w4 ⟨rfl, hb⟩
      have HB4 := Lib.hid (below_then HB3.out hb)
      clear hb
      go_wp2_with fail
      refine (OB.out _ HB4.out hb7).mono ?_
      rintro e w5 ⟨rfl, hb⟩
      have HB5 := Lib.hid (below_then HB4.out hb)
      clear hb
      go_wp2_with fail
      refine (ND.out _ HB5.out).mono ?_
      rintro e w6 ⟨vm, rfl, hom, hb⟩
      have HB6 := Lib.hid (below_box HB5.out hb)
      clear hb hom
      go_wp2_with fail
      refine (AL.out _ HB6.out).mono ?_
      rintro e w7 ⟨rfl, hb⟩
      have HB7 := Lib.hid (below_then HB6.out hb)
      clear hb
      go_wp2_with fail
      go_ret
      exact ⟨rfl, HB7.out⟩
    · clear hc0
      go_enter Tryd.func7, Tryd.ntmps7
      go_wp2_with fail
      refine (GA.out _ HB0.out).mono ?_
      rintro e w1 ⟨rfl, rfl⟩
      have HB1 := HB0
      go_wp2_with fail
      refine (GB.out _ HB1.out).mono ?_
      rintro e w2 ⟨rfl, rfl⟩
      have HB2 := HB1
      go_wp2_with fail
      refine (PT.out _).mono ?_
      rintro e w3 ⟨rfl, rfl⟩
      have HB3 := HB2
      go_wp2_with fail
      refine (OA.out _ HB3.out ha7).mono ?_
      rintro e w4 ⟨rfl, hb⟩
      have HB4 := Lib.hid (below_then HB3.out hb)
      clear hb
      go_wp2_with fail
      refine (OB.out _ HB4.out hb7).mono ?_
      rintro e w5 ⟨rfl, hb⟩
      have HB5 := Lib.hid (below_then HB4.out hb)
      clear hb
      go_wp2_with fail
      refine (ND.out _ HB5.out).mono ?_
      rintro e w6 ⟨vm, rfl, hom, hb⟩
      have HB6 := Lib.hid (below_box HB5.out hb)
      clear hb hom
      go_wp2_with fail
      refine (AL.out _ HB6.out).mono ?_
      rintro e w7 ⟨rfl, hb⟩
      have HB7 := Lib.hid (below_then HB6.out hb)
      clear hb
      go_wp2_with fail
      go_ret
      exact ⟨rfl, HB7.out⟩
end Go.Proofs.YtgmfelikmjclbaaDoor.Nodes

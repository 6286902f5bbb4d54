/-
  Contract of the reference of layer 5: Written.
-/
import Derived.Test.YtgmfelikmjclbaaGreatDoorqRefItoa
import Derived.Test.YtgmfelikmjclbaaGreatDoorRegionHand
namespace Go.Proofs.YtgmfelikmjclbaaGreatDoor.ExprW
open Nodes Exprs
open Go.ChangeShapes Go.WideShapes Go.ChangeAt Go.RowKit

/-- What a call of Written holds on to while it writes its parts. -/
def RHold (v : Value) (l : List Nd) (w W : World) : Prop := ReadsN W v l ∧ Below w.heap.size w W ∧ w.heap.size < W.heap.size
def RTwo (w : World) (kd j k : Int) (W : World) : Prop :=
  W.cell? ⟨w.heap.size, 0, none⟩ = some (.int .u8 kd) ∧ W.cell? ⟨w.heap.size, 2, none⟩ = some (.int .i64 j) ∧ W.cell? ⟨w.heap.size, 3, none⟩ = some (.int .i64 k)
theorem RHold.then_ {v : Value} {l : List Nd} {w W W' : World} (h : RHold v l w W) (hb : Below W.heap.size W W') : RHold v l w W' :=
  ⟨h.1.below hb, below_step h.2.1 hb, Nat.lt_of_lt_of_le h.2.2 hb.size⟩
theorem RTwo.then_ {w W W' : World} {kd j k : Int} (h : RTwo w kd j k W) (hl : w.heap.size < W.heap.size) (hb : Below W.heap.size W W') : RTwo w kd j k W' :=
  ⟨(hb.cell (p := ⟨_, _, none⟩) hl).trans h.1, (hb.cell (p := ⟨_, _, none⟩) hl).trans h.2.1, (hb.cell (p := ⟨_, _, none⟩) hl).trans h.2.2⟩
theorem RHold.drew {v : Value} {l : List Nd} {w W : World} (h : RHold v l w W) : RHold v l w W.drew := h.then_ (Below.drew (Below.refl _ _))
theorem ops_cell (w : World) (n : Nat) (hn : n < 13) : (w.alloc (.cells opVals 9)).cell? ⟨w.heap.size, n, none⟩ = some (.string (opAt n)) := by
  rw [cell_of (heap_alloc_new w _)]
  match n, hn with
  | 0, _ | 1, _ | 2, _ | 3, _ | 4, _ | 5, _ | 6, _ | 7, _ | 8, _ | 9, _ | 10, _ | 11, _ | 12, _ => rfl
set_option linter.unusedSimpArgs false in
set_option maxRecDepth 100000 in
set_option maxHeartbeats 4000000 in
theorem refWr_two (v : Value) (l : List Nd) (i : Nat) (hc : checkV l = 0) (hw : Wide l) (hi : i < l.length) (h0 : arity l[i].kind = 2) (hP : ∀ j, j < i → RefPtOk v l j) : RefWrOk v l i := by
  intro w hR
  obtain ⟨k1, k2, _⟩ := node_facts hc hi
  obtain ⟨j, k, hj, hk, ha, hb, he, _⟩ := wt_two hc hi h0
  rw [he]
  have P := Lib.hid (hP j hj)
  have Q := Lib.hid (hP k hk)
  have hb1 := (wt_bound hc hw (show j < l.length by omega)).2
  have hb2 := (wt_bound hc hw (show k < l.length by omega)).2
  have CN := Lib.hid (fun W => refCount_any l[i].kind W)
  rw [h0] at CN
  obtain ⟨s, hs⟩ : ∃ s : ByteArray, (⟨(PT l j).toArray⟩ : ByteArray) = s := ⟨_, rfl⟩
  have hl : s.data.toList = PT l j := by rw [← hs]
  have hsz : s.size ≤ 2000 := by rw [← hs]; show (PT l j).toArray.size ≤ 2000; simpa using hb1
  obtain ⟨t, htt⟩ : ∃ s : ByteArray, (⟨(PT l k).toArray⟩ : ByteArray) = s := ⟨_, rfl⟩
  have hl2 : t.data.toList = PT l k := by rw [← htt]
  have hsz2 : t.size ≤ 2000 := by rw [← htt]; show (PT l k).toArray.size ≤ 2000; simpa using hb2
  unfold RefPtOk at P Q
  obtain ⟨jI, hjI⟩ : ∃ q : Int, (j : Int) = q := ⟨_, rfl⟩
  obtain ⟨kI, hkI⟩ : ∃ q : Int, (k : Int) = q := ⟨_, rfl⟩
  rw [hs] at P
  rw [htt] at Q
  simp only [hjI] at P
  simp only [hkI] at Q
  obtain ⟨bb, o, cap, rfl, hlt, c0, c1, c2, c3, c4⟩ := hR.nd i hi
  rw [ha, hjI] at c2
  rw [hb, hkI] at c3
  have hi' : (i : Int) < l.length := by omega
  have hkk : 7 ≤ l[i].kind := by
    unfold arity at h0
    split at h0
    · cases h0
    · split at h0
      · cases h0
      · omega
  obtain ⟨kd, hkd⟩ : ∃ kd, l[i].kind = kd := ⟨_, rfl⟩
  rw [hkd] at c0 hkk k2 CN ⊢
  obtain ⟨n, hkn⟩ : ∃ n : Nat, kd - 7 = (n : Int) := ⟨(kd - 7).toNat, by omega⟩
  have hn13 : n < 13 := by omega
  rw [two_text kd _ _ s t n (by omega) hl hl2]
  have hn0 : (0 : Int) ≤ n := by omega
  have hn1 : (n : Int) < 13 := by omega
  have hw8 : IntKind.u8.wrap (n : Int) = (n : Int) := by
    match n, hn13 with
    | 0, _ | 1, _ | 2, _ | 3, _ | 4, _ | 5, _ | 6, _ | 7, _ | 8, _ | 9, _ | 10, _ | 11, _ | 12, _ => rfl
  have ho : (opAt n).size ≤ 3 := by
    match n, hn13 with
    | 0, _ | 1, _ | 2, _ | 3, _ | 4, _ | 5, _ | 6, _ | 7, _ | 8, _ | 9, _ | 10, _ | 11, _ | 12, _ => decide
  have z1 : (9223372036854775807 < s.size + 1) = False := eq_false (by omega)
  have z2 : (9223372036854775807 < s.size + 1 + (opAt n).size) = False := eq_false (by omega)
  have z3 : (9223372036854775807 < s.size + 1 + (opAt n).size + 1) = False := eq_false (by omega)
  have z4 : (9223372036854775807 < s.size + 1 + (opAt n).size + 1 + t.size) = False := eq_false (by omega)
  have PP : Hid (∀ W, RTwo w kd jI kI W → RHold (.slice (some { block := bb, off := o }) l.length cap) l w W → Calls Tryz.prog 39 #[.slice (some { block := bb, off := o }) l.length cap, .int .i64 jI] W fun e w' => e = .returned (.string s) ∧ RTwo w kd jI kI w' ∧ RHold (.slice (some { block := bb, off := o }) l.length cap) l w w' ∧ Below W.heap.size W w') := Lib.hid fun W h1 h2 => by
    refine (P.out W h2.1).mono ?_
    rintro e w' ⟨rfl, hb⟩
    exact ⟨rfl, h1.then_ h2.2.2 hb, h2.then_ hb, hb⟩
  have QQ : Hid (∀ W, RTwo w kd jI kI W → RHold (.slice (some { block := bb, off := o }) l.length cap) l w W → Calls Tryz.prog 39 #[.slice (some { block := bb, off := o }) l.length cap, .int .i64 kI] W fun e w' => e = .returned (.string t) ∧ RTwo w kd jI kI w' ∧ RHold (.slice (some { block := bb, off := o }) l.length cap) l w w' ∧ Below W.heap.size W w') := Lib.hid fun W h1 h2 => by
    refine (Q.out W h2.1).mono ?_
    rintro e w' ⟨rfl, hb⟩
    exact ⟨rfl, h1.then_ h2.2.2 hb, h2.then_ hb, hb⟩
  have OO : Hid (∀ W, RTwo w kd jI kI W → RHold (.slice (some { block := bb, off := o }) l.length cap) l w W → Calls Tryz.prog 40 #[] W fun e w' => ∃ b, e = .returned (.slice (some ⟨b, 0, none⟩) 13 13) ∧ RTwo w kd jI kI w' ∧ RHold (.slice (some { block := bb, off := o }) l.length cap) l w w' ∧ w'.cell? ⟨b, n, none⟩ = some (.string (opAt n)) ∧ b < w'.heap.size) := Lib.hid fun W h1 h2 => by
    refine (operators_any W).mono ?_
    rintro e w' ⟨rfl, rfl⟩
    have hb : Below W.heap.size W (W.alloc (.cells opVals 9)) := (Below.refl _ _).alloc (Nat.le_refl _) _
    exact ⟨_, rfl, h1.then_ h2.2.2 hb, h2.then_ hb, ops_cell W n hn13, by simp⟩
  have H0 : Hid (∀ ob : Obj, RHold (.slice (some { block := bb, off := o }) l.length cap) l w (w.alloc ob)) := Lib.hid fun ob => by
    have hb : Below w.heap.size w (w.alloc ob) := (Below.refl _ _).alloc (Nat.le_refl _) _
    exact ⟨hR.below hb, hb, by simp⟩
  have HD : ∀ W, RHold (.slice (some { block := bb, off := o }) l.length cap) l w W → RHold (.slice (some { block := bb, off := o }) l.length cap) l w W.drew := fun W h => h.drew
  clear P Q hR hc hw h0 hkd k1 hP ha he hs hb hb1 hb2 htt hj hk hl hl2 hjI hkI
  go_enter Tryz.func15, Tryz.ntmps15
  go_wp2_with fail
  refine (CN.out _).mono ?_
  rintro e w0 ⟨rfl, rfl⟩
  have H1 := H0.out (Obj.cells #[.int .u8 kd, .int .i64 l[i].n, .int .i64 jI, .int .i64 kI, .int .i64 l[i].at_] 35)
  go_wp2_with fail
  refine wp_region_noPanic ?_
  refine wp_region_held_drew (S := (fun W => W.cell? ⟨w.heap.size, 0, none⟩ = some (.int .u8 kd) ∧ W.cell? ⟨w.heap.size, 2, none⟩ = some (.int .i64 jI) ∧ W.cell? ⟨w.heap.size, 3, none⟩ = some (.int .i64 kI) ∧ RHold (.slice (some { block := bb, off := o }) l.length cap) l w W)) (by kernel_rfl) ?hS (fun hHeld => ?hR)
  case hS => (try dsimp only); go_keep
  case hR =>
  refine wpAnyH_take (i := 0) (v := ?v0) (lit_get rfl) (by kernel_rfl) (by kernel_rfl) (by kernel_rfl) (fun _ _ _ h => h) (Or.inl ⟨by rfl, ?h0⟩) hHeld ?r0
  case h0 => (intro W hSw; (try dsimp only at hSw); go_simp; (try with_reducible rfl))
  case r0 =>
  try simp only [Act.put, List.setIfInBounds_toArray, List.set_cons_zero, List.set_cons_succ]
  refine wpAnyH_take (i := 1) (v := ?v1) (lit_get rfl) (by kernel_rfl) (by kernel_rfl) (by kernel_rfl) (fun _ _ _ h => h) (Or.inl ⟨by rfl, ?h1⟩) hHeld ?r1
  case h1 => (intro W hSw; (try dsimp only at hSw); go_simp; (try with_reducible rfl))
  case r1 =>
  try simp only [Act.put, List.setIfInBounds_toArray, List.set_cons_zero, List.set_cons_succ]
  refine wpAnyH_take (i := 2) (v := ?v2) (lit_get rfl) (by kernel_rfl) (by kernel_rfl) (by kernel_rfl) (fun _ _ _ h => h) (Or.inl ⟨by rfl, ?h2⟩) hHeld ?r2
  case h2 => (intro W hSw; (try dsimp only at hSw); go_simp; (try with_reducible rfl))
  case r2 =>
  try simp only [Act.put, List.setIfInBounds_toArray, List.set_cons_zero, List.set_cons_succ]
  refine wpAnyH_take (i := 6) (v := ?v6) (lit_get rfl) (by kernel_rfl) (by kernel_rfl) (by kernel_rfl) (fun _ _ _ h => h) (Or.inl ⟨by rfl, ?h6⟩) hHeld ?r6
  case h6 => (intro W hSw; (try dsimp only at hSw); go_simp; (try with_reducible rfl))
  case r6 =>
  try simp only [Act.put, List.setIfInBounds_toArray, List.set_cons_zero, List.set_cons_succ]
  refine wpAnyH_take (i := 7) (v := ?v7) (lit_get rfl) (by kernel_rfl) (by kernel_rfl) (by kernel_rfl) (fun _ _ _ h => h) (Or.inl ⟨by rfl, ?h7⟩) hHeld ?r7
  case h7 => (intro W hSw; (try dsimp only at hSw); go_simp; (try with_reducible rfl))
  case r7 =>
  try simp only [Act.put, List.setIfInBounds_toArray, List.set_cons_zero, List.set_cons_succ]
  refine wpAnyH_take (i := 8) (v := ?v8) (lit_get rfl) (by kernel_rfl) (by kernel_rfl) (by kernel_rfl) (fun _ _ _ h => h) (Or.inl ⟨by rfl, ?h8⟩) hHeld ?r8
  case h8 => (intro W hSw; (try dsimp only at hSw); go_simp; (try with_reducible rfl))
  case r8 =>
  try simp only [Act.put, List.setIfInBounds_toArray, List.set_cons_zero, List.set_cons_succ]
  refine wpAnyH_take (i := 13) (v := ?v13) (lit_get rfl) (by kernel_rfl) (by kernel_rfl) (by kernel_rfl) (fun _ _ _ h => h) (Or.inl ⟨by rfl, ?h13⟩) hHeld ?r13
  case h13 => (intro W hSw; (try dsimp only at hSw); go_simp; (try with_reducible rfl))
  case r13 =>
  try simp only [Act.put, List.setIfInBounds_toArray, List.set_cons_zero, List.set_cons_succ]
  refine wpAnyH_take (i := 14) (v := ?v14) (lit_get rfl) (by kernel_rfl) (by kernel_rfl) (by kernel_rfl) (fun _ _ _ h => h) (Or.inl ⟨by rfl, ?h14⟩) hHeld ?r14
  case h14 => (intro W hSw; (try dsimp only at hSw); go_simp; (try with_reducible rfl))
  case r14 =>
  try simp only [Act.put, List.setIfInBounds_toArray, List.set_cons_zero, List.set_cons_succ]
  refine wpAnyH_take (i := 15) (v := ?v15) (lit_get rfl) (by kernel_rfl) (by kernel_rfl) (by kernel_rfl) (fun _ _ _ h => h) (Or.inl ⟨by rfl, ?h15⟩) hHeld ?r15
  case h15 => (intro W hSw; (try dsimp only at hSw); go_simp; (try with_reducible rfl))
  case r15 =>
  try simp only [Act.put, List.setIfInBounds_toArray, List.set_cons_zero, List.set_cons_succ]
  refine wpAnyH_ready (rs := [3]) (by kernel_rfl) (by simp) ?_
  refine AllReadyH.cons (lit_get rfl) (fun K hK => ?_) AllReadyH.nil
  go_simp
  (go_at_call_of 39 jI; refine (PP.out _ ?_ ?_).mono ?_; (unfold RTwo; simp [*]); (simp [*]); rintro e w2 ⟨rfl, ⟨e0, e2, e3⟩, e5, hbP⟩)
  refine hK.out _ _ ?s3 (fun hHeldN => ?n3)
  case s3 => (try dsimp only); go_keep
  case n3 =>
  clear hK K hHeld
  have hHeld := hHeldN
  clear hHeldN
  try simp only [Act.put, List.setIfInBounds_toArray, List.set_cons_zero, List.set_cons_succ]
  refine wpAnyH_take (i := 4) (v := ?v4) (lit_get rfl) (by kernel_rfl) (by kernel_rfl) (by kernel_rfl) (fun _ _ _ h => h) (Or.inl ⟨by rfl, ?h4⟩) hHeld ?r4
  case h4 => (intro W hSw; (try dsimp only at hSw); go_simp; (try with_reducible rfl))
  case r4 =>
  try simp only [Act.put, List.setIfInBounds_toArray, List.set_cons_zero, List.set_cons_succ]
  refine wpAnyH_ready (rs := [5]) (by kernel_rfl) (by simp) ?_
  refine AllReadyH.cons (lit_get rfl) (fun K hK => ?_) AllReadyH.nil
  go_simp
  (go_at_call 40; refine (OO.out _ ?_ ?_).mono ?_; (unfold RTwo; simp [*]); (simp [*]); rintro e w4 ⟨ob, rfl, ⟨g0, g2, g3⟩, g5, opc, opl⟩)
  refine hK.out _ _ ?s5 (fun hHeldN => ?n5)
  case s5 => (try dsimp only); go_keep
  case n5 =>
  clear hK K hHeld
  refine wpAnyH_strong (S' := (fun W => W.cell? ⟨w.heap.size, 0, none⟩ = some (.int .u8 kd) ∧ W.cell? ⟨w.heap.size, 2, none⟩ = some (.int .i64 jI) ∧ W.cell? ⟨w.heap.size, 3, none⟩ = some (.int .i64 kI) ∧ W.cell? ⟨ob, n, none⟩ = some (.string (opAt n)) ∧ RHold (.slice (some { block := bb, off := o }) l.length cap) l w W)) (fun W h => ⟨h.1, h.2.1, h.2.2.1, h.2.2.2.2⟩) _ _ _ _ ?t5
  case t5 =>
  have hHeld : (fun W => W.cell? ⟨w.heap.size, 0, none⟩ = some (.int .u8 kd) ∧ W.cell? ⟨w.heap.size, 2, none⟩ = some (.int .i64 jI) ∧ W.cell? ⟨w.heap.size, 3, none⟩ = some (.int .i64 kI) ∧ W.cell? ⟨ob, n, none⟩ = some (.string (opAt n)) ∧ RHold (.slice (some { block := bb, off := o }) l.length cap) l w W) w4 := ⟨g0, g2, g3, opc, g5⟩
  clear hHeldN
  try simp only [Act.put, List.setIfInBounds_toArray, List.set_cons_zero, List.set_cons_succ]
  refine wpAnyH_take (i := 9) (v := ?v9) (lit_get rfl) (by kernel_rfl) (by kernel_rfl) (by kernel_rfl) (fun _ _ _ h => h) (Or.inl ⟨by rfl, ?h9⟩) hHeld ?r9
  case h9 => (intro W hSw; (try dsimp only at hSw); go_simp; (try with_reducible rfl))
  case r9 =>
  try simp only [Act.put, List.setIfInBounds_toArray, List.set_cons_zero, List.set_cons_succ]
  refine wpAnyH_take (i := 10) (v := ?v10) (lit_get rfl) (by kernel_rfl) (by kernel_rfl) (by kernel_rfl) (fun _ _ _ h => h) (Or.inl ⟨by rfl, ?h10⟩) hHeld ?r10
  case h10 => (intro W hSw; (try dsimp only at hSw); go_simp; (try with_reducible rfl))
  case r10 =>
  try simp only [Act.put, List.setIfInBounds_toArray, List.set_cons_zero, List.set_cons_succ]
  refine wpAnyH_take (i := 11) (v := ?v11) (lit_get rfl) (by kernel_rfl) (by kernel_rfl) (by kernel_rfl) (fun _ _ _ h => h) (Or.inl ⟨by rfl, ?h11⟩) hHeld ?r11
  case h11 => (intro W hSw; (try dsimp only at hSw); go_simp; (try with_reducible rfl))
  case r11 =>
  try simp only [Act.put, List.setIfInBounds_toArray, List.set_cons_zero, List.set_cons_succ]
  refine wpAnyH_take (i := 12) (v := ?v12) (lit_get rfl) (by kernel_rfl) (by kernel_rfl) (by kernel_rfl) (fun _ _ _ h => h) (Or.inl ⟨by rfl, ?h12⟩) hHeld ?r12
  case h12 => (intro W hSw; (try dsimp only at hSw); go_simp; (try with_reducible rfl))
  case r12 =>
  try simp only [Act.put, List.setIfInBounds_toArray, List.set_cons_zero, List.set_cons_succ]
  refine wpAnyH_ready (rs := [16]) (by kernel_rfl) (by simp) ?_
  refine AllReadyH.cons (lit_get rfl) (fun K hK => ?_) AllReadyH.nil
  go_simp
  (go_at_call_of 39 kI; refine (QQ.out _ ?_ ?_).mono ?_; (unfold RTwo; simp [*]); (simp [*]); rintro e w3 ⟨rfl, ⟨f0, f2, f3⟩, f5, hbQ⟩; have opc2 := (hbQ.cell (p := ⟨ob, n, none⟩) (by simpa using opl)).trans opc)
  refine hK.out _ _ ?s16 (fun hHeldN => ?n16)
  case s16 => (try dsimp only); go_keep
  case n16 =>
  clear hK K hHeld
  have hHeld := hHeldN
  clear hHeldN
  try simp only [Act.put, List.setIfInBounds_toArray, List.set_cons_zero, List.set_cons_succ]
  refine wpAnyH_take (i := 17) (v := ?v17) (lit_get rfl) (by kernel_rfl) (by kernel_rfl) (by kernel_rfl) (fun _ _ _ h => h) (Or.inl ⟨by rfl, ?h17⟩) hHeld ?r17
  case h17 => (intro W hSw; (try dsimp only at hSw); go_simp; (try with_reducible rfl))
  case r17 =>
  try simp only [Act.put, List.setIfInBounds_toArray, List.set_cons_zero, List.set_cons_succ]
  refine wpAnyH_take (i := 18) (v := ?v18) (lit_get rfl) (by kernel_rfl) (by kernel_rfl) (by kernel_rfl) (fun _ _ _ h => h) (Or.inl ⟨by rfl, ?h18⟩) hHeld ?r18
  case h18 => (intro W hSw; (try dsimp only at hSw); go_simp; (try with_reducible rfl))
  case r18 =>
  try simp only [Act.put, List.setIfInBounds_toArray, List.set_cons_zero, List.set_cons_succ]
  refine wpAnyH_done (by kernel_rfl) ?_ _
  refine NoPanic.normal ?_
  go_wp2_with fail
  go_ret
  exact ⟨rfl, f5.2.1⟩
theorem all_refWr (v : Value) (l : List Nd) (hc : checkV l = 0) (hw : Wide l) (m : Nat) : ∀ i, i < m → i < l.length → RefPtOk v l i ∧ RefWrOk v l i := by
  induction m with
  | zero => intro i h; omega
  | succ m ih =>
    intro i hm hi
    have hP : ∀ j, j < i → RefPtOk v l j := fun j hj => (ih j (by omega) (by omega)).1
    have hW : RefWrOk v l i := by
      rcases arity_cases l[i].kind with h | h | h
      · exact refWr_leaf v l i hc hw hi h
      · exact refWr_one v l i hc hw hi h hP
      · exact refWr_two v l i hc hw hi h hP
    exact ⟨refPart_ok v l i hc hw hi hW, hW⟩
theorem refWritten_any (v : Value) (l : List Nd) (i : Nat) (w : World) (hR : ReadsN w v l) (hc : checkV l = 0) (hw : Wide l) (hi : i < l.length) :
    Calls Tryz.prog 15 #[v, .int .i64 i] w fun e w' => e = .returned (.string ⟨(WT l i).toArray⟩) ∧ Below w.heap.size w w' :=
  (all_refWr v l hc hw (i + 1) i (Nat.lt_succ_self _) hi).2 w hR
end Go.Proofs.YtgmfelikmjclbaaGreatDoor.ExprW

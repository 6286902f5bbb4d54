/-
  The walk of layer 5's statement ExprsBrackets: its guard's exits.
-/
import Derived.Test.YtgmfelikmjclbaaGreatDoorqExprBracketsHelp
import Derived.Test.YtgmfelikmjclbaaGreatDoorRegionHand
import Derived.Outline
namespace Go.Proofs.YtgmfelikmjclbaaGreatDoor.ExprW
open Nodes Exprs
open Go.ChangeShapes Go.WideShapes Go.ChangeAt Go.RowKit

set_option linter.unusedSimpArgs false in
set_option linter.unusedVariables false in
set_option maxRecDepth 100000 in
set_option maxHeartbeats 4000000 in
theorem brackets_many (ax af : Option Addr) (cx cf : Nat) (x : List Nd) (fs : List Tok) (kd : Int) (xb : ByteArray) (qb : Int) (w : World) (hX : ReadsN w (.slice ax x.length cx) x) (hF : Go.Proofs.YtgmfelikmjclbaaGreatDoor.Reads w (.slice af fs.length cf) fs) (hf : ExprFix w) (h70 : ¬ 70 < x.length) (hc : checkV x = 0) (h30 : 30 < fs.length) :
    Calls Tryz.prog 4 #[.slice ax x.length cx, .slice af fs.length cf, .agg #[.int .u8 kd, .string xb, .int .i64 qb]] w fun e w' => e = .returned (.bool true) ∧ Below w.heap.size w w' := by
  have AL := Lib.hid (fun (W : World) (h : HW w kd xb qb W) => alive_any W (hf.below h.base))
  have BX := Lib.hid (fun (W : World) (h : HW w kd xb qb W) => h.cells)
  have HD : ∀ W, HW w kd xb qb W → HW w kd xb qb W.drew := fun W h => h.drew
  have HA : ∀ W o, HW w kd xb qb W → HW w kd xb qb (W.alloc o) := fun W o h => h.alloc o
  have GG : Hid (∀ W, HW w kd xb qb W → Calls Tryz.prog 16 #[.slice ax x.length cx] W fun e w' => e = .returned (.bool false) ∧ W = w') := Lib.hid fun W h => by
    have := Nodes.great_any (.slice ax x.length cx) x W (hX.below h.base)
    rwa [decide_eq_false h70] at this
  have CC : Hid (∀ W, HW w kd xb qb W → Calls Tryz.prog 11 #[.slice ax x.length cx] W fun e w' => e = .returned (.int .i64 (checkV x)) ∧ w'.cell? ⟨w.heap.size, 0, none⟩ = some (.int .u8 kd) ∧ w'.cell? ⟨w.heap.size, 1, none⟩ = some (.string xb) ∧ w'.cell? ⟨w.heap.size, 2, none⟩ = some (.int .i64 qb) ∧ HW w kd xb qb w') := Lib.hid fun W h => by
    refine (refCheck_any (.slice ax x.length cx) x W (hX.below h.base) (by omega)).mono ?_
    rintro e w' ⟨rfl, hb⟩
    have h2 := h.then_ hb
    exact ⟨rfl, h2.cells.1, h2.cells.2.1, h2.cells.2.2, h2⟩
  rw [hc] at CC
  have h30i : decide ((30 : Int) < fs.length) = true := decide_eq_true (by omega)
  clear hc h70
  have H1 : HW w kd xb qb (w.alloc (Obj.cells #[.int .u8 kd, .string xb, .int .i64 qb] 28)) := HW.start w kd xb qb
  clear hX hF hf
  go_enter Tryz.func4, Tryz.ntmps4
  go_wp2_with fail
  go_cut [42] from 21 to 42 (fun s42 wx => s42 = .bool true ∧ HW w kd xb qb wx)
  case first =>
    refine wp_region_noPanic ?_
    refine wp_region_held_drew (S := (fun W => W.cell? ⟨w.heap.size, 0, none⟩ = some (.int .u8 kd) ∧ W.cell? ⟨w.heap.size, 1, none⟩ = some (.string xb) ∧ W.cell? ⟨w.heap.size, 2, none⟩ = some (.int .i64 qb) ∧ HW w kd xb qb W)) (by kernel_rfl) ?hS (fun hHeld => ?hR)
    case hS => (try dsimp only); go_keep
    case hR =>
    refine wpAnyH_take (i := 0) (v := ?v0) (lit_get rfl) (by kernel_rfl) (by kernel_rfl) (by kernel_rfl) (fun _ _ _ h => h) (Or.inl ⟨by rfl, ?h0⟩) hHeld ?r0
    case h0 => (intro W hSw; (try dsimp only at hSw); go_simp; (try with_reducible rfl))
    case r0 =>
    try simp only [Act.put, List.setIfInBounds_toArray, List.set_cons_zero, List.set_cons_succ]
    refine wpAnyH_ready (rs := [1]) (by kernel_rfl) (by simp) ?_
    refine AllReadyH.cons (lit_get rfl) (fun K hK => ?_) AllReadyH.nil
    go_simp
    (go_at_call 16; refine (GG.out _ ?_).mono ?_; (simp [*]); rintro e w2 ⟨rfl, rfl⟩)
    refine hK.out _ _ ?s1 (fun hHeldN => ?n1)
    case s1 => (try dsimp only); go_keep
    case n1 =>
    clear hK K hHeld
    have hHeld := hHeldN
    clear hHeldN
    try simp only [Act.put, List.setIfInBounds_toArray, List.set_cons_zero, List.set_cons_succ]
    refine wpAnyH_take (i := 2) (v := ?v2) (lit_get rfl) (by kernel_rfl) (by kernel_rfl) (by kernel_rfl) (fun _ _ _ h => h) (Or.inl ⟨by rfl, ?h2⟩) hHeld ?r2
    case h2 => (intro W hSw; (try dsimp only at hSw); go_simp; (try with_reducible rfl))
    case r2 =>
    try simp only [Act.put, List.setIfInBounds_toArray, List.set_cons_zero, List.set_cons_succ]
    refine wpAnyH_take (i := 3) (v := ?v3) (lit_get rfl) (by kernel_rfl) (by kernel_rfl) (by kernel_rfl) (fun _ _ _ h => h) (Or.inl ⟨by rfl, ?h3⟩) hHeld ?r3
    case h3 => (intro W hSw; (try dsimp only at hSw); go_simp; (try with_reducible rfl))
    case r3 =>
    try simp only [Act.put, List.setIfInBounds_toArray, List.set_cons_zero, List.set_cons_succ]
    refine wpAnyH_ready (rs := [4]) (by kernel_rfl) (by simp) ?_
    refine AllReadyH.cons (lit_get rfl) (fun K hK => ?_) AllReadyH.nil
    go_simp
    (go_at_call 11; refine (CC.out _ ?_).mono ?_; (simp [*]); rintro e w2 ⟨rfl, e0, e1, e2, e3⟩)
    refine hK.out _ _ ?s4 (fun hHeldN => ?n4)
    case s4 => (try dsimp only); go_keep
    case n4 =>
    clear hK K hHeld
    have hHeld := hHeldN
    clear hHeldN
    try simp only [Act.put, List.setIfInBounds_toArray, List.set_cons_zero, List.set_cons_succ]
    refine wpAnyH_take (i := 5) (v := ?v5) (lit_get rfl) (by kernel_rfl) (by kernel_rfl) (by kernel_rfl) (fun _ _ _ h => h) (Or.inl ⟨by rfl, ?h5⟩) hHeld ?r5
    case h5 => (intro W hSw; (try dsimp only at hSw); go_simp; (try with_reducible rfl))
    case r5 =>
    try simp only [Act.put, List.setIfInBounds_toArray, List.set_cons_zero, List.set_cons_succ]
    refine wpAnyH_take (i := 6) (v := ?v6) (lit_get rfl) (by kernel_rfl) (by kernel_rfl) (by kernel_rfl) (fun _ _ _ h => h) (Or.inl ⟨by rfl, ?h6⟩) hHeld ?r6
    case h6 => (intro W hSw; (try dsimp only at hSw); go_simp; (try with_reducible rfl))
    case r6 =>
    try simp only [Act.put, List.setIfInBounds_toArray, List.set_cons_zero, List.set_cons_succ]
    refine wpAnyH_take (i := 7) (v := ?v7) (lit_get rfl) (by kernel_rfl) (by kernel_rfl) (by kernel_rfl) (fun _ _ _ h => h) (Or.inl ⟨by rfl, ?h7⟩) hHeld ?r7
    case h7 => (intro W hSw; (try dsimp only at hSw); go_simp; (try with_reducible rfl))
    case r7 =>
    try simp only [Act.put, List.setIfInBounds_toArray, List.set_cons_zero, List.set_cons_succ]
    refine wpAnyH_take (i := 8) (v := ?v8) (lit_get rfl) (by kernel_rfl) (by kernel_rfl) (by kernel_rfl) (fun _ _ _ h => h) (Or.inl ⟨by rfl, ?h8⟩) hHeld ?r8
    case h8 => (intro W hSw; (try dsimp only at hSw); go_simp; (try with_reducible rfl))
    case r8 =>
    try simp only [Act.put, List.setIfInBounds_toArray, List.set_cons_zero, List.set_cons_succ]
    refine wpAnyH_take (i := 9) (v := ?v9) (lit_get rfl) (by kernel_rfl) (by kernel_rfl) (by kernel_rfl) (fun _ _ _ h => h) (Or.inl ⟨by rfl, ?h9⟩) hHeld ?r9
    case h9 => (intro W hSw; (try dsimp only at hSw); go_simp; (try with_reducible rfl))
    case r9 =>
    try simp only [Act.put, List.setIfInBounds_toArray, List.set_cons_zero, List.set_cons_succ]
    refine wpAnyH_take (i := 10) (v := ?v10) (lit_get rfl) (by kernel_rfl) (by kernel_rfl) (by kernel_rfl) (fun _ _ _ h => h) (Or.inl ⟨by rfl, ?h10⟩) hHeld ?r10
    case h10 => (intro W hSw; (try dsimp only at hSw); go_simp; (try with_reducible rfl))
    case r10 =>
    try simp only [Act.put, List.setIfInBounds_toArray, List.set_cons_zero, List.set_cons_succ]
    refine wpAnyH_take (i := 11) (v := ?v11) (lit_get rfl) (by kernel_rfl) (by kernel_rfl) (by kernel_rfl) (fun _ _ _ h => h) (Or.inl ⟨by rfl, ?h11⟩) hHeld ?r11
    case h11 => (intro W hSw; (try dsimp only at hSw); go_simp; (try with_reducible rfl))
    case r11 =>
    try simp only [Act.put, List.setIfInBounds_toArray, List.set_cons_zero, List.set_cons_succ]
    refine wpAnyH_take (i := 12) (v := ?v12) (lit_get rfl) (by kernel_rfl) (by kernel_rfl) (by kernel_rfl) (fun _ _ _ h => h) (Or.inl ⟨by rfl, ?h12⟩) hHeld ?r12
    case h12 => (intro W hSw; (try dsimp only at hSw); go_simp; (try with_reducible rfl))
    case r12 =>
    try simp only [Act.put, List.setIfInBounds_toArray, List.set_cons_zero, List.set_cons_succ]
    refine wpAnyH_take (i := 13) (v := undef) (lit_get rfl) (by kernel_rfl) (by kernel_rfl) (by kernel_rfl) (fun _ _ _ h => h) (Or.inr ⟨by rfl, rfl⟩) hHeld ?r13
    case r13 =>
    try simp only [Act.put, List.setIfInBounds_toArray, List.set_cons_zero, List.set_cons_succ]
    refine wpAnyH_take (i := 14) (v := undef) (lit_get rfl) (by kernel_rfl) (by kernel_rfl) (by kernel_rfl) (fun _ _ _ h => h) (Or.inr ⟨by rfl, rfl⟩) hHeld ?r14
    case r14 =>
    try simp only [Act.put, List.setIfInBounds_toArray, List.set_cons_zero, List.set_cons_succ]
    refine wpAnyH_take (i := 15) (v := undef) (lit_get rfl) (by kernel_rfl) (by kernel_rfl) (by kernel_rfl) (fun _ _ _ h => h) (Or.inr ⟨by rfl, rfl⟩) hHeld ?r15
    case r15 =>
    try simp only [Act.put, List.setIfInBounds_toArray, List.set_cons_zero, List.set_cons_succ]
    refine wpAnyH_take (i := 16) (v := undef) (lit_get rfl) (by kernel_rfl) (by kernel_rfl) (by kernel_rfl) (fun _ _ _ h => h) (Or.inr ⟨by rfl, rfl⟩) hHeld ?r16
    case r16 =>
    try simp only [Act.put, List.setIfInBounds_toArray, List.set_cons_zero, List.set_cons_succ]
    refine wpAnyH_take (i := 17) (v := undef) (lit_get rfl) (by kernel_rfl) (by kernel_rfl) (by kernel_rfl) (fun _ _ _ h => h) (Or.inr ⟨by rfl, rfl⟩) hHeld ?r17
    case r17 =>
    try simp only [Act.put, List.setIfInBounds_toArray, List.set_cons_zero, List.set_cons_succ]
    refine wpAnyH_take (i := 18) (v := undef) (lit_get rfl) (by kernel_rfl) (by kernel_rfl) (by kernel_rfl) (fun _ _ _ h => h) (Or.inr ⟨by rfl, rfl⟩) hHeld ?r18
    case r18 =>
    try simp only [Act.put, List.setIfInBounds_toArray, List.set_cons_zero, List.set_cons_succ]
    refine wpAnyH_take (i := 19) (v := undef) (lit_get rfl) (by kernel_rfl) (by kernel_rfl) (by kernel_rfl) (fun _ _ _ h => h) (Or.inr ⟨by rfl, rfl⟩) hHeld ?r19
    case r19 =>
    try simp only [Act.put, List.setIfInBounds_toArray, List.set_cons_zero, List.set_cons_succ]
    refine wpAnyH_take (i := 20) (v := undef) (lit_get rfl) (by kernel_rfl) (by kernel_rfl) (by kernel_rfl) (fun _ _ _ h => h) (Or.inr ⟨by rfl, rfl⟩) hHeld ?r20
    case r20 =>
    try simp only [Act.put, List.setIfInBounds_toArray, List.set_cons_zero, List.set_cons_succ]
    refine wpAnyH_take (i := 21) (v := ?v21) (lit_get rfl) (by kernel_rfl) (by kernel_rfl) (by kernel_rfl) (fun _ _ _ h => h) (Or.inl ⟨by rfl, ?h21⟩) hHeld ?r21
    case h21 => (intro W hSw; (try dsimp only at hSw); go_simp; (try with_reducible rfl))
    case r21 =>
    try simp only [Act.put, List.setIfInBounds_toArray, List.set_cons_zero, List.set_cons_succ]
    refine wpAnyH_done (by kernel_rfl) ?_ _
    refine NoPanic.normal ?_
    all_goals (go_wp2_with fail; go_meet; exact ⟨rfl, by simp [*]⟩)
  case rest =>
  obtain ⟨rfl, hb⟩ := hcut
  go_wp2_with fail
  refine (AL.out _ hb).mono ?_
  rintro e w3 ⟨rfl, hb3⟩
  have B3 := Lib.hid (below_step hb.base hb3)
  clear hb3
  go_wp2_with fail
  go_ret
  exact ⟨rfl, B3.out⟩
end Go.Proofs.YtgmfelikmjclbaaGreatDoor.ExprW

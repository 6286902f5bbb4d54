/-
  The walk of layer 5's statement ExprsBrackets: its guard's exits.
-/
import Derived.Test.YtgmfelikmjclbaaGreatDoorqExprBracketsHelp
import Derived.Outline
namespace Go.Proofs.YtgmfelikmjclbaaGreatDoor.ExprW
open Nodes Exprs
open Go.ChangeShapes Go.WideShapes Go.ChangeAt Go.RowKit

set_option linter.unusedVariables false in
set_option maxRecDepth 100000 in
set_option maxHeartbeats 4000000 in
theorem brackets_great (ax af : Option Addr) (cx cf : Nat) (x : List Nd) (fs : List Tok) (kd : Int) (xb : ByteArray) (qb : Int) (w : World) (hX : ReadsN w (.slice ax x.length cx) x) (hF : Go.Proofs.YtgmfelikmjclbaaGreatDoor.Reads w (.slice af fs.length cf) fs) (hf : ExprFix w) (h70 : 70 < x.length) :
    Calls Tryz.prog 4 #[.slice ax x.length cx, .slice af fs.length cf, .agg #[.int .u8 kd, .string xb, .int .i64 qb]] w fun e w' => e = .returned (.bool true) ∧ Below w.heap.size w w' := by
  have AL := Lib.hid (fun (W : World) (h : HW w kd xb qb W) => alive_any W (hf.below h.base))
  have BX := Lib.hid (fun (W : World) (h : HW w kd xb qb W) => h.cells)
  have HD : ∀ W, HW w kd xb qb W → HW w kd xb qb W.drew := fun W h => h.drew
  have HA : ∀ W o, HW w kd xb qb W → HW w kd xb qb (W.alloc o) := fun W o h => h.alloc o
  have GG : Hid (∀ W, HW w kd xb qb W → Calls Tryz.prog 16 #[.slice ax x.length cx] W fun e w' => e = .returned (.bool true) ∧ W = w') := Lib.hid fun W h => by
    have := Nodes.great_any (.slice ax x.length cx) x W (hX.below h.base)
    rwa [decide_eq_true h70] at this
  have H1 : HW w kd xb qb (w.alloc (Obj.cells #[.int .u8 kd, .string xb, .int .i64 qb] 28)) := HW.start w kd xb qb
  clear hX hF hf
  go_enter Tryz.func4, Tryz.ntmps4
  go_wp2_with fail
  go_cut [42] from 21 to 42 (fun s42 wx => s42 = .bool true ∧ HW w kd xb qb wx)
  case first =>
    first
      | (go_region_with (first
          | (go_at_call 16; refine (GG.out _ ?_).mono ?_; (simp [*]); rintro e w2 ⟨rfl, rfl⟩)))
      | fail
    all_goals (go_wp2_with fail; go_meet; exact ⟨rfl, by simp [*]⟩)
  case rest =>
  obtain ⟨rfl, hb⟩ := hcut
  go_wp2_with fail
  refine (AL.out _ hb).mono ?_
  rintro e w3 ⟨rfl, hb3⟩
  have B3 := Lib.hid (below_step hb.base hb3)
  clear hb3
  go_wp2_with fail
  go_ret
  exact ⟨rfl, B3.out⟩
set_option linter.unusedVariables false in
set_option maxRecDepth 100000 in
set_option maxHeartbeats 4000000 in
theorem brackets_bad (ax af : Option Addr) (cx cf : Nat) (x : List Nd) (fs : List Tok) (kd : Int) (xb : ByteArray) (qb : Int) (w : World) (hX : ReadsN w (.slice ax x.length cx) x) (hF : Go.Proofs.YtgmfelikmjclbaaGreatDoor.Reads w (.slice af fs.length cf) fs) (hf : ExprFix w) (h70 : ¬ 70 < x.length) (hc : checkV x ≠ 0) :
    Calls Tryz.prog 4 #[.slice ax x.length cx, .slice af fs.length cf, .agg #[.int .u8 kd, .string xb, .int .i64 qb]] w fun e w' => e = .returned (.bool true) ∧ Below w.heap.size w w' := by
  have AL := Lib.hid (fun (W : World) (h : HW w kd xb qb W) => alive_any W (hf.below h.base))
  have BX := Lib.hid (fun (W : World) (h : HW w kd xb qb W) => h.cells)
  have HD : ∀ W, HW w kd xb qb W → HW w kd xb qb W.drew := fun W h => h.drew
  have HA : ∀ W o, HW w kd xb qb W → HW w kd xb qb (W.alloc o) := fun W o h => h.alloc o
  have GG : Hid (∀ W, HW w kd xb qb W → Calls Tryz.prog 16 #[.slice ax x.length cx] W fun e w' => e = .returned (.bool false) ∧ W = w') := Lib.hid fun W h => by
    have := Nodes.great_any (.slice ax x.length cx) x W (hX.below h.base)
    rwa [decide_eq_false h70] at this
  have CC : Hid (∀ W, HW w kd xb qb W → Calls Tryz.prog 11 #[.slice ax x.length cx] W fun e w' => e = .returned (.int .i64 (checkV x)) ∧ w'.cell? ⟨w.heap.size, 0, none⟩ = some (.int .u8 kd) ∧ w'.cell? ⟨w.heap.size, 1, none⟩ = some (.string xb) ∧ w'.cell? ⟨w.heap.size, 2, none⟩ = some (.int .i64 qb) ∧ HW w kd xb qb w') := Lib.hid fun W h => by
    refine (refCheck_any (.slice ax x.length cx) x W (hX.below h.base) (by omega)).mono ?_
    rintro e w' ⟨rfl, hb⟩
    have h2 := h.then_ hb
    exact ⟨rfl, h2.cells.1, h2.cells.2.1, h2.cells.2.2, h2⟩
  have hc2 : (checkV x != 0) = true := by rw [bne_iff_ne]; exact hc
  obtain ⟨c, hcc⟩ : ∃ c, checkV x = c := ⟨_, rfl⟩
  rw [hcc] at CC hc2
  clear hcc hc h70
  have H1 : HW w kd xb qb (w.alloc (Obj.cells #[.int .u8 kd, .string xb, .int .i64 qb] 28)) := HW.start w kd xb qb
  clear hX hF hf
  go_enter Tryz.func4, Tryz.ntmps4
  go_wp2_with fail
  go_cut [42] from 21 to 42 (fun s42 wx => s42 = .bool true ∧ HW w kd xb qb wx)
  case first =>
    first
      | (go_region_with (first
          | (go_at_call 16; refine (GG.out _ ?_).mono ?_; (simp [*]); rintro e w2 ⟨rfl, rfl⟩)
          | (go_at_call 11; refine (CC.out _ ?_).mono ?_; (simp [*]); rintro e w2 ⟨rfl, e0, e1, e2, e3⟩)))
      | fail
    all_goals (go_wp2_with fail; go_meet; exact ⟨rfl, by simp [*]⟩)
  case rest =>
  obtain ⟨rfl, hb⟩ := hcut
  go_wp2_with fail
  refine (AL.out _ hb).mono ?_
  rintro e w3 ⟨rfl, hb3⟩
  have B3 := Lib.hid (below_step hb.base hb3)
  clear hb3
  go_wp2_with fail
  go_ret
  exact ⟨rfl, B3.out⟩
set_option linter.unusedVariables false in
set_option maxRecDepth 100000 in
set_option maxHeartbeats 4000000 in
theorem brackets_asked (ax af : Option Addr) (cx cf : Nat) (x : List Nd) (fs : List Tok) (kd : Int) (xb : ByteArray) (qb : Int) (w : World) (hX : ReadsN w (.slice ax x.length cx) x) (hF : Go.Proofs.YtgmfelikmjclbaaGreatDoor.Reads w (.slice af fs.length cf) fs) (hf : ExprFix w) (bt : Tok) (hk : bt.kind = kd) (hx : (⟨bt.text.toArray⟩ : ByteArray) = xb) (hq : bt.at_ = qb) (hall : ∀ t ∈ fs ++ [bt], t.text.length ≤ 281474976710656) (h70 : ¬ 70 < x.length) (hc : checkV x = 0) (h30 : ¬ 30 < fs.length) (ha : askedV (fs ++ [bt]) 0 ≠ 0) :
    Calls Tryz.prog 4 #[.slice ax x.length cx, .slice af fs.length cf, .agg #[.int .u8 kd, .string xb, .int .i64 qb]] w fun e w' => e = .returned (.bool true) ∧ Below w.heap.size w w' := by
  have AL := Lib.hid (fun (W : World) (h : HW w kd xb qb W) => alive_any W (hf.below h.base))
  have BX := Lib.hid (fun (W : World) (h : HW w kd xb qb W) => h.cells)
  have HD : ∀ W, HW w kd xb qb W → HW w kd xb qb W.drew := fun W h => h.drew
  have HA : ∀ W o, HW w kd xb qb W → HW w kd xb qb (W.alloc o) := fun W o h => h.alloc o
  have GG : Hid (∀ W, HW w kd xb qb W → Calls Tryz.prog 16 #[.slice ax x.length cx] W fun e w' => e = .returned (.bool false) ∧ W = w') := Lib.hid fun W h => by
    have := Nodes.great_any (.slice ax x.length cx) x W (hX.below h.base)
    rwa [decide_eq_false h70] at this
  have CC : Hid (∀ W, HW w kd xb qb W → Calls Tryz.prog 11 #[.slice ax x.length cx] W fun e w' => e = .returned (.int .i64 (checkV x)) ∧ w'.cell? ⟨w.heap.size, 0, none⟩ = some (.int .u8 kd) ∧ w'.cell? ⟨w.heap.size, 1, none⟩ = some (.string xb) ∧ w'.cell? ⟨w.heap.size, 2, none⟩ = some (.int .i64 qb) ∧ HW w kd xb qb w') := Lib.hid fun W h => by
    refine (refCheck_any (.slice ax x.length cx) x W (hX.below h.base) (by omega)).mono ?_
    rintro e w' ⟨rfl, hb⟩
    have h2 := h.then_ hb
    exact ⟨rfl, h2.cells.1, h2.cells.2.1, h2.cells.2.2, h2⟩
  rw [hc] at CC
  have h30i : decide ((30 : Int) < fs.length) = false := decide_eq_false (by omega)
  have RF := Lib.hid (fun (W : World) (h : HW w kd xb qb W) => hF.below h.base)
  have ROW : Hid ((rowCells [bt]).toArray = #[.int .u8 kd, .string xb, .int .i64 qb]) := Lib.hid (by subst hk hx hq; rfl)
  have AA : Hid (∀ W v, Go.Proofs.YtgmfelikmjclbaaGreatDoor.Reads W v (fs ++ [bt]) → HW w kd xb qb W → Calls Tryz.prog 17 #[v, .int .i64 0] W fun e w' => e = .returned (.int .i64 (askedV (fs ++ [bt]) 0)) ∧ w'.cell? ⟨w.heap.size, 0, none⟩ = some (.int .u8 kd) ∧ w'.cell? ⟨w.heap.size, 1, none⟩ = some (.string xb) ∧ w'.cell? ⟨w.heap.size, 2, none⟩ = some (.int .i64 qb) ∧ HW w kd xb qb w') := Lib.hid fun W v hv h => by
    refine (asked_any v (fs ++ [bt]) 0 W hv hall).mono ?_
    rintro e w' ⟨rfl, hb⟩
    have h2 := h.then_ hb
    exact ⟨rfl, h2.cells.1, h2.cells.2.1, h2.cells.2.2, h2⟩
  have ha2 : (askedV (fs ++ [bt]) 0 != 0) = true := by rw [bne_iff_ne]; exact ha
  obtain ⟨c, hcc⟩ : ∃ c, askedV (fs ++ [bt]) 0 = c := ⟨_, rfl⟩
  rw [hcc] at AA ha2
  have hfl : fs.length ≤ 30 := by omega
  clear hcc hc h70 ha hall h30
  have H1 : HW w kd xb qb (w.alloc (Obj.cells #[.int .u8 kd, .string xb, .int .i64 qb] 28)) := HW.start w kd xb qb
  clear hX hF hf
  go_enter Tryz.func4, Tryz.ntmps4
  go_wp2_with fail
  go_cut [42] from 21 to 42 (fun s42 wx => s42 = .bool true ∧ HW w kd xb qb wx)
  case first =>
    first
      | (go_region_held3 (fun W => W.cell? ⟨w.heap.size, 0, none⟩ = some (.int .u8 kd) ∧ W.cell? ⟨w.heap.size, 1, none⟩ = some (.string xb) ∧ W.cell? ⟨w.heap.size, 2, none⟩ = some (.int .i64 qb) ∧ HW w kd xb qb W) (go_keep) (first
          | (go_at_call 16; refine (GG.out _ ?_).mono ?_; (simp [*]); rintro e w2 ⟨rfl, rfl⟩)
          | (go_at_call 11; refine (CC.out _ ?_).mono ?_; (simp [*]); rintro e w2 ⟨rfl, e0, e1, e2, e3⟩)
          | (refine step_append_toks (by rfl) _ _ rfl (boxed w kd xb qb).heap.size [] fs (.slice (some ⟨_, 0, none⟩) 0 0) (.slice af fs.length cf) rfl rfl (by first | exact own_empty (show HW w kd xb qb _ by simp [*]) _ rfl | exact (own_empty (show HW w kd xb qb _ by simp [*]) _ rfl).alloc _ | exact own_empty (show HW w kd xb qb _ by simp [*]) _ (by simp; done)) (RF.out _ (show HW w kd xb qb _ by simp [*])) (by simp; omega) (Below.size (show HW w kd xb qb _ by simp [*])) ?_; intro v1 w1 own1 grow1; have h1 : HW w kd xb qb w1 := HW.grown (show HW w kd xb qb _ by simp [*]) (by first | exact own_empty (show HW w kd xb qb _ by simp [*]) _ rfl | exact (own_empty (show HW w kd xb qb _ by simp [*]) _ rfl).alloc _ | exact own_empty (show HW w kd xb qb _ by simp [*]) _ (by simp; done)) grow1; obtain ⟨e0, e1, e2⟩ := h1.cells; (try (have r1 := row_grown1 bt ROW.out grow1 (by simp [Value.ownBlock]; done))); (try (have r1 := row_grown2 bt ROW.out grow1 (by simp [Value.ownBlock]; done))))
          | (go_at_call 17; refine (AA.out _ _ (own_reads own2) (by simp [*])).mono ?_; rintro e w3x ⟨rfl, g0, g1, g2, g3⟩)
          | (refine step_append_toks (by rfl) _ _ rfl (boxed w kd xb qb).heap.size fs [bt] v1 (.slice (some ⟨_, 0, none⟩) 1 1) rfl rfl (by first | exact own1 | exact own1.alloc _) (by first | exact r1 _ rfl | exact r1 _ (by simp; done) | exact lit_tok _ bt _ ROW.out _ rfl) (by simp; omega) (Below.size (show HW w kd xb qb _ by simp [*])) ?_; intro v2 w2x own2 grow2; have h2 : HW w kd xb qb w2x := HW.grown (show HW w kd xb qb _ by simp [*]) (by first | exact own1 | exact own1.alloc _) grow2; obtain ⟨f0, f1, f2⟩ := h2.cells)))
      | fail
    all_goals (go_wp2_with fail; go_meet; exact ⟨rfl, by simp [*]⟩)
  case rest =>
  obtain ⟨rfl, hb⟩ := hcut
  go_wp2_with fail
  refine (AL.out _ hb).mono ?_
  rintro e w3 ⟨rfl, hb3⟩
  have B3 := Lib.hid (below_step hb.base hb3)
  clear hb3
  go_wp2_with fail
  go_ret
  exact ⟨rfl, B3.out⟩
end Go.Proofs.YtgmfelikmjclbaaGreatDoor.ExprW

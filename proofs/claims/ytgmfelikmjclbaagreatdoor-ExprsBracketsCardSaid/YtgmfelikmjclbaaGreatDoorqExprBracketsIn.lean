/-
  The walk of layer 5's statement ExprsBrackets: behind its guard.
-/
import Derived.Test.YtgmfelikmjclbaaGreatDoorqExprBracketsHelp
import Derived.Test.YtgmfelikmjclbaaGreatDoorPackG1
import Derived.Test.YtgmfelikmjclbaaGreatDoorNodeSame
import Derived.Outline
namespace Go.Proofs.YtgmfelikmjclbaaGreatDoor.ExprW
open Nodes Exprs
open Go.ChangeShapes Go.WideShapes Go.ChangeAt Go.RowKit

theorem HW.weak {w W : World} {kd : Int} {xb : ByteArray} {qb : Int} (h : HW w kd xb qb W) {B : Nat} {W' : World} (hb : Below B W W') (hB : W.heap.size ≤ B) : HW w kd xb qb W' := h.then_ (hb.mono hB)
theorem own_apart {w5 w w' : World} {b n m : Nat} {v u : Value} {xs ys : List Value} (hO : w5.ownsRow b 28 3 v n xs) (hy : w.ownsRow w5.heap.size 35 5 u m ys) (hg : w.grownBy w' v.ownBlock) : w'.ownsRow w5.heap.size 35 5 u m ys := by
  refine hy.kept hg ?_
  rcases hy.2 with ⟨rfl, _⟩ | ⟨g, cap, cur, rfl, hb, _⟩
  · exact .inl rfl
  · right
    intro he
    rcases hO.2 with ⟨rfl, _⟩ | ⟨g2, cap2, cur2, rfl, hb2, h3, _⟩
    · simp [Value.ownBlock] at he
    · simp [Value.ownBlock] at he
      subst he
      have := (Array.getElem?_eq_some_iff.1 h3).1
      omega
theorem beq_no {a b : ByteArray} (h : ¬ a = b) : (a == b) = false := by
  cases a with | mk a =>
  cases b with | mk b =>
  show (a == b) = false
  rw [beq_eq_false_iff_ne]
  exact fun e => h (by rw [e])
theorem own_held {B : Nat} {e : TypeId} {k n : Nat} {v : Value} {xs : List Value} {w w' : World} (h : w.ownsRow B e k v n xs) (hb : Below w.heap.size w w') : w'.ownsRow B e k v n xs := by
  have hg : w.grownBy w' none := ⟨hb.os, hb.tape, hb.output, hb.size, fun j hj _ => hb.block j hj⟩
  refine h.kept hg ?_
  cases v.ownBlock with
  | none => exact .inl rfl
  | some g => exact .inr (by simp)
theorem own_empty0 (W : World) : (W.alloc (.cells #[] 28)).ownsRow W.heap.size 28 3 (.slice (some ⟨W.heap.size, 0, none⟩) 0 0) ([] : List Tok).length (rowCells []) :=
  World.ownsRow_lit W #[] 0 (Nat.le_refl _) (Nat.zero_le _) rfl
theorem same_leN {a b : List Nd} (h : sameV a b = (true, 0)) : b.length ≤ 1000000 := by
  unfold sameV at h
  by_cases ha : checkV a = 0
  · rw [if_pos ha] at h
    by_cases hb : checkV b = 0
    · have := small_valid hb
      omega
    · rw [if_neg hb] at h
      simp at h
  · rw [if_neg ha] at h
    simp at h
theorem grown_own_alloc {w3 W W' : World} {o : Obj} {e : TypeId} {size n : Nat} {v : Value} {xs : List Value} (ho : W.ownsRow w3.heap.size e size v n xs) (hC : Below w3.heap.size w3 W) (hg : (W.alloc o).grownBy W' v.ownBlock) : Below w3.heap.size w3 W' :=
  grown_own_below (ho.alloc o) (hC.alloc hC.size o) hg
theorem own_apart_alloc {w5 w w' : World} {b n m : Nat} {v u : Value} {xs ys : List Value} {o : Obj} (hO : w5.ownsRow b 28 3 v n xs) (hy : w.ownsRow w5.heap.size 35 5 u m ys) (hg : (w.alloc o).grownBy w' v.ownBlock) : w'.ownsRow w5.heap.size 35 5 u m ys :=
  own_apart hO (hy.alloc o) hg
set_option linter.unusedVariables false in
set_option maxRecDepth 100000 in
set_option maxHeartbeats 4000000 in
theorem brackets_long (ax af : Option Addr) (cx cf : Nat) (x : List Nd) (fs : List Tok) (kd : Int) (xb : ByteArray) (qb : Int) (w : World) (hX : ReadsN w (.slice ax x.length cx) x) (hF : Go.Proofs.YtgmfelikmjclbaaGreatDoor.Reads w (.slice af fs.length cf) fs) (hf : ExprFix w) (bt : Tok) (hk : bt.kind = kd) (hx : (⟨bt.text.toArray⟩ : ByteArray) = xb) (hq : bt.at_ = qb) (hall : ∀ t ∈ fs ++ [bt], t.text.length ≤ 281474976710656) (h70 : ¬ 70 < x.length) (hc : checkV x = 0) (h30 : ¬ 30 < fs.length) (ha : askedV (fs ++ [bt]) 0 = 0) (hw : Wide x) (hfs : ∀ t ∈ fs ++ [bt], validT t = true ∧ 0 ≤ t.at_ ∧ t.at_ ≤ 400) (hl : 390 < (textV x).1.length) :
    Calls Tryz.prog 4 #[.slice ax x.length cx, .slice af fs.length cf, .agg #[.int .u8 kd, .string xb, .int .i64 qb]] w fun e w' => e = .returned (.bool true) ∧ Below w.heap.size w w' := by
  have AL := Lib.hid (fun (W : World) (h : HW w kd xb qb W) => alive_any W (hf.below h.base))
  have BX := Lib.hid (fun (W : World) (h : HW w kd xb qb W) => h.cells)
  have HD : ∀ W, HW w kd xb qb W → HW w kd xb qb W.drew := fun W h => h.drew
  have HA : ∀ W o, HW w kd xb qb W → HW w kd xb qb (W.alloc o) := fun W o h => h.alloc o
  have GG : Hid (∀ W, HW w kd xb qb W → Calls Tryz.prog 16 #[.slice ax x.length cx] W fun e w' => e = .returned (.bool false) ∧ W = w') := Lib.hid fun W h => by
    have := Nodes.great_any (.slice ax x.length cx) x W (hX.below h.base)
    rwa [decide_eq_false h70] at this
  have CC : Hid (∀ W, HW w kd xb qb W → Calls Tryz.prog 11 #[.slice ax x.length cx] W fun e w' => e = .returned (.int .i64 (checkV x)) ∧ w'.cell? ⟨w.heap.size, 0, none⟩ = some (.int .u8 kd) ∧ w'.cell? ⟨w.heap.size, 1, none⟩ = some (.string xb) ∧ w'.cell? ⟨w.heap.size, 2, none⟩ = some (.int .i64 qb) ∧ HW w kd xb qb w') := Lib.hid fun W h => by
    refine (refCheck_any (.slice ax x.length cx) x W (hX.below h.base) (by omega)).mono ?_
    rintro e w' ⟨rfl, hb⟩
    have h2 := h.then_ hb
    exact ⟨rfl, h2.cells.1, h2.cells.2.1, h2.cells.2.2, h2⟩
  rw [hc] at CC
  have h30i : decide ((30 : Int) < fs.length) = false := decide_eq_false (by omega)
  have RF := Lib.hid (fun (W : World) (h : HW w kd xb qb W) => hF.below h.base)
  have ROW : Hid ((rowCells [bt]).toArray = #[.int .u8 kd, .string xb, .int .i64 qb]) := Lib.hid (by subst hk hx hq; rfl)
  have AA : Hid (∀ W v, Go.Proofs.YtgmfelikmjclbaaGreatDoor.Reads W v (fs ++ [bt]) → HW w kd xb qb W → Calls Tryz.prog 17 #[v, .int .i64 0] W fun e w' => e = .returned (.int .i64 (askedV (fs ++ [bt]) 0)) ∧ w'.cell? ⟨w.heap.size, 0, none⟩ = some (.int .u8 kd) ∧ w'.cell? ⟨w.heap.size, 1, none⟩ = some (.string xb) ∧ w'.cell? ⟨w.heap.size, 2, none⟩ = some (.int .i64 qb) ∧ HW w kd xb qb w') := Lib.hid fun W v hv h => by
    refine (asked_any v (fs ++ [bt]) 0 W hv hall).mono ?_
    rintro e w' ⟨rfl, hb⟩
    have h2 := h.then_ hb
    exact ⟨rfl, h2.cells.1, h2.cells.2.1, h2.cells.2.2, h2⟩
  rw [ha] at AA
  have hfl : fs.length ≤ 30 := by omega
  have XF := Lib.hid (fun (W : World) (h : HW w kd xb qb W) => hf.below h.base)
  have XR := Lib.hid (fun (W : World) (h : HW w kd xb qb W) => hX.below h.base)
  have RF := Lib.hid (fun (W : World) (h : HW w kd xb qb W) => hF.below h.base)
  have T := Lib.hid (fun W hW hr => exprsText_any (.slice ax x.length cx) x W hW hr (by omega) hw)
  have hlen := text_long hc hw
  obtain ⟨t, ht⟩ : ∃ t, (textV x).1 = t := ⟨_, rfl⟩
  have hte : textV x = (t, 0) := Prod.ext ht (text_ok hc)
  rw [ht] at hlen hl
  have ts : (⟨t.toArray⟩ : ByteArray).size = t.length := by show t.toArray.size = _; simp
  rw [hte] at T
  unfold TextEnds at T
  simp only at T
  have hg : (390 : Int) < (⟨t.toArray⟩ : ByteArray).size := by rw [ts]; omega
  obtain ⟨s, hs⟩ : ∃ s : ByteArray, (⟨t.toArray⟩ : ByteArray) = s := ⟨_, rfl⟩
  simp only [hs] at T hg
  have h30i : decide ((30 : Int) < fs.length) = false := decide_eq_false (by omega)
  clear hs ts hlen ht hte hc h70 h30 hw ha

  have H1 : HW w kd xb qb (w.alloc (Obj.cells #[.int .u8 kd, .string xb, .int .i64 qb] 28)) := HW.start w kd xb qb
  clear hX hF hf
  go_enter Tryz.func4, Tryz.ntmps4
  go_wp2_with fail
  go_cut [42] from 21 to 42 (fun s42 wx => s42 = .bool false ∧ HW w kd xb qb wx)
  case first =>
    first
      | (go_region_held3 (fun W => W.cell? ⟨w.heap.size, 0, none⟩ = some (.int .u8 kd) ∧ W.cell? ⟨w.heap.size, 1, none⟩ = some (.string xb) ∧ W.cell? ⟨w.heap.size, 2, none⟩ = some (.int .i64 qb) ∧ HW w kd xb qb W) (go_keep) (first
          | (go_at_call 16; refine (GG.out _ ?_).mono ?_; (simp [*]); rintro e w2 ⟨rfl, rfl⟩)
          | (go_at_call 11; refine (CC.out _ ?_).mono ?_; (simp [*]); rintro e w2 ⟨rfl, e0, e1, e2, e3⟩)
          | (refine step_append_toks (by rfl) _ _ rfl (boxed w kd xb qb).heap.size [] fs (.slice (some ⟨_, 0, none⟩) 0 0) (.slice af fs.length cf) rfl rfl (by first | exact own_empty (show HW w kd xb qb _ by simp [*]) _ rfl | exact (own_empty (show HW w kd xb qb _ by simp [*]) _ rfl).alloc _ | exact own_empty (show HW w kd xb qb _ by simp [*]) _ (by simp; done)) (RF.out _ (show HW w kd xb qb _ by simp [*])) (by simp; omega) (Below.size (show HW w kd xb qb _ by simp [*])) ?_; intro v1 w1 own1 grow1; have h1 : HW w kd xb qb w1 := HW.grown (show HW w kd xb qb _ by simp [*]) (by first | exact own_empty (show HW w kd xb qb _ by simp [*]) _ rfl | exact (own_empty (show HW w kd xb qb _ by simp [*]) _ rfl).alloc _ | exact own_empty (show HW w kd xb qb _ by simp [*]) _ (by simp; done)) grow1; obtain ⟨e0, e1, e2⟩ := h1.cells; (try (have r1 := row_grown1 bt ROW.out grow1 (by simp [Value.ownBlock]; done))); (try (have r1 := row_grown2 bt ROW.out grow1 (by simp [Value.ownBlock]; done))))
          | (refine step_append_toks (by rfl) _ _ rfl (boxed w kd xb qb).heap.size fs [bt] v1 (.slice (some ⟨_, 0, none⟩) 1 1) rfl rfl (by first | exact own1 | exact own1.alloc _) (by first | exact r1 _ rfl | exact r1 _ (by simp; done) | exact lit_tok _ bt _ ROW.out _ rfl) (by simp; omega) (Below.size (show HW w kd xb qb _ by simp [*])) ?_; intro v2 w2x own2 grow2; have h2 : HW w kd xb qb w2x := HW.grown (show HW w kd xb qb _ by simp [*]) (by first | exact own1 | exact own1.alloc _) grow2; obtain ⟨f0, f1, f2⟩ := h2.cells)
          | (go_at_call 17; refine (AA.out _ _ (own_reads own2) (by simp [*])).mono ?_; rintro e w3x ⟨rfl, g0, g1, g2, g3⟩)))
      | fail
    all_goals (go_wp2_with fail; go_meet; exact ⟨rfl, by simp [*]⟩)
  case rest =>
  obtain ⟨rfl, hb⟩ := hcut
  rename_i wg
  have H1 := Lib.hid hb
  clear hb
  go_wp2_with fail
  refine (T.out _ (XF.out _ H1.out) (XR.out _ H1.out)).mono ?_
  rintro e w2 ⟨rfl, hb⟩
  have H2 := Lib.hid (HW.then_ H1.out hb)
  clear hb
  go_wp2_with fail
  refine (AL.out _ H2.out).mono ?_
  rintro e w3 ⟨rfl, hb⟩
  have H3 := Lib.hid (HW.then_ H2.out hb)
  go_wp2_with fail
  go_ret
  exact ⟨rfl, H3.out.base⟩
set_option linter.unusedVariables false in
set_option maxRecDepth 100000 in
set_option maxHeartbeats 4000000 in
theorem brackets_lots (ax af : Option Addr) (cx cf : Nat) (x : List Nd) (fs : List Tok) (kd : Int) (xb : ByteArray) (qb : Int) (w : World) (hX : ReadsN w (.slice ax x.length cx) x) (hF : Go.Proofs.YtgmfelikmjclbaaGreatDoor.Reads w (.slice af fs.length cf) fs) (hf : ExprFix w) (bt : Tok) (hk : bt.kind = kd) (hx : (⟨bt.text.toArray⟩ : ByteArray) = xb) (hq : bt.at_ = qb) (hall : ∀ t ∈ fs ++ [bt], t.text.length ≤ 281474976710656) (h70 : ¬ 70 < x.length) (hc : checkV x = 0) (h30 : ¬ 30 < fs.length) (ha : askedV (fs ++ [bt]) 0 = 0) (hw : Wide x) (hfs : ∀ t ∈ fs ++ [bt], validT t = true ∧ 0 ≤ t.at_ ∧ t.at_ ≤ 400) (hl : ¬ 390 < (textV x).1.length) (hl150 : 150 < (allV (40 :: (textV x).1 ++ [41])).1.length) :
    Calls Tryz.prog 4 #[.slice ax x.length cx, .slice af fs.length cf, .agg #[.int .u8 kd, .string xb, .int .i64 qb]] w fun e w' => e = .returned (.bool true) ∧ Below w.heap.size w w' := by
  have AL := Lib.hid (fun (W : World) (h : HW w kd xb qb W) => alive_any W (hf.below h.base))
  have BX := Lib.hid (fun (W : World) (h : HW w kd xb qb W) => h.cells)
  have HD : ∀ W, HW w kd xb qb W → HW w kd xb qb W.drew := fun W h => h.drew
  have HA : ∀ W o, HW w kd xb qb W → HW w kd xb qb (W.alloc o) := fun W o h => h.alloc o
  have GG : Hid (∀ W, HW w kd xb qb W → Calls Tryz.prog 16 #[.slice ax x.length cx] W fun e w' => e = .returned (.bool false) ∧ W = w') := Lib.hid fun W h => by
    have := Nodes.great_any (.slice ax x.length cx) x W (hX.below h.base)
    rwa [decide_eq_false h70] at this
  have CC : Hid (∀ W, HW w kd xb qb W → Calls Tryz.prog 11 #[.slice ax x.length cx] W fun e w' => e = .returned (.int .i64 (checkV x)) ∧ w'.cell? ⟨w.heap.size, 0, none⟩ = some (.int .u8 kd) ∧ w'.cell? ⟨w.heap.size, 1, none⟩ = some (.string xb) ∧ w'.cell? ⟨w.heap.size, 2, none⟩ = some (.int .i64 qb) ∧ HW w kd xb qb w') := Lib.hid fun W h => by
    refine (refCheck_any (.slice ax x.length cx) x W (hX.below h.base) (by omega)).mono ?_
    rintro e w' ⟨rfl, hb⟩
    have h2 := h.then_ hb
    exact ⟨rfl, h2.cells.1, h2.cells.2.1, h2.cells.2.2, h2⟩
  rw [hc] at CC
  have h30i : decide ((30 : Int) < fs.length) = false := decide_eq_false (by omega)
  have RF := Lib.hid (fun (W : World) (h : HW w kd xb qb W) => hF.below h.base)
  have ROW : Hid ((rowCells [bt]).toArray = #[.int .u8 kd, .string xb, .int .i64 qb]) := Lib.hid (by subst hk hx hq; rfl)
  have AA : Hid (∀ W v, Go.Proofs.YtgmfelikmjclbaaGreatDoor.Reads W v (fs ++ [bt]) → HW w kd xb qb W → Calls Tryz.prog 17 #[v, .int .i64 0] W fun e w' => e = .returned (.int .i64 (askedV (fs ++ [bt]) 0)) ∧ w'.cell? ⟨w.heap.size, 0, none⟩ = some (.int .u8 kd) ∧ w'.cell? ⟨w.heap.size, 1, none⟩ = some (.string xb) ∧ w'.cell? ⟨w.heap.size, 2, none⟩ = some (.int .i64 qb) ∧ HW w kd xb qb w') := Lib.hid fun W v hv h => by
    refine (asked_any v (fs ++ [bt]) 0 W hv hall).mono ?_
    rintro e w' ⟨rfl, hb⟩
    have h2 := h.then_ hb
    exact ⟨rfl, h2.cells.1, h2.cells.2.1, h2.cells.2.2, h2⟩
  rw [ha] at AA
  have hfl : fs.length ≤ 30 := by omega
  have XF := Lib.hid (fun (W : World) (h : HW w kd xb qb W) => hf.below h.base)
  have XR := Lib.hid (fun (W : World) (h : HW w kd xb qb W) => hX.below h.base)
  have RF := Lib.hid (fun (W : World) (h : HW w kd xb qb W) => hF.below h.base)
  have T := Lib.hid (fun W hW hr => exprsText_any (.slice ax x.length cx) x W hW hr (by omega) hw)
  have hlen := text_long hc hw
  obtain ⟨t, ht⟩ : ∃ t, (textV x).1 = t := ⟨_, rfl⟩
  have hte : textV x = (t, 0) := Prod.ext ht (text_ok hc)
  rw [ht] at hlen hl
  have ts : (⟨t.toArray⟩ : ByteArray).size = t.length := by show t.toArray.size = _; simp
  rw [hte] at T
  unfold TextEnds at T
  simp only at T
  have hg : ¬ (390 : Int) < (⟨t.toArray⟩ : ByteArray).size := by rw [ts]; omega
  have A := Lib.hid (fits_all ⟨(40 :: t ++ [41]).toArray⟩ (by show (List.toArray _).size ≤ _; simp; unfold maxLen; omega))
  have hdl : (⟨(40 :: t ++ [41]).toArray⟩ : ByteArray).data.toList = 40 :: t ++ [41] := rfl
  rw [hdl] at A
  have SH := all_short (40 :: t ++ [41])
  obtain ⟨b0, b1⟩ := brackets_v hc hw (by rw [ht]; omega) (fun u hu => hfs u (List.mem_append_left _ hu)) (by omega)
  rw [ht] at b0 b1
  obtain ⟨ls, n0, e0, hal⟩ : ∃ ls n0 e0, allV (40 :: t ++ [41]) = (ls, n0, e0) := ⟨_, _, _, rfl⟩
  rw [ht, hal] at hl150
  rw [hal] at A SH b0 b1
  simp only at A SH b0 b1 hl150
  subst b0
  obtain ⟨s2, hs2⟩ : ∃ s2 : ByteArray, (⟨(40 :: t ++ [41]).toArray⟩ : ByteArray) = s2 := ⟨_, rfl⟩
  rw [hs2] at A
  obtain ⟨s, hs⟩ : ∃ s : ByteArray, (⟨t.toArray⟩ : ByteArray) = s := ⟨_, rfl⟩
  simp only [hs] at T hg
  have hss : ({ data := #[40] } : ByteArray) ++ s ++ { data := #[41] } = s2 := by rw [← hs, ← hs2]; apply ByteArray.ext; apply Array.toList_inj.1; simp
  have z0 : s.size = t.length := by rw [← hs]; exact ts
  have q1 : (9223372036854775807 < 1 + s.size) = False := eq_false (by omega)
  have q2 : (9223372036854775807 < 1 + s.size + 1) = False := eq_false (by omega)
  have hgl : (150 : Int) < ls.length := by omega
  clear b1 SH hal hdl hs2 hs ts hlen ht hte hc h70 h30 hw ha z0 hfs hl150

  have H1 : HW w kd xb qb (w.alloc (Obj.cells #[.int .u8 kd, .string xb, .int .i64 qb] 28)) := HW.start w kd xb qb
  clear hX hF hf
  go_enter Tryz.func4, Tryz.ntmps4
  go_wp2_with fail
  go_cut [42] from 21 to 42 (fun s42 wx => s42 = .bool false ∧ HW w kd xb qb wx)
  case first =>
    first
      | (go_region_held3 (fun W => W.cell? ⟨w.heap.size, 0, none⟩ = some (.int .u8 kd) ∧ W.cell? ⟨w.heap.size, 1, none⟩ = some (.string xb) ∧ W.cell? ⟨w.heap.size, 2, none⟩ = some (.int .i64 qb) ∧ HW w kd xb qb W) (go_keep) (first
          | (go_at_call 16; refine (GG.out _ ?_).mono ?_; (simp [*]); rintro e w2 ⟨rfl, rfl⟩)
          | (go_at_call 11; refine (CC.out _ ?_).mono ?_; (simp [*]); rintro e w2 ⟨rfl, e0, e1, e2, e3⟩)
          | (refine step_append_toks (by rfl) _ _ rfl (boxed w kd xb qb).heap.size [] fs (.slice (some ⟨_, 0, none⟩) 0 0) (.slice af fs.length cf) rfl rfl (by first | exact own_empty (show HW w kd xb qb _ by simp [*]) _ rfl | exact (own_empty (show HW w kd xb qb _ by simp [*]) _ rfl).alloc _ | exact own_empty (show HW w kd xb qb _ by simp [*]) _ (by simp; done)) (RF.out _ (show HW w kd xb qb _ by simp [*])) (by simp; omega) (Below.size (show HW w kd xb qb _ by simp [*])) ?_; intro v1 w1 own1 grow1; have h1 : HW w kd xb qb w1 := HW.grown (show HW w kd xb qb _ by simp [*]) (by first | exact own_empty (show HW w kd xb qb _ by simp [*]) _ rfl | exact (own_empty (show HW w kd xb qb _ by simp [*]) _ rfl).alloc _ | exact own_empty (show HW w kd xb qb _ by simp [*]) _ (by simp; done)) grow1; obtain ⟨e0, e1, e2⟩ := h1.cells; (try (have r1 := row_grown1 bt ROW.out grow1 (by simp [Value.ownBlock]; done))); (try (have r1 := row_grown2 bt ROW.out grow1 (by simp [Value.ownBlock]; done))))
          | (refine step_append_toks (by rfl) _ _ rfl (boxed w kd xb qb).heap.size fs [bt] v1 (.slice (some ⟨_, 0, none⟩) 1 1) rfl rfl (by first | exact own1 | exact own1.alloc _) (by first | exact r1 _ rfl | exact r1 _ (by simp; done) | exact lit_tok _ bt _ ROW.out _ rfl) (by simp; omega) (Below.size (show HW w kd xb qb _ by simp [*])) ?_; intro v2 w2x own2 grow2; have h2 : HW w kd xb qb w2x := HW.grown (show HW w kd xb qb _ by simp [*]) (by first | exact own1 | exact own1.alloc _) grow2; obtain ⟨f0, f1, f2⟩ := h2.cells)
          | (go_at_call 17; refine (AA.out _ _ (own_reads own2) (by simp [*])).mono ?_; rintro e w3x ⟨rfl, g0, g1, g2, g3⟩)))
      | fail
    all_goals (go_wp2_with fail; go_meet; exact ⟨rfl, by simp [*]⟩)
  case rest =>
  obtain ⟨rfl, hb⟩ := hcut
  rename_i wg
  have H1 := Lib.hid hb
  clear hb
  go_wp2_with fail
  refine (T.out _ (XF.out _ H1.out) (XR.out _ H1.out)).mono ?_
  rintro e w2 ⟨rfl, hb⟩
  have H2 := Lib.hid (HW.then_ H1.out hb)
  clear hb
  go_wp2_with fail
  try rw [hss]
  refine (A.out _ (XF.out _ H2.out).1).mono ?_
  rintro e w3 ⟨vl, rfl, hr, hb⟩
  obtain ⟨adl, capl, rfl⟩ := hr.shape
  have K3 := Lib.hid hr
  clear hr
  have H3 := Lib.hid (HW.then_ H2.out hb)
  clear hb
  go_wp2_with fail
  refine (AL.out _ H3.out).mono ?_
  rintro e w4 ⟨rfl, hb⟩
  have H4 := Lib.hid (HW.then_ H3.out hb)
  go_wp2_with fail
  go_ret
  exact ⟨rfl, H4.out.base⟩
set_option linter.unusedVariables false in
set_option maxRecDepth 100000 in
set_option maxHeartbeats 4000000 in
theorem brackets_other (ax af : Option Addr) (cx cf : Nat) (x : List Nd) (fs : List Tok) (kd : Int) (xb : ByteArray) (qb : Int) (w : World) (hX : ReadsN w (.slice ax x.length cx) x) (hF : Go.Proofs.YtgmfelikmjclbaaGreatDoor.Reads w (.slice af fs.length cf) fs) (hf : ExprFix w) (bt : Tok) (hk : bt.kind = kd) (hx : (⟨bt.text.toArray⟩ : ByteArray) = xb) (hq : bt.at_ = qb) (hall : ∀ t ∈ fs ++ [bt], t.text.length ≤ 281474976710656) (h70 : ¬ 70 < x.length) (hc : checkV x = 0) (h30 : ¬ 30 < fs.length) (ha : askedV (fs ++ [bt]) 0 = 0) (hw : Wide x) (hfs : ∀ t ∈ fs ++ [bt], validT t = true ∧ 0 ≤ t.at_ ∧ t.at_ ≤ 400) (hl : ¬ 390 < (textV x).1.length) (hl150 : ¬ 150 < (allV (40 :: (textV x).1 ++ [41])).1.length) (hnc : ¬ Exprs.Calm bt) :
    Calls Tryz.prog 4 #[.slice ax x.length cx, .slice af fs.length cf, .agg #[.int .u8 kd, .string xb, .int .i64 qb]] w fun e w' => e = .returned (.bool true) ∧ Below w.heap.size w w' := by
  have AL := Lib.hid (fun (W : World) (h : HW w kd xb qb W) => alive_any W (hf.below h.base))
  have BX := Lib.hid (fun (W : World) (h : HW w kd xb qb W) => h.cells)
  have HD : ∀ W, HW w kd xb qb W → HW w kd xb qb W.drew := fun W h => h.drew
  have HA : ∀ W o, HW w kd xb qb W → HW w kd xb qb (W.alloc o) := fun W o h => h.alloc o
  have GG : Hid (∀ W, HW w kd xb qb W → Calls Tryz.prog 16 #[.slice ax x.length cx] W fun e w' => e = .returned (.bool false) ∧ W = w') := Lib.hid fun W h => by
    have := Nodes.great_any (.slice ax x.length cx) x W (hX.below h.base)
    rwa [decide_eq_false h70] at this
  have CC : Hid (∀ W, HW w kd xb qb W → Calls Tryz.prog 11 #[.slice ax x.length cx] W fun e w' => e = .returned (.int .i64 (checkV x)) ∧ w'.cell? ⟨w.heap.size, 0, none⟩ = some (.int .u8 kd) ∧ w'.cell? ⟨w.heap.size, 1, none⟩ = some (.string xb) ∧ w'.cell? ⟨w.heap.size, 2, none⟩ = some (.int .i64 qb) ∧ HW w kd xb qb w') := Lib.hid fun W h => by
    refine (refCheck_any (.slice ax x.length cx) x W (hX.below h.base) (by omega)).mono ?_
    rintro e w' ⟨rfl, hb⟩
    have h2 := h.then_ hb
    exact ⟨rfl, h2.cells.1, h2.cells.2.1, h2.cells.2.2, h2⟩
  rw [hc] at CC
  have h30i : decide ((30 : Int) < fs.length) = false := decide_eq_false (by omega)
  have RF := Lib.hid (fun (W : World) (h : HW w kd xb qb W) => hF.below h.base)
  have ROW : Hid ((rowCells [bt]).toArray = #[.int .u8 kd, .string xb, .int .i64 qb]) := Lib.hid (by subst hk hx hq; rfl)
  have AA : Hid (∀ W v, Go.Proofs.YtgmfelikmjclbaaGreatDoor.Reads W v (fs ++ [bt]) → HW w kd xb qb W → Calls Tryz.prog 17 #[v, .int .i64 0] W fun e w' => e = .returned (.int .i64 (askedV (fs ++ [bt]) 0)) ∧ w'.cell? ⟨w.heap.size, 0, none⟩ = some (.int .u8 kd) ∧ w'.cell? ⟨w.heap.size, 1, none⟩ = some (.string xb) ∧ w'.cell? ⟨w.heap.size, 2, none⟩ = some (.int .i64 qb) ∧ HW w kd xb qb w') := Lib.hid fun W v hv h => by
    refine (asked_any v (fs ++ [bt]) 0 W hv hall).mono ?_
    rintro e w' ⟨rfl, hb⟩
    have h2 := h.then_ hb
    exact ⟨rfl, h2.cells.1, h2.cells.2.1, h2.cells.2.2, h2⟩
  rw [ha] at AA
  have hfl : fs.length ≤ 30 := by omega
  have XF := Lib.hid (fun (W : World) (h : HW w kd xb qb W) => hf.below h.base)
  have XR := Lib.hid (fun (W : World) (h : HW w kd xb qb W) => hX.below h.base)
  have RF := Lib.hid (fun (W : World) (h : HW w kd xb qb W) => hF.below h.base)
  have T := Lib.hid (fun W hW hr => exprsText_any (.slice ax x.length cx) x W hW hr (by omega) hw)
  have hlen := text_long hc hw
  obtain ⟨t, ht⟩ : ∃ t, (textV x).1 = t := ⟨_, rfl⟩
  have hte : textV x = (t, 0) := Prod.ext ht (text_ok hc)
  rw [ht] at hlen hl
  have ts : (⟨t.toArray⟩ : ByteArray).size = t.length := by show t.toArray.size = _; simp
  rw [hte] at T
  unfold TextEnds at T
  simp only at T
  have hg : ¬ (390 : Int) < (⟨t.toArray⟩ : ByteArray).size := by rw [ts]; omega
  have A := Lib.hid (fits_all ⟨(40 :: t ++ [41]).toArray⟩ (by show (List.toArray _).size ≤ _; simp; unfold maxLen; omega))
  have hdl : (⟨(40 :: t ++ [41]).toArray⟩ : ByteArray).data.toList = 40 :: t ++ [41] := rfl
  rw [hdl] at A
  have SH := all_short (40 :: t ++ [41])
  obtain ⟨b0, b1⟩ := brackets_v hc hw (by rw [ht]; omega) (fun u hu => hfs u (List.mem_append_left _ hu)) (by omega)
  rw [ht] at b0 b1
  obtain ⟨ls, n0, e0, hal⟩ : ∃ ls n0 e0, allV (40 :: t ++ [41]) = (ls, n0, e0) := ⟨_, _, _, rfl⟩
  rw [ht, hal] at hl150
  rw [hal] at A SH b0 b1
  simp only at A SH b0 b1 hl150
  subst b0
  obtain ⟨s2, hs2⟩ : ∃ s2 : ByteArray, (⟨(40 :: t ++ [41]).toArray⟩ : ByteArray) = s2 := ⟨_, rfl⟩
  rw [hs2] at A
  obtain ⟨s, hs⟩ : ∃ s : ByteArray, (⟨t.toArray⟩ : ByteArray) = s := ⟨_, rfl⟩
  simp only [hs] at T hg
  have hss : ({ data := #[40] } : ByteArray) ++ s ++ { data := #[41] } = s2 := by rw [← hs, ← hs2]; apply ByteArray.ext; apply Array.toList_inj.1; simp
  have z0 : s.size = t.length := by rw [← hs]; exact ts
  have q1 : (9223372036854775807 < 1 + s.size) = False := eq_false (by omega)
  have q2 : (9223372036854775807 < 1 + s.size + 1) = False := eq_false (by omega)
  have hgl : ¬ (150 : Int) < ls.length := by omega
  obtain ⟨y, hsame, hpar, hcalm⟩ := b1 (by omega)
  obtain ⟨tt, hts⟩ : ∃ tt, fs ++ ls = tt := ⟨_, rfl⟩
  rw [hts] at hpar hcalm
  have P := Lib.hid (fun v W hW hR => exprsParse_any v tt fs.length W hW hR (by rw [← hts, List.length_append]; omega) (by rw [← hts]; intro u hu; rcases List.mem_append.1 hu with h | h; exact hall _ (by simp [h]); exact SH.2 _ h))
  rw [hpar] at P
  have S := Lib.hid (fun va vb W hA hB => nodesSame_any va vb x y W hA hB (by omega) (same_leN hsame))
  rw [hsame] at S
  have hls : ls.length ≤ 150 := by omega
  have hfs30 : fs.length ≤ 30 := by omega
  unfold ParseEnds at P
  simp only at P S
  have tx : xb.toList = bt.text := by rw [← hx, ByteArray.toList_eq]
  have n1 : ¬ kd = 1 := fun h => hnc (.inl (hk.trans h))
  have n2 : ¬ xb.toList = [107] := fun h => hnc (.inr (.inl (tx.symm.trans h)))
  have n3 : ¬ xb.toList = [41] := fun h => hnc (.inr (.inr (.inl (tx.symm.trans h))))
  have n4 : ¬ xb.toList = [40] := fun h => hnc (.inr (.inr (.inr (tx.symm.trans h))))
  have m1 : (kd == 1) = false := by rw [beq_eq_false_iff_ne]; exact n1
  have m2 : (xb.toList == [107]) = false := by rw [beq_eq_false_iff_ne]; exact n2
  have m3 : (xb.toList == [41]) = false := by rw [beq_eq_false_iff_ne]; exact n3
  have m4 : (xb.toList == [40]) = false := by rw [beq_eq_false_iff_ne]; exact n4
  clear tx
  clear hnc hcalm b1 SH hal hdl hs2 hs ts hlen ht hte hc h70 h30 hw ha z0 hfs hl150 hpar hsame

  have H1 : HW w kd xb qb (w.alloc (Obj.cells #[.int .u8 kd, .string xb, .int .i64 qb] 28)) := HW.start w kd xb qb
  clear hX hF hf
  go_enter Tryz.func4, Tryz.ntmps4
  go_wp2_with fail
  go_cut [42] from 21 to 42 (fun s42 wx => s42 = .bool false ∧ HW w kd xb qb wx)
  case first =>
    first
      | (go_region_held3 (fun W => W.cell? ⟨w.heap.size, 0, none⟩ = some (.int .u8 kd) ∧ W.cell? ⟨w.heap.size, 1, none⟩ = some (.string xb) ∧ W.cell? ⟨w.heap.size, 2, none⟩ = some (.int .i64 qb) ∧ HW w kd xb qb W) (go_keep) (first
          | (go_at_call 16; refine (GG.out _ ?_).mono ?_; (simp [*]); rintro e w2 ⟨rfl, rfl⟩)
          | (go_at_call 11; refine (CC.out _ ?_).mono ?_; (simp [*]); rintro e w2 ⟨rfl, e0, e1, e2, e3⟩)
          | (refine step_append_toks (by rfl) _ _ rfl (boxed w kd xb qb).heap.size [] fs (.slice (some ⟨_, 0, none⟩) 0 0) (.slice af fs.length cf) rfl rfl (by first | exact own_empty (show HW w kd xb qb _ by simp [*]) _ rfl | exact (own_empty (show HW w kd xb qb _ by simp [*]) _ rfl).alloc _ | exact own_empty (show HW w kd xb qb _ by simp [*]) _ (by simp; done)) (RF.out _ (show HW w kd xb qb _ by simp [*])) (by simp; omega) (Below.size (show HW w kd xb qb _ by simp [*])) ?_; intro v1 w1 own1 grow1; have h1 : HW w kd xb qb w1 := HW.grown (show HW w kd xb qb _ by simp [*]) (by first | exact own_empty (show HW w kd xb qb _ by simp [*]) _ rfl | exact (own_empty (show HW w kd xb qb _ by simp [*]) _ rfl).alloc _ | exact own_empty (show HW w kd xb qb _ by simp [*]) _ (by simp; done)) grow1; obtain ⟨e0, e1, e2⟩ := h1.cells; (try (have r1 := row_grown1 bt ROW.out grow1 (by simp [Value.ownBlock]; done))); (try (have r1 := row_grown2 bt ROW.out grow1 (by simp [Value.ownBlock]; done))))
          | (refine step_append_toks (by rfl) _ _ rfl (boxed w kd xb qb).heap.size fs [bt] v1 (.slice (some ⟨_, 0, none⟩) 1 1) rfl rfl (by first | exact own1 | exact own1.alloc _) (by first | exact r1 _ rfl | exact r1 _ (by simp; done) | exact lit_tok _ bt _ ROW.out _ rfl) (by simp; omega) (Below.size (show HW w kd xb qb _ by simp [*])) ?_; intro v2 w2x own2 grow2; have h2 : HW w kd xb qb w2x := HW.grown (show HW w kd xb qb _ by simp [*]) (by first | exact own1 | exact own1.alloc _) grow2; obtain ⟨f0, f1, f2⟩ := h2.cells)
          | (go_at_call 17; refine (AA.out _ _ (own_reads own2) (by simp [*])).mono ?_; rintro e w3x ⟨rfl, g0, g1, g2, g3⟩)))
      | fail
    all_goals (go_wp2_with fail; go_meet; exact ⟨rfl, by simp [*]⟩)
  case rest =>
  obtain ⟨rfl, hb⟩ := hcut
  rename_i wg
  have H1 := Lib.hid hb
  clear hb
  go_wp2_with fail
  refine (T.out _ (XF.out _ H1.out) (XR.out _ H1.out)).mono ?_
  rintro e w2 ⟨rfl, hb⟩
  have H2 := Lib.hid (HW.then_ H1.out hb)
  clear hb
  go_wp2_with fail
  try rw [hss]
  refine (A.out _ (XF.out _ H2.out).1).mono ?_
  rintro e w3 ⟨vl, rfl, hr, hb⟩
  obtain ⟨adl, capl, rfl⟩ := hr.shape
  have K3 := Lib.hid hr
  clear hr
  have H3 := Lib.hid (HW.then_ H2.out hb)
  clear hb
  have E3 := Lib.hid (own_empty0 w3)
  have RF3 := Lib.hid ((RF.out _ H3.out).below ((Below.refl _ _).alloc (Nat.le_refl _) (Obj.cells #[] 28)))
  go_wp2_with (at_builtin; first | (refine wpList_append_toks (by rfl) _ _ rfl w3.heap.size [] fs (.slice (some ⟨_, 0, none⟩) 0 0) (.slice af fs.length cf) rfl rfl E3.out RF3.out (by simp; omega) (by simp) ?_; intro v4 w4 own4 grow4; have BB4 := Lib.hid (grown_own_below E3.out ((Below.refl _ _).alloc (Nat.le_refl _) _) grow4); have O4 := Lib.hid own4; have K4 := Lib.hid (K3.out.below BB4.out); clear own4 grow4) | (refine wpList_append_toks (by rfl) _ _ rfl w3.heap.size fs ls v4 (.slice adl ls.length capl) rfl rfl O4.out K4.out (by omega) (Below.size BB4.out) ?_; intro v5 w5 own5 grow5; have BB5 := Lib.hid (grown_own_below O4.out BB4.out grow5); rw [hts] at own5; obtain ⟨ad5, cap5, rfl⟩ := own_shape own5; have O5 := Lib.hid own5; clear own5 grow5))
  have H5 := Lib.hid (HW.then_ H3.out BB5.out)
  clear E3 RF3 K3 K4 BB4 O4
  go_wp2_with fail
  refine (P.out _ _ (XF.out _ H5.out) (own_reads O5.out)).mono ?_
  rintro e w6 ⟨vy, rfl, ho, hb⟩
  obtain ⟨ady, capy, rfl⟩ := own_shape ho
  have Y6 := Lib.hid (own_readsN ho)
  have O6 := Lib.hid (own_held O5.out hb)
  have OY6 := Lib.hid ho
  have C6 := Lib.hid (below_step BB5.out hb)
  clear ho
  have H6 := Lib.hid (HW.then_ H5.out hb)
  clear hb
  go_wp2_with fail
  refine (S.out _ _ _ (XR.out _ H6.out) Y6.out).mono ?_
  rintro e w7 ⟨rfl, hb⟩
  have Y7 := Lib.hid (Y6.out.below hb)
  have O7 := Lib.hid (own_held O6.out hb)
  have OY7 := Lib.hid (own_held OY6.out hb)
  have C7 := Lib.hid (below_step C6.out hb)
  have H7 := Lib.hid (HW.then_ H6.out hb)
  clear hb
  obtain ⟨c0, c1, c2⟩ := BX.out _ H7.out
  go_upto_region 14 with fail
  go_cut [133] from 116 to 133 (fun s133 wx => s133 = .bool false ∧ wx = w7)
  case first =>
    go_wp2_with fail
    go_meet
    exact ⟨by simp [*], rfl⟩
  case rest =>
  obtain ⟨rfl, rfl⟩ := hcut
  clear c0 c1 c2
  go_wp2_with fail
  refine (AL.out _ H7.out).mono ?_
  rintro e w8 ⟨rfl, hb⟩
  have H8 := Lib.hid (HW.then_ H7.out hb)
  go_wp2_with fail
  go_ret
  exact ⟨rfl, H8.out.base⟩
set_option linter.unusedVariables false in
set_option maxRecDepth 100000 in
set_option maxHeartbeats 4000000 in
theorem brackets_calm (ax af : Option Addr) (cx cf : Nat) (x : List Nd) (fs : List Tok) (kd : Int) (xb : ByteArray) (qb : Int) (w : World) (hX : ReadsN w (.slice ax x.length cx) x) (hF : Go.Proofs.YtgmfelikmjclbaaGreatDoor.Reads w (.slice af fs.length cf) fs) (hf : ExprFix w) (bt : Tok) (hk : bt.kind = kd) (hx : (⟨bt.text.toArray⟩ : ByteArray) = xb) (hq : bt.at_ = qb) (hall : ∀ t ∈ fs ++ [bt], t.text.length ≤ 281474976710656) (h70 : ¬ 70 < x.length) (hc : checkV x = 0) (h30 : ¬ 30 < fs.length) (ha : askedV (fs ++ [bt]) 0 = 0) (hw : Wide x) (hfs : ∀ t ∈ fs ++ [bt], validT t = true ∧ 0 ≤ t.at_ ∧ t.at_ ≤ 400) (hl : ¬ 390 < (textV x).1.length) (hl150 : ¬ 150 < (allV (40 :: (textV x).1 ++ [41])).1.length) (hnc : Exprs.Calm bt) :
    Calls Tryz.prog 4 #[.slice ax x.length cx, .slice af fs.length cf, .agg #[.int .u8 kd, .string xb, .int .i64 qb]] w fun e w' => e = .returned (.bool true) ∧ Below w.heap.size w w' := by
  have AL := Lib.hid (fun (W : World) (h : HW w kd xb qb W) => alive_any W (hf.below h.base))
  have BX := Lib.hid (fun (W : World) (h : HW w kd xb qb W) => h.cells)
  have HD : ∀ W, HW w kd xb qb W → HW w kd xb qb W.drew := fun W h => h.drew
  have HA : ∀ W o, HW w kd xb qb W → HW w kd xb qb (W.alloc o) := fun W o h => h.alloc o
  have GG : Hid (∀ W, HW w kd xb qb W → Calls Tryz.prog 16 #[.slice ax x.length cx] W fun e w' => e = .returned (.bool false) ∧ W = w') := Lib.hid fun W h => by
    have := Nodes.great_any (.slice ax x.length cx) x W (hX.below h.base)
    rwa [decide_eq_false h70] at this
  have CC : Hid (∀ W, HW w kd xb qb W → Calls Tryz.prog 11 #[.slice ax x.length cx] W fun e w' => e = .returned (.int .i64 (checkV x)) ∧ w'.cell? ⟨w.heap.size, 0, none⟩ = some (.int .u8 kd) ∧ w'.cell? ⟨w.heap.size, 1, none⟩ = some (.string xb) ∧ w'.cell? ⟨w.heap.size, 2, none⟩ = some (.int .i64 qb) ∧ HW w kd xb qb w') := Lib.hid fun W h => by
    refine (refCheck_any (.slice ax x.length cx) x W (hX.below h.base) (by omega)).mono ?_
    rintro e w' ⟨rfl, hb⟩
    have h2 := h.then_ hb
    exact ⟨rfl, h2.cells.1, h2.cells.2.1, h2.cells.2.2, h2⟩
  rw [hc] at CC
  have h30i : decide ((30 : Int) < fs.length) = false := decide_eq_false (by omega)
  have RF := Lib.hid (fun (W : World) (h : HW w kd xb qb W) => hF.below h.base)
  have ROW : Hid ((rowCells [bt]).toArray = #[.int .u8 kd, .string xb, .int .i64 qb]) := Lib.hid (by subst hk hx hq; rfl)
  have AA : Hid (∀ W v, Go.Proofs.YtgmfelikmjclbaaGreatDoor.Reads W v (fs ++ [bt]) → HW w kd xb qb W → Calls Tryz.prog 17 #[v, .int .i64 0] W fun e w' => e = .returned (.int .i64 (askedV (fs ++ [bt]) 0)) ∧ w'.cell? ⟨w.heap.size, 0, none⟩ = some (.int .u8 kd) ∧ w'.cell? ⟨w.heap.size, 1, none⟩ = some (.string xb) ∧ w'.cell? ⟨w.heap.size, 2, none⟩ = some (.int .i64 qb) ∧ HW w kd xb qb w') := Lib.hid fun W v hv h => by
    refine (asked_any v (fs ++ [bt]) 0 W hv hall).mono ?_
    rintro e w' ⟨rfl, hb⟩
    have h2 := h.then_ hb
    exact ⟨rfl, h2.cells.1, h2.cells.2.1, h2.cells.2.2, h2⟩
  rw [ha] at AA
  have hfl : fs.length ≤ 30 := by omega
  have XF := Lib.hid (fun (W : World) (h : HW w kd xb qb W) => hf.below h.base)
  have XR := Lib.hid (fun (W : World) (h : HW w kd xb qb W) => hX.below h.base)
  have RF := Lib.hid (fun (W : World) (h : HW w kd xb qb W) => hF.below h.base)
  have T := Lib.hid (fun W hW hr => exprsText_any (.slice ax x.length cx) x W hW hr (by omega) hw)
  have hlen := text_long hc hw
  obtain ⟨t, ht⟩ : ∃ t, (textV x).1 = t := ⟨_, rfl⟩
  have hte : textV x = (t, 0) := Prod.ext ht (text_ok hc)
  rw [ht] at hlen hl
  have ts : (⟨t.toArray⟩ : ByteArray).size = t.length := by show t.toArray.size = _; simp
  rw [hte] at T
  unfold TextEnds at T
  simp only at T
  have hg : ¬ (390 : Int) < (⟨t.toArray⟩ : ByteArray).size := by rw [ts]; omega
  have A := Lib.hid (fits_all ⟨(40 :: t ++ [41]).toArray⟩ (by show (List.toArray _).size ≤ _; simp; unfold maxLen; omega))
  have hdl : (⟨(40 :: t ++ [41]).toArray⟩ : ByteArray).data.toList = 40 :: t ++ [41] := rfl
  rw [hdl] at A
  have SH := all_short (40 :: t ++ [41])
  obtain ⟨b0, b1⟩ := brackets_v hc hw (by rw [ht]; omega) (fun u hu => hfs u (List.mem_append_left _ hu)) (by omega)
  rw [ht] at b0 b1
  obtain ⟨ls, n0, e0, hal⟩ : ∃ ls n0 e0, allV (40 :: t ++ [41]) = (ls, n0, e0) := ⟨_, _, _, rfl⟩
  rw [ht, hal] at hl150
  rw [hal] at A SH b0 b1
  simp only at A SH b0 b1 hl150
  subst b0
  obtain ⟨s2, hs2⟩ : ∃ s2 : ByteArray, (⟨(40 :: t ++ [41]).toArray⟩ : ByteArray) = s2 := ⟨_, rfl⟩
  rw [hs2] at A
  obtain ⟨s, hs⟩ : ∃ s : ByteArray, (⟨t.toArray⟩ : ByteArray) = s := ⟨_, rfl⟩
  simp only [hs] at T hg
  have hss : ({ data := #[40] } : ByteArray) ++ s ++ { data := #[41] } = s2 := by rw [← hs, ← hs2]; apply ByteArray.ext; apply Array.toList_inj.1; simp
  have z0 : s.size = t.length := by rw [← hs]; exact ts
  have q1 : (9223372036854775807 < 1 + s.size) = False := eq_false (by omega)
  have q2 : (9223372036854775807 < 1 + s.size + 1) = False := eq_false (by omega)
  have hgl : ¬ (150 : Int) < ls.length := by omega
  obtain ⟨y, hsame, hpar, hcalm⟩ := b1 (by omega)
  obtain ⟨tt, hts⟩ : ∃ tt, fs ++ ls = tt := ⟨_, rfl⟩
  rw [hts] at hpar hcalm
  have P := Lib.hid (fun v W hW hR => exprsParse_any v tt fs.length W hW hR (by rw [← hts, List.length_append]; omega) (by rw [← hts]; intro u hu; rcases List.mem_append.1 hu with h | h; exact hall _ (by simp [h]); exact SH.2 _ h))
  rw [hpar] at P
  have S := Lib.hid (fun va vb W hA hB => nodesSame_any va vb x y W hA hB (by omega) (same_leN hsame))
  rw [hsame] at S
  have hls : ls.length ≤ 150 := by omega
  have hfs30 : fs.length ≤ 30 := by omega
  unfold ParseEnds at P
  simp only at P S
  have tx : xb.toList = bt.text := by rw [← hx, ByteArray.toList_eq]
  have HCALM : kd = 1 ∨ (¬ kd = 1 ∧ xb.toList = [107]) ∨ (¬ kd = 1 ∧ ¬ xb.toList = [107] ∧ xb.toList = [41]) ∨ (¬ kd = 1 ∧ ¬ xb.toList = [107] ∧ ¬ xb.toList = [41] ∧ xb.toList = [40]) := by
    by_cases a1 : kd = 1
    · exact .inl a1
    by_cases a2 : xb.toList = [107]
    · exact .inr (.inl ⟨a1, a2⟩)
    by_cases a3 : xb.toList = [41]
    · exact .inr (.inr (.inl ⟨a1, a2, a3⟩))
    refine .inr (.inr (.inr ⟨a1, a2, a3, ?_⟩))
    rcases hnc with h | h | h | h
    · exact absurd (hk.symm.trans h) a1
    · exact absurd (tx.trans h) a2
    · exact absurd (tx.trans h) a3
    · exact tx.trans h
  have HC := Lib.hid HCALM
  have hbv := hfs bt (by simp)
  have hp2 := hcalm bt hbv.1 hbv.2 hnc
  have P2 := Lib.hid (fun v W hW hR => exprsParse_any v (tt ++ [bt]) fs.length W hW hR (by rw [← hts]; simp; omega) (by rw [← hts]; intro u hu; rw [List.append_assoc] at hu; rcases List.mem_append.1 hu with h | h; exact hall _ (by simp [h]); rcases List.mem_append.1 h with h | h; exact SH.2 _ h; exact hall _ (by simp at h; simp [h])))
  rw [hp2] at P2
  unfold ParseEnds at P2
  simp only at P2
  have EQ := Lib.hid (fun va vb W hA hB => refEqual_any va vb y y W hA hB (same_leN hsame))
  rw [equal_refl] at EQ
  have htt : tt.length ≤ 180 := by rw [← hts, List.length_append]; omega
  clear HCALM hbv hp2 tx hnc hcalm
  clear b1 SH hal hdl hs2 hs ts hlen ht hte hc h70 h30 hw ha z0 hfs hl150 hpar hsame

  have H1 : HW w kd xb qb (w.alloc (Obj.cells #[.int .u8 kd, .string xb, .int .i64 qb] 28)) := HW.start w kd xb qb
  clear hX hF hf
  go_enter Tryz.func4, Tryz.ntmps4
  go_wp2_with fail
  go_cut [42] from 21 to 42 (fun s42 wx => s42 = .bool false ∧ HW w kd xb qb wx)
  case first =>
    first
      | (go_region_held3 (fun W => W.cell? ⟨w.heap.size, 0, none⟩ = some (.int .u8 kd) ∧ W.cell? ⟨w.heap.size, 1, none⟩ = some (.string xb) ∧ W.cell? ⟨w.heap.size, 2, none⟩ = some (.int .i64 qb) ∧ HW w kd xb qb W) (go_keep) (first
          | (go_at_call 16; refine (GG.out _ ?_).mono ?_; (simp [*]); rintro e w2 ⟨rfl, rfl⟩)
          | (go_at_call 11; refine (CC.out _ ?_).mono ?_; (simp [*]); rintro e w2 ⟨rfl, e0, e1, e2, e3⟩)
          | (refine step_append_toks (by rfl) _ _ rfl (boxed w kd xb qb).heap.size [] fs (.slice (some ⟨_, 0, none⟩) 0 0) (.slice af fs.length cf) rfl rfl (by first | exact own_empty (show HW w kd xb qb _ by simp [*]) _ rfl | exact (own_empty (show HW w kd xb qb _ by simp [*]) _ rfl).alloc _ | exact own_empty (show HW w kd xb qb _ by simp [*]) _ (by simp; done)) (RF.out _ (show HW w kd xb qb _ by simp [*])) (by simp; omega) (Below.size (show HW w kd xb qb _ by simp [*])) ?_; intro v1 w1 own1 grow1; have h1 : HW w kd xb qb w1 := HW.grown (show HW w kd xb qb _ by simp [*]) (by first | exact own_empty (show HW w kd xb qb _ by simp [*]) _ rfl | exact (own_empty (show HW w kd xb qb _ by simp [*]) _ rfl).alloc _ | exact own_empty (show HW w kd xb qb _ by simp [*]) _ (by simp; done)) grow1; obtain ⟨e0, e1, e2⟩ := h1.cells; (try (have r1 := row_grown1 bt ROW.out grow1 (by simp [Value.ownBlock]; done))); (try (have r1 := row_grown2 bt ROW.out grow1 (by simp [Value.ownBlock]; done))))
          | (refine step_append_toks (by rfl) _ _ rfl (boxed w kd xb qb).heap.size fs [bt] v1 (.slice (some ⟨_, 0, none⟩) 1 1) rfl rfl (by first | exact own1 | exact own1.alloc _) (by first | exact r1 _ rfl | exact r1 _ (by simp; done) | exact lit_tok _ bt _ ROW.out _ rfl) (by simp; omega) (Below.size (show HW w kd xb qb _ by simp [*])) ?_; intro v2 w2x own2 grow2; have h2 : HW w kd xb qb w2x := HW.grown (show HW w kd xb qb _ by simp [*]) (by first | exact own1 | exact own1.alloc _) grow2; obtain ⟨f0, f1, f2⟩ := h2.cells)
          | (go_at_call 17; refine (AA.out _ _ (own_reads own2) (by simp [*])).mono ?_; rintro e w3x ⟨rfl, g0, g1, g2, g3⟩)))
      | fail
    all_goals (go_wp2_with fail; go_meet; exact ⟨rfl, by simp [*]⟩)
  case rest =>
  obtain ⟨rfl, hb⟩ := hcut
  rename_i wg
  have H1 := Lib.hid hb
  clear hb
  go_wp2_with fail
  refine (T.out _ (XF.out _ H1.out) (XR.out _ H1.out)).mono ?_
  rintro e w2 ⟨rfl, hb⟩
  have H2 := Lib.hid (HW.then_ H1.out hb)
  clear hb
  go_wp2_with fail
  try rw [hss]
  refine (A.out _ (XF.out _ H2.out).1).mono ?_
  rintro e w3 ⟨vl, rfl, hr, hb⟩
  obtain ⟨adl, capl, rfl⟩ := hr.shape
  have K3 := Lib.hid hr
  clear hr
  have H3 := Lib.hid (HW.then_ H2.out hb)
  clear hb
  have E3 := Lib.hid (own_empty0 w3)
  have RF3 := Lib.hid ((RF.out _ H3.out).below ((Below.refl _ _).alloc (Nat.le_refl _) (Obj.cells #[] 28)))
  go_wp2_with (at_builtin; first | (refine wpList_append_toks (by rfl) _ _ rfl w3.heap.size [] fs (.slice (some ⟨_, 0, none⟩) 0 0) (.slice af fs.length cf) rfl rfl E3.out RF3.out (by simp; omega) (by simp) ?_; intro v4 w4 own4 grow4; have BB4 := Lib.hid (grown_own_below E3.out ((Below.refl _ _).alloc (Nat.le_refl _) _) grow4); have O4 := Lib.hid own4; have K4 := Lib.hid (K3.out.below BB4.out); clear own4 grow4) | (refine wpList_append_toks (by rfl) _ _ rfl w3.heap.size fs ls v4 (.slice adl ls.length capl) rfl rfl O4.out K4.out (by omega) (Below.size BB4.out) ?_; intro v5 w5 own5 grow5; have BB5 := Lib.hid (grown_own_below O4.out BB4.out grow5); rw [hts] at own5; obtain ⟨ad5, cap5, rfl⟩ := own_shape own5; have O5 := Lib.hid own5; clear own5 grow5))
  have H5 := Lib.hid (HW.then_ H3.out BB5.out)
  clear E3 RF3 K3 K4 BB4 O4
  go_wp2_with fail
  refine (P.out _ _ (XF.out _ H5.out) (own_reads O5.out)).mono ?_
  rintro e w6 ⟨vy, rfl, ho, hb⟩
  obtain ⟨ady, capy, rfl⟩ := own_shape ho
  have Y6 := Lib.hid (own_readsN ho)
  have O6 := Lib.hid (own_held O5.out hb)
  have OY6 := Lib.hid ho
  have C6 := Lib.hid (below_step BB5.out hb)
  clear ho
  have H6 := Lib.hid (HW.then_ H5.out hb)
  clear hb
  go_wp2_with fail
  refine (S.out _ _ _ (XR.out _ H6.out) Y6.out).mono ?_
  rintro e w7 ⟨rfl, hb⟩
  have Y7 := Lib.hid (Y6.out.below hb)
  have O7 := Lib.hid (own_held O6.out hb)
  have OY7 := Lib.hid (own_held OY6.out hb)
  have C7 := Lib.hid (below_step C6.out hb)
  have H7 := Lib.hid (HW.then_ H6.out hb)
  clear hb
  obtain ⟨c0, c1, c2⟩ := BX.out _ H7.out
  go_upto_region 14 with fail
  go_cut [133] from 116 to 133 (fun s133 wx => s133 = .bool true ∧ wx = w7)
  case first =>
    rcases HC.out with k1 | ⟨k1, k2⟩ | ⟨k1, k2, k3⟩ | ⟨k1, k2, k3, k4⟩ <;> (try have m1 : (kd == 1) = false := by rw [beq_eq_false_iff_ne]; exact k1) <;> (go_wp2_with fail; go_meet; exact ⟨by simp [*], rfl⟩)
  case rest =>
  obtain ⟨rfl, rfl⟩ := hcut
  have C7a := Lib.hid (fun o => C7.out.alloc C7.out.size o)
  go_wp2_with (at_builtin; refine wpList_append_toks (by rfl) _ _ rfl w3.heap.size tt [bt] (.slice ad5 tt.length cap5) (.slice (some ⟨_, 0, none⟩) 1 1) rfl rfl (O7.out.alloc _) (lit_tok _ bt _ ROW.out _ rfl) (by simp; omega) (Below.size (C7a.out _)) ?_; intro v8 w8 own8 grow8)
  have C8 := grown_own_alloc O7.out C7.out grow8
  have H8 := Lib.hid (HW.then_ H3.out C8)
  have OY8 := Lib.hid (own_apart_alloc O5.out OY7.out grow8)
  obtain ⟨ad8, cap8, rfl⟩ := own_shape own8
  have O8 := Lib.hid own8
  clear own8 grow8 C8
  go_wp2_with fail
  refine (P2.out _ _ (XF.out _ H8.out) (own_reads O8.out)).mono ?_
  rintro e w9 ⟨vz, rfl, ho, hb⟩
  obtain ⟨adz, capz, rfl⟩ := own_shape ho
  have Z9 := Lib.hid (own_readsN ho)
  have Y9 := Lib.hid ((own_readsN OY8.out).below hb)
  clear ho
  have H9 := Lib.hid (HW.then_ H8.out hb)
  clear hb
  go_wp2_with fail
  refine (EQ.out _ _ _ Y9.out Z9.out).mono ?_
  rintro e w10 ⟨rfl, hd⟩
  have H10 := Lib.hid (HW.then_ H9.out (hd.below _))
  clear hd
  go_wp2_with fail
  refine (AL.out _ H10.out).mono ?_
  rintro e w11 ⟨rfl, hb⟩
  have H11 := Lib.hid (HW.then_ H10.out hb)
  clear hb
  go_wp2_with fail
  go_ret
  exact ⟨rfl, H11.out.base⟩
end Go.Proofs.YtgmfelikmjclbaaGreatDoor.ExprW

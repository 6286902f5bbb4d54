/-
  Contracts at the landed code (layer 8): clauses.argument, condition, alike; a query's block, and two.
-/
import Derived.Test.YtfmobnlnedljeaaDoorClauseReads
import Derived.Test.YtfmobnlnedljeaaDoorNodeSame
namespace Go.Proofs.YtfmobnlnedljeaaDoor.Nodes
open Go.ChangeShapes Go.WideShapes Go.ChangeAt Go.RowKit

theorem clArgument_any (g : Int) (v : Value) (l : List Nd) (w : World) (hR : ReadsN w v l) (hn : l.length ≤ 1000000) :
    Calls Tryd.prog 35 #[.int .u8 g, v] w fun e w' => e = .returned (.int .i64 (argV g l)) ∧ Below w.heap.size w w' := by
  obtain ⟨ad, cap, rfl⟩ := hR.shape
  by_cases h1 : g = 1
  · subst h1
    by_cases h0 : l.length = 0
    · have H : Hid (argV 1 l = 0) := Lib.hid (by unfold argV; rw [if_pos rfl, if_pos h0])
      have q : ¬ (0 : Int) < l.length := by omega
      clear hR h0
      go_enter Tryd.func35, Tryd.ntmps35
      go_wp2_with fail
      go_ret
      exact ⟨by rw [H.out]; rfl, Below.refl _ _⟩
    · have H : Hid (argV 1 l = 8) := Lib.hid (by unfold argV; rw [if_pos rfl, if_neg h0])
      have q : (0 : Int) < l.length := by omega
      clear hR h0
      go_enter Tryd.func35, Tryd.ntmps35
      go_wp2_with fail
      go_ret
      exact ⟨by rw [H.out]; rfl, Below.refl _ _⟩
  · have H : Hid (argV g l = checkV l) := Lib.hid (by unfold argV; rw [if_neg h1])
    have q : (g != 1) = true := by rw [bne_iff_ne]; exact h1
    have C := Lib.hid (nodesCheck_any _ l w hR hn)
    clear hR h1
    go_enter Tryd.func35, Tryd.ntmps35
    go_wp2_with fail
    refine C.out.mono ?_
    rintro e w1 ⟨rfl, hb⟩
    have HB := Lib.hid hb
    clear hb
    go_wp2_with fail
    go_ret
    exact ⟨by rw [H.out]; rfl, HB.out⟩
theorem clCondition_any (v : Value) (l : List Nd) (w : World) (hR : ReadsN w v l) (hn : l.length ≤ 1000000) :
    Calls Tryd.prog 36 #[v] w fun e w' => e = .returned (.int .i64 (condV l)) ∧ Below w.heap.size w w' := by
  obtain ⟨ad, cap, rfl⟩ := hR.shape
  by_cases h0 : l.length = 0
  · have H : Hid (condV l = 0) := Lib.hid (by unfold condV; rw [if_pos h0])
    have q : ((l.length : Int) == 0) = true := by rw [beq_iff_eq]; omega
    clear hR h0
    go_enter Tryd.func36, Tryd.ntmps36
    go_wp2_with fail
    go_ret
    exact ⟨by rw [H.out]; rfl, Below.refl _ _⟩
  · have H : Hid (condV l = checkV l) := Lib.hid (by unfold condV; rw [if_neg h0])
    have q : ((l.length : Int) == 0) = false := by rw [beq_eq_false_iff_ne]; omega
    have C := Lib.hid (nodesCheck_any _ l w hR hn)
    clear hR h0
    go_enter Tryd.func36, Tryd.ntmps36
    go_wp2_with fail
    refine C.out.mono ?_
    rintro e w1 ⟨rfl, hb⟩
    have HB := Lib.hid hb
    clear hb
    go_wp2_with fail
    go_ret
    exact ⟨by rw [H.out]; rfl, HB.out⟩
theorem alike_none {a b : List Nd} (h : a.length = 0 ∨ b.length = 0) : alikeB a b = decide ((a.length : Int) = b.length) := by
  refine decide_eq_decide.2 ⟨fun e => ?_, fun e => ?_⟩
  · have := congrArg List.length e
    simp only [List.length_map] at this
    omega
  · have h1 : a.length = 0 := by omega
    have h2 : b.length = 0 := by omega
    rw [List.length_eq_zero_iff] at h1 h2
    rw [h1, h2]
theorem alike_zero {a b : List Nd} (h : a.length = 0) : alikeB a b = ((0 : Int) == (b.length : Int)) := by
  rw [alike_none (.inl h), h]
  cases hq : ((0 : Int) == (b.length : Int))
  · exact decide_eq_false (by rw [beq_eq_false_iff_ne] at hq; exact hq)
  · exact decide_eq_true (by rw [beq_iff_eq] at hq; exact hq)
theorem clAlike_any (va vb : Value) (a b : List Nd) (w : World) (hA : ReadsN w va a) (hB : ReadsN w vb b) (hn : a.length ≤ 1000000) (hm : b.length ≤ 1000000) (ha : a.length = 0 ∨ checkV a = 0) (hb : b.length = 0 ∨ checkV b = 0) :
    Calls Tryd.prog 33 #[va, vb] w fun e w' => e = .returned (.bool (alikeB a b)) ∧ Below w.heap.size w w' := by
  obtain ⟨ad, cap, rfl⟩ := hA.shape
  obtain ⟨ad2, cap2, rfl⟩ := hB.shape
  by_cases h0 : a.length = 0 ∨ b.length = 0
  · by_cases ha0 : a.length = 0
    · obtain rfl := List.length_eq_zero_iff.1 ha0
      have H := Lib.hid (alike_zero (b := b) ha0)
      clear hA hB ha hb h0 ha0
      cases q : ((0 : Int) == (b.length : Int))
      · rw [q] at H
        go_enter Tryd.func33, Tryd.ntmps33
        go_wp2_with fail
        go_ret
        exact ⟨by rw [H.out]; rfl, Below.refl _ _⟩
      · rw [q] at H
        go_enter Tryd.func33, Tryd.ntmps33
        go_wp2_with fail
        go_ret
        exact ⟨by rw [H.out]; rfl, Below.refl _ _⟩
    · have hb0 : b.length = 0 := h0.resolve_left ha0
      have H : Hid (alikeB a b = false) := Lib.hid (by rw [alike_none h0]; exact decide_eq_false (by omega))
      obtain rfl := List.length_eq_zero_iff.1 hb0
      have q : ((a.length : Int) == 0) = false := by rw [beq_eq_false_iff_ne]; omega
      clear hA hB ha hb h0 ha0 hb0
      go_enter Tryd.func33, Tryd.ntmps33
      go_wp2_with fail
      go_ret
      exact ⟨by rw [H.out]; rfl, Below.refl _ _⟩
  · have hca : checkV a = 0 := ha.resolve_left (fun e => h0 (.inl e))
    have hcb : checkV b = 0 := hb.resolve_left (fun e => h0 (.inr e))
    have q : ((a.length : Int) == 0) = false := by rw [beq_eq_false_iff_ne]; omega
    have q2 : ((b.length : Int) == 0) = false := by rw [beq_eq_false_iff_ne]; omega
    have S := nodesSame_any _ _ a b w hA hB hn hm
    rw [same_is hca hcb] at S
    have HS := Lib.hid S
    clear hA hB ha hb h0 hca hcb S
    go_enter Tryd.func33, Tryd.ntmps33
    go_wp2_with fail
    refine HS.out.mono ?_
    rintro e w1 ⟨rfl, hb⟩
    have HB := Lib.hid hb
    clear hb
    go_wp2_with fail
    go_ret
    exact ⟨rfl, HB.out⟩

/-! ### A query's block, and two -/
structure SQ (w W : World) (s : Sl) (q : Qy) : Prop where
  base : Below w.heap.size w W
  at_ : QyAt W w.heap.size s q
theorem SQ.below {w W W' : World} {s : Sl} {q : Qy} (h : SQ w W s q) (hb : Below W.heap.size W W') : SQ w W' s q := ⟨below_then h.base hb, h.at_.below hb⟩
theorem sq_start (w : World) (s : Sl) (q : Qy) : SQ w (w.alloc (qyBox s q)) s q := ⟨(Below.refl _ w).alloc (Nat.le_refl _) _, qy_at w s q⟩
structure SP (w W : World) (s : Sl) (p : Qy) (t : Sl) (q : Qy) : Prop where
  base : Below w.heap.size w W
  one : QyAt W w.heap.size s p
  two : QyAt W (w.heap.size + 1) t q
theorem SP.below {w W W' : World} {s t : Sl} {p q : Qy} (h : SP w W s p t q) (hb : Below W.heap.size W W') : SP w W' s p t q := ⟨below_then h.base hb, h.one.below hb, h.two.below hb⟩
theorem sp_start (w : World) (s t : Sl) (p q : Qy) : SP w ((w.alloc (qyBox s p)).alloc (qyBox t q)) s p t q := by
  have e : (w.alloc (qyBox s p)).heap.size = w.heap.size + 1 := by simp
  refine ⟨((Below.refl _ w).alloc (Nat.le_refl _) _).alloc (by rw [e]; omega) _, (qy_at w s p).below ((Below.refl _ _).alloc (Nat.le_refl _) _), ?_⟩
  have := qy_at (w.alloc (qyBox s p)) t q
  rwa [e] at this
theorem to_sq {f : FuncId} {args : Array Value} {w W : World} {s : Sl} {q : Qy} {v : Value} (hs : SQ w W s q) (h : Calls Tryd.prog f args W fun e w' => e = .returned v ∧ Below W.heap.size W w') :
    Calls Tryd.prog f args W fun e w' => e = .returned v ∧ SQ w w' s q := h.mono (fun _ _ h' => ⟨h'.1, hs.below h'.2⟩)
theorem to_sp {f : FuncId} {args : Array Value} {w W : World} {s t : Sl} {p q : Qy} {v : Value} (hs : SP w W s p t q) (h : Calls Tryd.prog f args W fun e w' => e = .returned v ∧ Below W.heap.size W w') :
    Calls Tryd.prog f args W fun e w' => e = .returned v ∧ SP w w' s p t q := h.mono (fun _ _ h' => ⟨h'.1, hs.below h'.2⟩)
theorem by_draws {f : FuncId} {args : Array Value} {W : World} {v : Value} (h : Calls Tryd.prog f args W fun e w' => e = .returned v ∧ Draws W w') :
    Calls Tryd.prog f args W fun e w' => e = .returned v ∧ Below W.heap.size W w' := h.mono (fun _ _ h' => ⟨h'.1, h'.2.below _⟩)
theorem by_same {f : FuncId} {args : Array Value} {W : World} {v : Value} (h : Calls Tryd.prog f args W fun e w' => e = .returned v ∧ W = w') :
    Calls Tryd.prog f args W fun e w' => e = .returned v ∧ Below W.heap.size W w' := h.mono (fun _ _ h' => ⟨h'.1, h'.2 ▸ Below.refl _ _⟩)
end Go.Proofs.YtfmobnlnedljeaaDoor.Nodes

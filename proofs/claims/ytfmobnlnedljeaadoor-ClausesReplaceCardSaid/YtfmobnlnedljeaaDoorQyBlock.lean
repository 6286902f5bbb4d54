/-
  A query in a block of the call's own (layer 8): stores to its fields, and of it as a whole.
-/
import Derived.Test.YtfmobnlnedljeaaDoorClauseAsks
import Derived.Test.YtfmobnlnedljeaaDoorClauseWin
namespace Go.Proofs.YtfmobnlnedljeaaDoor.Nodes
open Go.ChangeShapes Go.WideShapes Go.ChangeAt Go.RowKit

theorem QyAt.set_arg {w : World} {b : Nat} {s : Sl} {q : Qy} (h : QyAt w b s q) (v : Value) : QyAt (w.setCell ⟨b, 1, none⟩ v) b ⟨v, s.src, s.cond⟩ q := by
  unfold QyAt at h ⊢
  show (w.heap.modify b _)[b]? = _
  rw [Array.getElem?_modify, if_pos rfl, h]
  rfl
theorem QyAt.set_cond {w : World} {b : Nat} {s : Sl} {q : Qy} (h : QyAt w b s q) (v : Value) : QyAt (w.setCell ⟨b, 4, none⟩ v) b ⟨s.arg, s.src, v⟩ q := by
  unfold QyAt at h ⊢
  show (w.heap.modify b _)[b]? = _
  rw [Array.getElem?_modify, if_pos rfl, h]
  rfl
theorem QyAt.set_src {w : World} {b : Nat} {s : Sl} {q : Qy} (h : QyAt w b s q) (v : Value) : QyAt (w.setCell ⟨b, 2, none⟩ v) b ⟨s.arg, v, s.cond⟩ q := by
  unfold QyAt at h ⊢
  show (w.heap.modify b _)[b]? = _
  rw [Array.getElem?_modify, if_pos rfl, h]
  rfl
theorem QyAt.far {w : World} {b : Nat} {s : Sl} {q : Qy} (h : QyAt w b s q) {b2 : Nat} (hb : b2 ≠ b) (j : Nat) (v : Value) : QyAt (w.setCell ⟨b2, j, none⟩ v) b s q := by
  unfold QyAt at h ⊢
  show (w.heap.modify b2 _)[b]? = _
  rw [Array.getElem?_modify, if_neg hb]
  exact h
theorem QyAt.frz {w : World} {b : Nat} {s : Sl} {q : Qy} (h : QyAt w b s q) (j : Nat) : w.frozen? ⟨b, j, none⟩ = false := by
  unfold QyAt at h
  simp [World.frozen?, h]
theorem QyAt.grown {w w' : World} {b : Nat} {s : Sl} {q : Qy} (h : QyAt w b s q) {g : Nat} (hg : w.grownBy w' (some g)) (hb : b ≠ g) : QyAt w' b s q := by
  unfold QyAt at h ⊢
  rw [hg.block b (Array.getElem?_eq_some_iff.1 h).1 (fun e => by injection e with e; exact hb e)]
  exact h
def zeroQ : Qy := ⟨0, [], [], false, [], ⟨0, 0, 0⟩, false, 0⟩
def zeroS : Sl := ⟨.slice none 0 0, .slice none 0 0, .slice none 0 0⟩
theorem set_grown (w : World) (b j : Nat) (v : Value) : w.grownBy (w.setCell ⟨b, j, none⟩ v) (some b) := by
  refine ⟨rfl, rfl, rfl, ?_, fun k _ hk => ?_⟩
  · show w.heap.size ≤ (w.heap.modify b _).size
    rw [Array.size_modify]; exact Nat.le_refl _
  · show (w.heap.modify b _)[k]? = _
    rw [Array.getElem?_modify, if_neg (fun e => hk (by rw [e]))]
theorem set_size8 (w : World) (p : Addr) (v : Value) : (w.setCell p v).heap.size = w.heap.size := by
  show (w.heap.modify _ _).size = _
  exact Array.size_modify
theorem SP.grown {w W W' : World} {s t : Sl} {p q : Qy} (h : SP w W s p t q) {g : Nat} (hg : W.grownBy W' (some g)) (h2 : w.heap.size + 1 < g) : SP w W' s p t q :=
  ⟨h.base.grown hg h.base.size (fun k e => by injection e with e; omega), h.one.grown hg (by omega), h.two.grown hg (by omega)⟩
theorem SP.set_arg {w W : World} {s t : Sl} {p q : Qy} (h : SP w W s p t q) (v : Value) : SP w (W.setCell ⟨w.heap.size, 1, none⟩ v) ⟨v, s.src, s.cond⟩ p t q :=
  ⟨h.base.setCell (Nat.le_refl _) _, h.one.set_arg v, h.two.far (by omega) _ _⟩
theorem SP.set_cond {w W : World} {s t : Sl} {p q : Qy} (h : SP w W s p t q) (v : Value) : SP w (W.setCell ⟨w.heap.size, 4, none⟩ v) ⟨s.arg, s.src, v⟩ p t q :=
  ⟨h.base.setCell (Nat.le_refl _) _, h.one.set_cond v, h.two.far (by omega) _ _⟩
theorem SP.set_src {w W : World} {s t : Sl} {p q : Qy} (h : SP w W s p t q) (v : Value) : SP w (W.setCell ⟨w.heap.size, 2, none⟩ v) ⟨s.arg, v, s.cond⟩ p t q :=
  ⟨h.base.setCell (Nat.le_refl _) _, h.one.set_src v, h.two.far (by omega) _ _⟩
theorem SP.alloc {w W : World} {s t : Sl} {p q : Qy} (h : SP w W s p t q) (o : Obj) : SP w (W.alloc o) s p t q := h.below (box_below _ _)
theorem SP.room {w W : World} {s t : Sl} {p q : Qy} (h : SP w W s p t q) : w.heap.size + 1 < W.heap.size := h.two.lt
theorem QyAt.set_agg {w : World} {b : Nat} {s : Sl} {q : Qy} (h : QyAt w b s q) (x : Int) : QyAt (w.setCell ⟨b, 0, none⟩ (.int .u8 x)) b s ⟨x, q.arg, q.src, q.join, q.cond, q.win, q.key, q.late⟩ := by
  unfold QyAt at h ⊢
  show (w.heap.modify b _)[b]? = _
  rw [Array.getElem?_modify, if_pos rfl, h]
  rfl
theorem QyAt.set_join {w : World} {b : Nat} {s : Sl} {q : Qy} (h : QyAt w b s q) (x : Bool) : QyAt (w.setCell ⟨b, 3, none⟩ (.bool x)) b s ⟨q.agg, q.arg, q.src, x, q.cond, q.win, q.key, q.late⟩ := by
  unfold QyAt at h ⊢
  show (w.heap.modify b _)[b]? = _
  rw [Array.getElem?_modify, if_pos rfl, h]
  rfl
theorem QyAt.set_wk {w : World} {b : Nat} {s : Sl} {q : Qy} (h : QyAt w b s q) (x : Int) : QyAt (w.setCell ⟨b, 5, none⟩ (.int .u8 x)) b s ⟨q.agg, q.arg, q.src, q.join, q.cond, ⟨x, q.win.size, q.win.every⟩, q.key, q.late⟩ := by
  unfold QyAt at h ⊢
  show (w.heap.modify b _)[b]? = _
  rw [Array.getElem?_modify, if_pos rfl, h]
  rfl
theorem QyAt.set_ws {w : World} {b : Nat} {s : Sl} {q : Qy} (h : QyAt w b s q) (x : Int) : QyAt (w.setCell ⟨b, 6, none⟩ (.int .i64 x)) b s ⟨q.agg, q.arg, q.src, q.join, q.cond, ⟨q.win.kind, x, q.win.every⟩, q.key, q.late⟩ := by
  unfold QyAt at h ⊢
  show (w.heap.modify b _)[b]? = _
  rw [Array.getElem?_modify, if_pos rfl, h]
  rfl
theorem QyAt.set_we {w : World} {b : Nat} {s : Sl} {q : Qy} (h : QyAt w b s q) (x : Int) : QyAt (w.setCell ⟨b, 7, none⟩ (.int .i64 x)) b s ⟨q.agg, q.arg, q.src, q.join, q.cond, ⟨q.win.kind, q.win.size, x⟩, q.key, q.late⟩ := by
  unfold QyAt at h ⊢
  show (w.heap.modify b _)[b]? = _
  rw [Array.getElem?_modify, if_pos rfl, h]
  rfl
theorem QyAt.set_key {w : World} {b : Nat} {s : Sl} {q : Qy} (h : QyAt w b s q) (x : Bool) : QyAt (w.setCell ⟨b, 8, none⟩ (.bool x)) b s ⟨q.agg, q.arg, q.src, q.join, q.cond, q.win, x, q.late⟩ := by
  unfold QyAt at h ⊢
  show (w.heap.modify b _)[b]? = _
  rw [Array.getElem?_modify, if_pos rfl, h]
  rfl
theorem QyAt.set_late {w : World} {b : Nat} {s : Sl} {q : Qy} (h : QyAt w b s q) (x : Int) : QyAt (w.setCell ⟨b, 9, none⟩ (.int .u8 x)) b s ⟨q.agg, q.arg, q.src, q.join, q.cond, q.win, q.key, x⟩ := by
  unfold QyAt at h ⊢
  show (w.heap.modify b _)[b]? = _
  rw [Array.getElem?_modify, if_pos rfl, h]
  rfl
/-- A query laid into a block as a whole. -/
def putQ (w : World) (b : Nat) (s : Sl) (q : Qy) : World :=
  (((((((((w.setCell ⟨b, 0, none⟩ (.int .u8 q.agg)).setCell ⟨b, 1, none⟩ s.arg).setCell ⟨b, 2, none⟩ s.src).setCell ⟨b, 3, none⟩ (.bool q.join)).setCell ⟨b, 4, none⟩ s.cond).setCell ⟨b, 5, none⟩ (.int .u8 q.win.kind)).setCell ⟨b, 6, none⟩ (.int .i64 q.win.size)).setCell ⟨b, 7, none⟩ (.int .i64 q.win.every)).setCell ⟨b, 8, none⟩ (.bool q.key)).setCell ⟨b, 9, none⟩ (.int .u8 q.late)
theorem putQ_at {w : World} {b : Nat} {s0 s : Sl} {q0 q : Qy} (h : QyAt w b s0 q0) : QyAt (putQ w b s q) b s q := by
  have := (((((((((h.set_agg q.agg).set_arg s.arg).set_src s.src).set_join q.join).set_cond s.cond).set_wk q.win.kind).set_ws q.win.size).set_we q.win.every).set_key q.key).set_late q.late
  exact this
theorem putQ_far {w : World} {b b2 : Nat} {s s2 : Sl} {q q2 : Qy} (h : QyAt w b s q) (hb : b2 ≠ b) : QyAt (putQ w b2 s2 q2) b s q :=
  (((((((((h.far hb _ _).far hb _ _).far hb _ _).far hb _ _).far hb _ _).far hb _ _).far hb _ _).far hb _ _).far hb _ _).far hb _ _
theorem grown_set {w w' : World} {b : Nat} (h : w.grownBy w' (some b)) (j : Nat) (v : Value) : w.grownBy (w'.setCell ⟨b, j, none⟩ v) (some b) := by
  have h2 := set_grown w' b j v
  exact ⟨h.os, h.tape, h.output, Nat.le_trans h.size h2.size, fun k hk e => (h2.block k (Nat.lt_of_lt_of_le hk h.size) e).trans (h.block k hk e)⟩
theorem putQ_grown (w : World) (b : Nat) (s : Sl) (q : Qy) : w.grownBy (putQ w b s q) (some b) :=
  grown_set (grown_set (grown_set (grown_set (grown_set (grown_set (grown_set (grown_set (grown_set (set_grown w b 0 _) 1 _) 2 _) 3 _) 4 _) 5 _) 6 _) 7 _) 8 _) 9 _
theorem putQ_size (w : World) (b : Nat) (s : Sl) (q : Qy) : (putQ w b s q).heap.size = w.heap.size := by
  unfold putQ; simp only [set_size8]
theorem putQ_below {w w' : World} {B b : Nat} (h : Below B w w') (hb : B ≤ b) (s : Sl) (q : Qy) : Below B w (putQ w' b s q) :=
  (((((((((h.setCell hb _).setCell hb _).setCell hb _).setCell hb _).setCell hb _).setCell hb _).setCell hb _).setCell hb _).setCell hb _).setCell hb _
end Go.Proofs.YtfmobnlnedljeaaDoor.Nodes

/-
  Contracts of the helpers of layer 6's statements: binary, typed, alive, same.
-/
import Derived.Test.YtgmfelikmjclbaaDoorKindCalls
import Derived.Test.YtgmfelikmjclbaaDoorRefMade
import Derived.Deep.QuietTactic
import Derived.BigQuiet
import Derived.Outline
namespace Go.Proofs.YtgmfelikmjclbaaDoor.Nodes
open Go.ChangeShapes Go.WideShapes Go.ChangeAt Go.RowKit

def numL : List Nd := [⟨4, 0, 0, 0, 0⟩]
def truL : List Nd := [⟨1, 1, 0, 0, 0⟩, ⟨1, 2, 0, 0, 0⟩, ⟨12, 0, 0, 1, 0⟩]
def pickL (t : Bool) : List Nd := if t then truL else numL
def binL (k : Int) (f s : Bool) : List Nd := madeL k 0 0 [pickL f, pickL s]
theorem pick_small (t : Bool) : PartSmall (pickL t) := by
  cases t
  · exact ⟨by decide, fun x hx => by simp [pickL, numL] at hx; subst hx; decide⟩
  · exact ⟨by decide, fun x hx => by simp [pickL, truL] at hx; rcases hx with rfl | rfl | rfl <;> decide⟩
/-- A list of nodes written out, read in a later world. -/
theorem lit_reads_in (l : List Nd) (n : Nat) (hn : l.length = n) (w : World) (nb : Nat) (hnb : w.heap.size = nb) (w2 : World) (hb : Below (w.alloc (.cells (rowN l).toArray 29)).heap.size (w.alloc (.cells (rowN l).toArray 29)) w2) : ReadsN w2 (.slice (some ⟨nb, 0, none⟩) n n) l := by
  subst hn hnb
  refine ReadsN.below (w := w.alloc (.cells (rowN l).toArray 29)) (.inr ⟨w.heap.size, 0, 0, rfl, by simp, fun i x hx => ?_⟩) hb
  obtain ⟨h0, h1, h2, h3, h4⟩ := rowN_at l i x hx
  have e : ∀ j, (w.alloc (.cells (rowN l).toArray 29)).cell? ⟨w.heap.size, 0 + j, none⟩ = (rowN l)[j]? := fun j => by
    unfold World.cell?
    simp only [heap_alloc_new, Nat.zero_add, List.getElem?_toArray, Option.isSome_none]
    rfl
  exact ⟨(e _).trans h0, (e _).trans h1, (e _).trans h2, (e _).trans h3, (e _).trans h4⟩
theorem refl_alloc (w : World) (o : Obj) : Below w.heap.size w (w.alloc o) := (Below.refl _ w).alloc (Nat.le_refl _) o
/-- The three lists that binary lays. -/
def w3 (w : World) : World := ((w.alloc (.cells (rowN numL).toArray 29)).alloc (.cells (rowN numL).toArray 29)).alloc (.cells (rowN truL).toArray 29)
theorem w3_size (w : World) : (w3 w).heap.size = w.heap.size + 3 := by unfold w3; simp
theorem w3_below (w : World) : Below w.heap.size w (w3 w) := ((refl_alloc w _).alloc (by simp) _).alloc (by simp; omega) _
theorem w3_a (w : World) : ReadsN (w3 w) (.slice (some ⟨w.heap.size, 0, none⟩) 1 1) numL :=
  lit_reads_in numL 1 rfl w _ rfl _ ((refl_alloc _ _).alloc (by simp) _)
theorem w3_b (w : World) : ReadsN (w3 w) (.slice (some ⟨w.heap.size + 1, 0, none⟩) 1 1) numL :=
  lit_reads_in numL 1 rfl (w.alloc _) _ (by simp) _ (refl_alloc _ _)
theorem w3_t (w : World) : ReadsN (w3 w) (.slice (some ⟨w.heap.size + 2, 0, none⟩) 3 3) truL :=
  lit_reads_in truL 3 rfl ((w.alloc _).alloc _) _ (by simp) _ (Below.refl _ _)
theorem pair_reads {w : World} {a b : Value} {p q : List Nd} (ha : ReadsN w a p) (hb : ReadsN w b q) (nb : Nat) (hnb : w.heap.size = nb) : ReadsP (w.alloc (.cells #[a, b] 22)) (.slice (some ⟨nb, 0, none⟩) 2 2) [p, q] :=
  lit_readsP_at [a, b] [p, q] 2 rfl w nb hnb fun i x hx => by
    match i, hx with
    | 0, hx => simp at hx; subst hx; exact ⟨a, rfl, ha⟩
    | 1, hx => simp at hx; subst hx; exact ⟨b, rfl, hb⟩
    | i + 2, hx => simp at hx
theorem one_reads {w : World} {a : Value} {p : List Nd} (ha : ReadsN w a p) (nb : Nat) (hnb : w.heap.size = nb) : ReadsP (w.alloc (.cells #[a] 22)) (.slice (some ⟨nb, 0, none⟩) 1 1) [p] :=
  lit_readsP_at [a] [p] 1 rfl w nb hnb fun i x hx => by
    match i, hx with
    | 0, hx => simp at hx; subst hx; exact ⟨a, rfl, ha⟩
    | i + 1, hx => simp at hx
set_option maxRecDepth 100000 in
set_option maxHeartbeats 1000000 in
theorem binary_any (k : Int) (f s : Bool) (w : World) : Calls Tryd.prog 9 #[.int .u8 k, .bool f, .bool s] w fun e w' => ∃ vo, e = .returned vo ∧ ReadsN w' vo (binL k f s) ∧ Below w.heap.size w w' := by
  have HS := w3_size w
  have H : ∀ (va vb : Value), ReadsN (w3 w) va (pickL f) → ReadsN (w3 w) vb (pickL s) → Hid (Calls Tryd.prog 12 #[.int .u8 k, .int .i64 0, .int .i64 0, .slice (some ⟨w.heap.size + 3, 0, none⟩) 2 2] ((w3 w).alloc (.cells #[va, vb] 22)) fun e w' => ∃ vo, e = .returned vo ∧ ReadsN w' vo (binL k f s) ∧ Below w.heap.size w w') := fun va vb ha hb => Lib.hid (by
    refine (refMade_any k 0 0 _ [pickL f, pickL s] _ (pair_reads ha hb _ HS) (Nat.le_refl 2) (fun p hp => by simp at hp; rcases hp with rfl | rfl; exact pick_small f; exact pick_small s)).mono ?_
    rintro e w' ⟨vo, rfl, ho, hb⟩
    exact ⟨vo, rfl, own_readsN ho, below_box (w3_below w) hb⟩)
  cases f <;> cases s
  · have H1 := H _ _ (w3_a w) (w3_b w)
    clear H HS
    go_enter Tryd.func9, Tryd.ntmps9
    go_wp2_with fail
    refine H1.out.mono ?_
    rintro e w' ⟨vo, rfl, hr, hb⟩
    have HR := Lib.hid hr
    have HB := Lib.hid hb
    clear hr hb
    go_wp2_with fail
    go_ret
    exact ⟨_, rfl, HR.out, HB.out⟩
  · have H1 := H _ _ (w3_a w) (w3_t w)
    clear H HS
    go_enter Tryd.func9, Tryd.ntmps9
    go_wp2_with fail
    refine H1.out.mono ?_
    rintro e w' ⟨vo, rfl, hr, hb⟩
    have HR := Lib.hid hr
    have HB := Lib.hid hb
    clear hr hb
    go_wp2_with fail
    go_ret
    exact ⟨_, rfl, HR.out, HB.out⟩
  · have H1 := H _ _ (w3_t w) (w3_b w)
    clear H HS
    go_enter Tryd.func9, Tryd.ntmps9
    go_wp2_with fail
    refine H1.out.mono ?_
    rintro e w' ⟨vo, rfl, hr, hb⟩
    have HR := Lib.hid hr
    have HB := Lib.hid hb
    clear hr hb
    go_wp2_with fail
    go_ret
    exact ⟨_, rfl, HR.out, HB.out⟩
  · have H1 := H _ _ (w3_t w) (w3_t w)
    clear H HS
    go_enter Tryd.func9, Tryd.ntmps9
    go_wp2_with fail
    refine H1.out.mono ?_
    rintro e w' ⟨vo, rfl, hr, hb⟩
    have HR := Lib.hid hr
    have HB := Lib.hid hb
    clear hr hb
    go_wp2_with fail
    go_ret
    exact ⟨_, rfl, HR.out, HB.out⟩
/-- typed answers true of an expression that is typed and what is asked for. -/
theorem typed_is (v : Value) (l : List Nd) (t : Bool) (w : World) (hf : KindFix w) (hR : ReadsN w v l) (hn : l.length ≤ 1000000) (ho : ofV l = (t, (l.length : Int) - 1, 0)) :
    Calls Tryd.prog 10 #[v, .bool t] w fun e w' => e = .returned (.bool true) ∧ Below w.heap.size w w' := by
  have O := Lib.hid (kindsOf_any v l w hf hR hn)
  rw [ho] at O
  obtain ⟨ad, cap, rfl⟩ := hR.shape
  have hq : (t == t) = true := by simp
  clear hf hR ho
  go_enter Tryd.func10, Tryd.ntmps10
  go_wp2_with fail
  refine O.out.mono ?_
  rintro e w1 ⟨rfl, hb⟩
  have HB := Lib.hid hb
  clear hb
  go_wp2_with fail
  go_ret
  exact ⟨rfl, HB.out⟩
theorem alive_facts : ofV (binL 8 false true) = (false, 4, 42) ∧ ofV (madeL 6 0 0 [numL]) = (false, 1, 42) ∧ ofV (binL 12 true false) = (false, 4, 42) ∧ ofV (binL 12 false false) = (true, ((binL 12 false false).length : Int) - 1, 0) ∧ ofV (binL 16 true true) = (true, ((binL 16 true true).length : Int) - 1, 0) := by decide +kernel
set_option maxRecDepth 100000 in
set_option maxHeartbeats 1000000 in
theorem alive6_any (w : World) (hf : KindFix w) : Calls Tryd.prog 16 #[] w fun e w' => e = .returned (.bool true) ∧ Below w.heap.size w w' := by
  have F := Lib.hid hf
  have B8 := Lib.hid (binary_any 8 false true)
  have B12 := Lib.hid (binary_any 12 true false)
  have B12f := Lib.hid (binary_any 12 false false)
  have B16 := Lib.hid (binary_any 16 true true)
  clear hf
  go_enter Tryd.func16, Tryd.ntmps16
  go_wp2_with fail
  refine (B8.out _).mono ?_
  rintro e w1 ⟨v1, rfl, hr, hb⟩
  have HB1 := Lib.hid hb
  have O := Lib.hid (kindsOf_any v1 _ _ (F.out.below hb) hr (by decide))
  rw [alive_facts.1] at O
  clear hr hb
  go_wp2_with fail
  refine O.out.mono ?_
  rintro e w2 ⟨rfl, hb⟩
  have HB2 := Lib.hid (below_then HB1.out hb)
  have HM := Lib.hid (refMade_any 6 0 0 _ [numL] _ (one_reads (lit_reads_in numL 1 rfl w2 _ rfl _ (Below.refl _ _)) (w2.heap.size + 1) (by simp)) (by decide) (fun p hp => by simp at hp; subst hp; exact pick_small false))
  clear O hb
  go_wp2_with fail
  refine HM.out.mono ?_
  rintro e w3 ⟨v3, rfl, ho, hb⟩
  have HB3 := Lib.hid (below_then ((HB2.out.alloc HB2.out.size _).alloc (by have := HB2.out.size; simp; omega) _) hb)
  have O := Lib.hid (kindsOf_any v3 _ _ (F.out.below HB3.out) (own_readsN ho) (by decide))
  rw [alive_facts.2.1] at O
  clear ho hb
  go_wp2_with fail
  refine O.out.mono ?_
  rintro e w4 ⟨rfl, hb⟩
  have HB4 := Lib.hid (below_then HB3.out hb)
  clear O hb HM
  go_wp2_with fail
  refine (B12.out _).mono ?_
  rintro e w5 ⟨v5, rfl, hr, hb⟩
  have HB5 := Lib.hid (below_then HB4.out hb)
  have O := Lib.hid (kindsOf_any v5 _ _ (F.out.below HB5.out) hr (by decide))
  rw [alive_facts.2.2.1] at O
  clear hr hb
  go_wp2_with fail
  refine O.out.mono ?_
  rintro e w6 ⟨rfl, hb⟩
  have HB6 := Lib.hid (below_then HB5.out hb)
  clear O hb
  go_wp2_with fail
  refine (B12f.out _).mono ?_
  rintro e w7 ⟨v7, rfl, hr, hb⟩
  have HB7 := Lib.hid (below_then HB6.out hb)
  have O := Lib.hid (typed_is v7 _ true _ (F.out.below HB7.out) hr (by decide) alive_facts.2.2.2.1)
  clear hr hb
  go_wp2_with fail
  refine O.out.mono ?_
  rintro e w8 ⟨rfl, hb⟩
  have HB8 := Lib.hid (below_then HB7.out hb)
  clear O hb
  go_wp2_with fail
  refine (B16.out _).mono ?_
  rintro e w9 ⟨v9, rfl, hr, hb⟩
  have HB9 := Lib.hid (below_then HB8.out hb)
  have O := Lib.hid (typed_is v9 _ true _ (F.out.below HB9.out) hr (by decide) alive_facts.2.2.2.2)
  clear hr hb
  go_wp2_with fail
  refine O.out.mono ?_
  rintro e wa ⟨rfl, hb⟩
  have HBa := Lib.hid (below_then HB9.out hb)
  clear O hb
  go_wp2_with fail
  go_ret
  exact ⟨rfl, HBa.out⟩

set_option maxRecDepth 100000 in
set_option maxHeartbeats 1000000 in
theorem same_any (va vb : Value) (base base2 : Nat) (l : List Bool) (w : World) (ha : w.ownsRow base 4 1 va l.length (l.map Value.bool)) (hb : w.ownsRow base2 4 1 vb l.length (l.map Value.bool)) (hn : l.length ≤ 1000000) :
    Calls Tryd.prog 21 #[va, vb] w fun e w' => e = .returned (.bool true) ∧ Draws w w' := by
  obtain ⟨ad, cap, rfl⟩ := own_shape ha
  obtain ⟨ad2, cap2, rfl⟩ := own_shape hb
  have HA := Lib.hid ha
  have HB := Lib.hid hb
  have q : ((l.length : Int) != l.length) = false := by simp
  clear ha hb
  go_enter Tryd.func21, Tryd.ntmps21
  go_wp2_with fail
  go_loopg [5] l.length (fun g s5 wx => ∃ i : Nat, i + g = l.length ∧ s5 = .int .i64 i ∧ Hid (Draws w wx))
  case atStart => exact ⟨0, by omega, rfl, Lib.hid (Draws.refl _)⟩
  case round =>
    obtain ⟨i, hig, rfl, HD⟩ := hrel
    cases gk with
    | zero =>
      obtain rfl : i = l.length := by omega
      clear hig
      go_wp2_with fail
      go_ret
      exact ⟨rfl, HD.out⟩
    | succ g =>
      have hlt : i < l.length := by omega
      have own_one : ∀ {base : Nat} {v : Value}, w.ownsRow base 4 1 v l.length (l.map Value.bool) → ∃ b cap, v = .slice (some ⟨b, 0, none⟩) l.length cap ∧ wr.cell? ⟨b, i, none⟩ = some (.bool l[i]) := fun {base v} h => by
        rcases h.2 with ⟨_, h0⟩ | ⟨b, cap, cur, rfl, _, hg, _⟩
        · omega
        · refine ⟨b, cap, rfl, ?_⟩
          have := h.cellAt i (by omega)
          rw [List.getElem?_map, List.getElem?_eq_getElem hlt] at this
          exact ((HD.out.below w.heap.size).cell (p := ⟨b, i, none⟩) (Array.getElem?_eq_some_iff.1 hg).1).trans this
      obtain ⟨b1, cp1, e1, c1⟩ := own_one HA.out
      obtain ⟨b2, cp2, e2, c2⟩ := own_one HB.out
      cases e1
      cases e2
      obtain ⟨x, hx⟩ : ∃ x, l[i] = x := ⟨_, rfl⟩
      rw [hx] at c1 c2
      have hq : (x == x) = true := by simp
      clear own_one hx
      go_wp2_with fail
      go_quiet (fail)
      go_wp2_with fail
      go_roundg g
      case measure => omega
      case rel => exact ⟨i + 1, by omega, by go_num, Lib.hid (HD.out.drewN _)⟩
end Go.Proofs.YtgmfelikmjclbaaDoor.Nodes

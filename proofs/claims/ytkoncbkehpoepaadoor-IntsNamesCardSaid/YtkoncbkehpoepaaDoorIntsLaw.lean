/-
  Contracts of the helpers of layer 1's statements: do, gives, alive.
-/
import Derived.Test.YtkoncbkehpoepaaDoorIntsText
namespace Go.Proofs.YtkoncbkehpoepaaDoor
open Go.ChangeShapes Go.WideShapes Go.ChangeAt Go.RowKit

theorem setCell_same {w : World} {p : Addr} {v : Value} (h : w.cell? p = some v) : w.setCell p v = w := by
  have e : (w.setCell p v).heap = w.heap := by
    unfold World.setCell
    apply Array.ext_getElem?
    intro i
    rw [Array.getElem?_modify]
    by_cases hi : p.block = i
    · subst hi
      rw [if_pos rfl]
      unfold World.cell? at h
      cases ho : w.heap[p.block]? with
      | none => rfl
      | some o =>
        cases o with
        | cells c t f =>
          rw [ho] at h
          simp only [Option.map_some, Option.some.injEq]
          by_cases hs : p.spot.isSome = true
          · simp [hs]
          · simp only [hs, if_false, Bool.false_eq_true] at h ⊢
            congr 1
            apply Array.ext_getElem?
            intro j
            rw [Array.getElem?_setIfInBounds]
            by_cases hj : p.off = j
            · subst hj; rw [if_pos rfl]
              have hlt := (Array.getElem?_eq_some_iff.1 h).1
              rw [if_pos hlt, h]
            · rw [if_neg hj]
        | _ => rfl
    · rw [if_neg hi]
  show ({ w with heap := (w.setCell p v).heap } : World) = w
  rw [e]

/-- do: it returns what the operator gives; the mark of an error stays false. -/
theorem ldo_any (k a b : Int) (hk : doE k = 0) (p : Addr) (w : World) (hc : w.cell? p = some (.bool false)) (hz : w.frozen? p = false) :
    Calls Tryd.prog 16 #[.int .u8 k, .int .i64 a, .int .i64 b, .pointer (some p)] w fun e w' => e = .returned (.int .i64 (opV k a b)) ∧ w = w' := by
  have D : ∀ W : World, Calls Tryd.prog 10 #[.int .u8 k, .int .i64 a, .int .i64 b] W (DoEnds (opV k a b) 0 W) := fun W => by rw [← hk]; exact do_any a b W k
  have H := Lib.hid D
  have E := Lib.hid (setCell_same hc)
  clear D hk
  go_enter Tryd.func16, Tryd.ntmps16
  go_wp2_with (go_at_call 10; refine (H.out _).mono ?_; rintro e w' ⟨rfl, rfl⟩)
  go_ret
  exact ⟨rfl, E.out.symm⟩
theorem gives_true (k a b v : Int) (hk : doE k = 0) (hv : opV k a b = v) (w : World) :
    Calls Tryd.prog 9 #[.int .u8 k, .int .i64 a, .int .i64 b, .int .i64 v] w fun e w' => e = .returned (.bool true) ∧ w = w' := by
  have D : ∀ W : World, Calls Tryd.prog 10 #[.int .u8 k, .int .i64 a, .int .i64 b] W (DoEnds v 0 W) := fun W => by rw [← hk, ← hv]; exact do_any a b W k
  have H := Lib.hid D
  clear D hk hv
  go_enter Tryd.func9, Tryd.ntmps9
  go_wp2_with (go_at_call 10; refine (H.out _).mono ?_; rintro e w' ⟨rfl, rfl⟩)
  go_ret
  exact ⟨rfl, rfl⟩
theorem alive_any (w : World) (hf : Fix w) : Calls Tryd.prog 13 #[] w fun e w' => e = .returned (.bool true) ∧ Below w.heap.size w w' := by
  have R : Calls Tryd.prog 11 #[.string { data := #[48, 48, 55] }] w (ReadEnds 7 0 w) := read_any { data := #[48, 48, 55] } (by decide) w hf
  have g1 : opV 8 9223372036854775807 1 = -9223372036854775808 := by decide +kernel
  have g2 : opV 10 1 65 = 2 := by decide +kernel
  have g3 : opV 11 (-5) 1 = -3 := by decide +kernel
  have g4 : opV 11 (-5) (-1) = -1 := by decide +kernel
  have H := Lib.hid R
  have H1 := Lib.hid (gives_true 8 9223372036854775807 1 _ (by decide) g1)
  have H2 := Lib.hid (gives_true 10 1 65 _ (by decide) g2)
  have H3 := Lib.hid (gives_true 11 (-5) 1 _ (by decide) g3)
  have H4 := Lib.hid (gives_true 11 (-5) (-1) _ (by decide) g4)
  clear R g1 g2 g3 g4 hf
  go_enter Tryd.func13, Tryd.ntmps13
  go_wp2_with fail
  refine H.out.mono ?_
  rintro e w' ⟨rfl, hb⟩
  go_wp2_with fail
  refine (H1.out _).mono ?_
  rintro e w' ⟨rfl, rfl⟩
  go_wp2_with fail
  refine (H2.out _).mono ?_
  rintro e w' ⟨rfl, rfl⟩
  go_wp2_with fail
  refine (H3.out _).mono ?_
  rintro e w' ⟨rfl, rfl⟩
  go_wp2_with fail
  refine (H4.out _).mono ?_
  rintro e w' ⟨rfl, rfl⟩
  go_wp2_with fail
  go_ret
  exact ⟨rfl, hb⟩
end Go.Proofs.YtkoncbkehpoepaaDoor

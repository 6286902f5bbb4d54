/-
  The walk of layer 1's statement IntsNames: the chapter's examples, each operator, the ends of numbers, and errors.
-/
import Derived.Test.YtkoncbkehpoepaaDoorIntsLaw
import Derived.LoopTactic
namespace Go.Proofs.YtkoncbkehpoepaaDoor
open Go.ChangeShapes Go.WideShapes Go.ChangeAt Go.RowKit

theorem gv (k a b v : Int) (h : doE k = 0 ∧ opV k a b = v) (w : World) :
    Calls Tryd.prog 9 #[.int .u8 k, .int .i64 a, .int .i64 b, .int .i64 v] w fun e w' => e = .returned (.bool true) ∧ w = w' := gives_true k a b v h.1 h.2 w
theorem read_none (s : ByteArray) (hs : s.size ≤ 281474976710656) (hd : digB s.data.toList = false) (w : World) : Calls Tryd.prog 11 #[.string s] w fun e w' => e = .returned (.tuple #[.int .i64 0, .int .i64 12]) ∧ w = w' := by
  have F : ∀ W : World, Calls Tryd.prog 19 #[.string s] W fun e w' => e = .returned (.bool false) ∧ W = w' := fun W => by rw [← hd]; exact digits_any s W (by unfold maxLen; omega)
  have H := Lib.hid F
  clear F hd
  go_enter Tryd.func11, Tryd.ntmps11
  go_wp2_with (go_at_call 19; refine (H.out _).mono ?_; rintro e w' ⟨rfl, rfl⟩)
  go_ret2
  exact ⟨rfl, rfl⟩
theorem read_is (s : ByteArray) (v er : Int) (h : s.size ≤ 281474976710656 ∧ rdV s.data.toList = v ∧ rdE s.data.toList = er) (w : World) (hf : Fix w) : Calls Tryd.prog 11 #[.string s] w (ReadEnds v er w) := by
  obtain ⟨h0, rfl, rfl⟩ := h
  exact read_any s h0 w hf
theorem text_is (n : Int) (s : ByteArray) (h : I64 n ∧ Lib.itoa n = s.data.toList) (w : World) (hf : Fix w) : Calls Tryd.prog 12 #[.int .i64 n] w fun e w' => e = .returned (.string s) ∧ Below w.heap.size w w' := by
  refine (text_any n h.1 w hf).mono ?_
  rintro e w' ⟨rfl, hb⟩
  refine ⟨?_, hb⟩
  rw [h.2]
theorem below3 (w : World) (c1 c2 c3 : Array Value) (t1 t2 t3 : TypeId) : Below w.heap.size w (((w.alloc (Obj.cells c1 t1)).alloc (Obj.cells c2 t2)).alloc (Obj.cells c3 t3)) :=
  (((Below.refl w.heap.size w).alloc (Nat.le_refl _) _).alloc (by simp) _).alloc (by simp; omega) _
theorem text_least : Lib.itoa (-9223372036854775808) = [45, 57, 50, 50, 51, 51, 55, 50, 48, 51, 54, 56, 53, 52, 55, 55, 53, 56, 48, 56] := by
  simp [Lib.itoa, Lib.decDigits]
theorem text_zero : Lib.itoa 0 = [48] := by simp [Lib.itoa, Lib.decDigits]

set_option maxRecDepth 100000 in
set_option maxHeartbeats 4000000 in
theorem names_walk (w : World) (hf : Fix w) :
    Calls Tryd.prog 3 #[] w fun e w' => e = .returned (.bool true) ∧ Below w.heap.size w w' := by
  have HF := Lib.hid hf
  clear hf
  go_enter Tryd.func3, Tryd.ntmps3
  go_wp2_with fail
  iterate 14
    refine (gv _ _ _ _ (by decide +kernel) _).mono ?_
    rintro e w1 ⟨rfl, rfl⟩
    go_wp2_with fail
  go_loop [3] (fun i => ∃ k : Int, 0 ≤ k ∧ k ≤ 6 ∧ i = .int .i64 k) (fun i => 6 - (intOf i).toNat)
  case atStart => exact ⟨0, by omega, by omega, rfl⟩
  case round =>
    obtain ⟨k, hk0, hk6, rfl⟩ := hrel
    by_cases hlt : k < 6
    · have hk : k = 0 ∨ k = 1 ∨ k = 2 ∨ k = 3 ∨ k = 4 ∨ k = 5 := by omega
      rcases hk with rfl | rfl | rfl | rfl | rfl | rfl
      all_goals
        clear hk0 hk6 hlt
        go_wp2_with fail
        iterate 3
          refine (gv _ _ _ _ (by decide +kernel) _).mono ?_
          rintro e w1 ⟨rfl, rfl⟩
          go_wp2_with fail
        go_round
        case rel => exact ⟨_, by omega, by omega, rfl⟩
        case measure => simp [intOf]
    · obtain rfl : k = 6 := by omega
      clear hk0 hk6 hlt
      go_wp2_with fail
      go_loop [6] (fun i => ∃ k : Int, 0 ≤ k ∧ k ≤ 5 ∧ i = .int .i64 k) (fun i => 5 - (intOf i).toNat)
      case atStart => exact ⟨0, by omega, by omega, rfl⟩
      case round =>
        obtain ⟨k, hk0, hk6, rfl⟩ := hrel
        by_cases hlt : k < 5
        · have hk : k = 0 ∨ k = 1 ∨ k = 2 ∨ k = 3 ∨ k = 4 := by omega
          rcases hk with rfl | rfl | rfl | rfl | rfl
          all_goals
            clear hk0 hk6 hlt
            go_wp2_with fail
            refine (do_bad _ _ _ _ (by decide)).mono ?_
            rintro e w1 ⟨rfl, rfl⟩
            go_wp2_with fail
            go_round
            case rel => exact ⟨_, by omega, by omega, rfl⟩
            case measure => simp [intOf]
        · obtain rfl : k = 5 := by omega
          clear hk0 hk6 hlt
          go_wp2_with fail
          go_loop [10] (fun i => ∃ k : Int, 0 ≤ k ∧ k ≤ 10 ∧ i = .int .i64 k) (fun i => 10 - (intOf i).toNat)
          case atStart => exact ⟨0, by omega, by omega, rfl⟩
          case round =>
            obtain ⟨k, hk0, hk6, rfl⟩ := hrel
            by_cases hlt : k < 10
            · have hk : k = 0 ∨ k = 1 ∨ k = 2 ∨ k = 3 ∨ k = 4 ∨ k = 5 ∨ k = 6 ∨ k = 7 ∨ k = 8 ∨ k = 9 := by omega
              rcases hk with rfl | rfl | rfl | rfl | rfl | rfl | rfl | rfl | rfl | rfl
              all_goals
                clear hk0 hk6 hlt
                go_wp2_with fail
                refine (read_none _ (by decide) (by decide +kernel) _).mono ?_
                rintro e w1 ⟨rfl, rfl⟩
                go_wp2_with fail
                go_round
                case rel => exact ⟨_, by omega, by omega, rfl⟩
                case measure => simp [intOf]
            · obtain rfl : k = 10 := by omega
              clear hk0 hk6 hlt
              have R1 := Lib.hid (read_is ⟨#[57, 50, 50, 51, 51, 55, 50, 48, 51, 54, 56, 53, 52, 55, 55, 53, 56, 48, 55]⟩ 9223372036854775807 0 (by decide +kernel))
              have R2 := Lib.hid (read_is ⟨#[57, 50, 50, 51, 51, 55, 50, 48, 51, 54, 56, 53, 52, 55, 55, 53, 56, 48, 56]⟩ 0 16 (by decide +kernel))
              have R3 := Lib.hid (read_is ⟨#[57, 57, 57, 57, 57, 57, 57, 57, 57, 57, 57, 57, 57, 57, 57, 57, 57, 57, 57, 57, 57, 57, 57]⟩ 0 16 (by decide +kernel))
              have R4 := Lib.hid (read_is ⟨#[48, 48, 48, 48, 48, 48, 48, 48, 48, 48, 48, 48, 48, 48, 48, 48, 48, 48, 48, 48, 48, 48, 48, 48, 48, 48, 48, 49, 50]⟩ 12 0 (by decide +kernel))
              have T1 := Lib.hid (text_is (-9223372036854775808) ⟨#[45, 57, 50, 50, 51, 51, 55, 50, 48, 51, 54, 56, 53, 52, 55, 55, 53, 56, 48, 56]⟩ ⟨by unfold I64; omega, text_least⟩)
              have T2 := Lib.hid (text_is 0 ⟨#[48]⟩ ⟨by unfold I64; omega, text_zero⟩)
              go_wp2_with fail
              refine (R1.out _ (Fix.below HF.out (below3 w _ _ _ _ _ _))).mono ?_
              rintro e w1 ⟨rfl, hb1⟩
              have C1 := (below3 w _ _ _ _ _ _).trans (hb1.mono (below3 w _ _ _ _ _ _).size)
              clear hb1
              have F1 := Lib.hid (Fix.below HF.out C1)
              go_wp2_with fail
              refine (R2.out _ F1.out).mono ?_
              rintro e w2 ⟨rfl, hb⟩
              have C2 := C1.trans (hb.mono C1.size)
              clear hb
              have F2 := Lib.hid (Fix.below HF.out C2)
              go_wp2_with fail
              refine (R3.out _ F2.out).mono ?_
              rintro e w3 ⟨rfl, hb⟩
              have C3 := C2.trans (hb.mono C2.size)
              clear hb
              have F3 := Lib.hid (Fix.below HF.out C3)
              go_wp2_with fail
              refine (R4.out _ F3.out).mono ?_
              rintro e w4 ⟨rfl, hb⟩
              have C4 := C3.trans (hb.mono C3.size)
              clear hb
              have F4 := Lib.hid (Fix.below HF.out C4)
              go_wp2_with fail
              refine (T1.out _ F4.out).mono ?_
              rintro e w5 ⟨rfl, hb⟩
              have C5 := C4.trans (hb.mono C4.size)
              clear hb
              have F5 := Lib.hid (Fix.below HF.out C5)
              go_wp2_with fail
              refine (T2.out _ F5.out).mono ?_
              rintro e w6 ⟨rfl, hb⟩
              have C6 := C5.trans (hb.mono C5.size)
              clear hb
              have F6 := Lib.hid (Fix.below HF.out C6)
              go_wp2_with fail
              refine (alive_any _ F6.out).mono ?_
              rintro e w7 ⟨rfl, hb⟩
              have C7 := C6.trans (hb.mono C6.size)
              go_wp2_with fail
              go_ret
              exact ⟨rfl, C7⟩
end Go.Proofs.YtkoncbkehpoepaaDoor

/-
  The walk of layer 3's statement LexerNames: the chapter's examples, limits, texts that have no tokens, and errors.
-/
import Derived.Test.YtighmcooilcmfaaDoorLexNamesFacts
import Derived.Outline
namespace Go.Proofs.YtighmcooilcmfaaDoor
open Go.ChangeShapes Go.WideShapes Go.ChangeAt Go.RowKit

set_option maxRecDepth 100000 in
set_option maxHeartbeats 4000000 in
theorem names_walk (w : World) (hf : LexFix w) :
    Calls Tryd.prog 3 #[] w fun e w' => e = .returned (.bool true) ∧ Below w.heap.size w w' := by
  have F := Lib.hid hf
  have B := Lib.hid (Below.refl w.heap.size w)
  clear hf
  go_enter Tryd.func3, Tryd.ntmps3
  go_wp2_with fail
  refine (joined_is _ { data := #[] } (by decide +kernel) _ F.out).mono ?_
  rintro e w1 ⟨rfl, hb⟩
  have F := Lib.hid (F.out.below hb)
  have B := Lib.hid (below_step B.out hb)
  clear hb
  go_wp2_with fail
  refine (joined_is _ { data := #[] } (by decide +kernel) _ F.out).mono ?_
  rintro e w1 ⟨rfl, hb⟩
  have F := Lib.hid (F.out.below hb)
  have B := Lib.hid (below_step B.out hb)
  clear hb
  go_wp2_with fail
  refine (joined_is _ { data := #[60, 60, 32, 61, 32, 60] } (by decide +kernel) _ F.out).mono ?_
  rintro e w1 ⟨rfl, hb⟩
  have F := Lib.hid (F.out.below hb)
  have B := Lib.hid (below_step B.out hb)
  clear hb
  go_wp2_with fail
  refine (joined_is _ { data := #[97, 32, 60, 32, 45, 32, 98] } (by decide +kernel) _ F.out).mono ?_
  rintro e w1 ⟨rfl, hb⟩
  have F := Lib.hid (F.out.below hb)
  have B := Lib.hid (below_step B.out hb)
  clear hb
  go_wp2_with fail
  refine (joined_is _ { data := #[45, 32, 45, 32, 49] } (by decide +kernel) _ F.out).mono ?_
  rintro e w1 ⟨rfl, hb⟩
  have F := Lib.hid (F.out.below hb)
  have B := Lib.hid (below_step B.out hb)
  clear hb
  go_wp2_with fail
  refine (joined_is _ { data := #[63] } (by decide +kernel) _ F.out).mono ?_
  rintro e w1 ⟨rfl, hb⟩
  have F := Lib.hid (F.out.below hb)
  have B := Lib.hid (below_step B.out hb)
  clear hb
  go_wp2_with fail
  refine (joined_is _ { data := #[98, 121, 32, 107, 101, 121] } (by decide +kernel) _ F.out).mono ?_
  rintro e w1 ⟨rfl, hb⟩
  have F := Lib.hid (F.out.below hb)
  have B := Lib.hid (below_step B.out hb)
  clear hb
  go_wp2_with fail
  refine (joined_is _ { data := #[97, 32, 49, 32, 98, 32, 50] } (by decide +kernel) _ F.out).mono ?_
  rintro e w1 ⟨rfl, hb⟩
  have F := Lib.hid (F.out.below hb)
  have B := Lib.hid (below_step B.out hb)
  clear hb
  go_wp2_with fail
  refine (joined_is _ { data := #[33, 61, 32, 33, 61] } (by decide +kernel) _ F.out).mono ?_
  rintro e w1 ⟨rfl, hb⟩
  have F := Lib.hid (F.out.below hb)
  have B := Lib.hid (below_step B.out hb)
  clear hb
  go_wp2_with fail
  refine (many_A _).mono ?_
  rintro e w1 ⟨rfl, rfl⟩
  go_wp2_with fail
  refine (fails_A _ F.out).mono ?_
  rintro e w1 ⟨rfl, hb⟩
  have F := Lib.hid (F.out.below hb)
  have B := Lib.hid (below_step B.out hb)
  clear hb
  go_wp2_with fail
  refine (many_B _).mono ?_
  rintro e w1 ⟨rfl, rfl⟩
  have hsum := manyB_size
  go_wp2_with fail
  refine (fails_B _ F.out).mono ?_
  rintro e w1 ⟨rfl, hb⟩
  have F := Lib.hid (F.out.below hb)
  have B := Lib.hid (below_step B.out hb)
  clear hb hsum
  iterate 6
    go_wp2_with fail
    refine (fails_is _ _ _ (by decide +kernel) _ F.out).mono ?_
    rintro e w1 ⟨rfl, hb⟩
    have F := Lib.hid (F.out.below hb)
    have B := Lib.hid (below_step B.out hb)
    clear hb
  obtain ⟨w2, hm, ho, hb2⟩ := make_201 w1
  have R2 := Lib.hid (row_reads ho (by simp))
  have F2 := Lib.hid (F.out.below hb2)
  have B2 := Lib.hid (below_step B.out hb2)
  clear ho hb2 F B
  go_wp2_with fail
  refine (join_is _ _ { data := #[] } 4 zeros_err (by simp) zeros_short _ F2.out R2.out).mono ?_
  rintro e w3 ⟨rfl, hb⟩
  have F3 := Lib.hid (F2.out.below hb)
  have B3 := Lib.hid (below_step B2.out hb)
  clear hb hm R2 F2 B2
  obtain ⟨w4, hw4⟩ : ∃ w4, w3.alloc (.cells (rowVals oddToks) 30) = w4 := ⟨_, rfl⟩
  have HT := Lib.hid (row_cells hw4)
  have HB4 : Hid (Below w3.heap.size w3 w4) := Lib.hid (by rw [← hw4]; exact (Below.refl w3.heap.size w3).alloc (Nat.le_refl _) _)
  have F4 := Lib.hid (F3.out.below HB4.out)
  have B4 := Lib.hid (below_step B3.out HB4.out)
  have HW := Lib.hid hw4
  clear hw4 F3 B3 HB4
  go_wp2_with fail
  go_loopg [6] 11 (fun g i wx => ∃ k : Nat, k + g = 11 ∧ i = .int .i64 k ∧ Hid (Below w4.heap.size w4 wx))
  case atStart => exact ⟨0, by omega, rfl, Lib.hid (by rw [← HW.out]; exact Below.refl _ _)⟩
  case round =>
    obtain ⟨k, hk, rfl, HX⟩ := hrel
    cases gk with
    | succ g =>
      have hlt : k < 11 := by omega
      have RK := Lib.hid (sub_reads (HT.out.1.below HT.out.2 HX.out) (Nat.lt_of_lt_of_le HT.out.2 HX.out.size) k hlt (11 - k))
      have FX := Lib.hid (F4.out.below HX.out)
      have JK := Lib.hid (odd_bad ⟨k, hlt⟩)
      go_wp2_with fail
      refine (join_is _ _ { data := #[] } 8 JK.out (by simp) (fun t ht => by simp at ht; subst ht; exact odd_short _ (List.getElem_mem _)) _ FX.out RK.out).mono ?_
      rintro e w5 ⟨rfl, hb⟩
      have HY := Lib.hid (below_step HX.out hb)
      clear hb
      go_wp2_with fail
      go_roundg g
      case measure => omega
      case rel => exact ⟨k + 1, by omega, by go_num, HY⟩
    | zero =>
      obtain rfl : k = 11 := by omega
      have F5 := Lib.hid (F4.out.below HX.out)
      have B5 := Lib.hid (below_step B4.out HX.out)
      clear hk HT F4 B4 HW HX
      obtain ⟨w6, hm, ho, hb6⟩ := make_200 wr
      have O6 := Lib.hid ho
      have B6 := Lib.hid hb6
      clear ho hb6
      go_wp2_with fail
      clear hm
      go_loopg [10] 200 (fun g i wx => ∃ k : Nat, k + g = 200 ∧ i = .int .i64 k ∧ Hid (wx.ownsRow wr.heap.size 30 3 (.slice (some ⟨wr.heap.size, 0, none⟩) 200 200) 200 (rowCells (fullN k))) ∧ Hid (Below wr.heap.size wr wx))
      case atStart => exact ⟨0, by omega, rfl, O6, B6⟩
      case round =>
        obtain ⟨k, hk, rfl, OX, HX⟩ := hrel
        cases gk with
        | succ g =>
          have hlt : k < 200 := by omega
          obtain ⟨r0, r1, r2⟩ := rowCells_at (fullN k) k ((fullN k)[k]'(by rw [fullN_len]; exact hlt)) (List.getElem?_eq_getElem _)
          have c0 := (OX.out.cellAt (k * 3) (by omega)).trans r0
          have c1 := (OX.out.cellAt (k * 3 + 1) (by omega)).trans r1
          have c2 := (OX.out.cellAt (k * 3 + 2) (by omega)).trans r2
          have f0 := OX.out.frozenAt (k * 3)
          have f1 := OX.out.frozenAt (k * 3 + 1)
          have f2 := OX.out.frozenAt (k * 3 + 2)
          clear r0 r1 r2
          have OY := Lib.hid (store_tok OX.out k wordTok)
          have HY := Lib.hid (store_below HX.out (Nat.le_refl _) (k * 3) (k * 3 + 1) (k * 3 + 2) (.int .u8 2) (.string { data := #[97] }) (.int .i64 0))
          go_wp2_with fail
          go_roundg g
          case measure => omega
          case rel => exact ⟨k + 1, by omega, by go_num, OY, HY⟩
        | zero =>
          obtain rfl : k = 200 := by omega
          have h200 := OX.out
          rw [fullN_all] at h200
          have O7 := Lib.hid h200
          have R7 := Lib.hid (row_reads h200 (by rw [List.length_replicate]))
          have F7 := Lib.hid (F5.out.below HX.out)
          clear hk h200 O6 B6 OX
          go_wp2_with fail
          refine (join_is _ _ fullText 0 full_join full_len full_short _ F7.out R7.out).mono ?_
          rintro e w8 ⟨rfl, hb⟩
          have HX8 := Lib.hid (below_step HX.out hb)
          have O8 := Lib.hid (keeps_own O7.out hb)
          have c1 := (O8.out.cellAt 1 (by omega)).trans word_cell
          have f1 := O8.out.frozenAt 1
          have h9 := (O8.out.stored 1 (.string { data := #[99, 111, 117, 110, 116] })).1
          rw [count_cells] at h9
          have R9 := Lib.hid (row_reads h9 count_len)
          have HX9 := Lib.hid (store_one HX8.out 1 (.string { data := #[99, 111, 117, 110, 116] }))
          have F9 := Lib.hid (F5.out.below HX9.out)
          have B9 := Lib.hid (below_step B5.out HX9.out)
          have hfs := fullText_size
          clear hb h9 O7 R7 F7 HX HX8 HX9 O8 F5 B5
          go_wp2_with fail
          refine (join_is _ _ { data := #[] } 18 full_err (by rw [count_len]; omega) count_short _ F9.out R9.out).mono ?_
          rintro e w9 ⟨rfl, hb⟩
          have F10 := Lib.hid (F9.out.below hb)
          have B10 := Lib.hid (below_step B9.out hb)
          clear hb
          go_wp2_with fail
          refine (alive_any _ F10.out).mono ?_
          rintro e w10 ⟨rfl, hb⟩
          have B11 := Lib.hid (below_step B10.out hb)
          clear hb
          go_wp2_with fail
          go_ret
          exact ⟨rfl, B11.out⟩
end Go.Proofs.YtighmcooilcmfaaDoor

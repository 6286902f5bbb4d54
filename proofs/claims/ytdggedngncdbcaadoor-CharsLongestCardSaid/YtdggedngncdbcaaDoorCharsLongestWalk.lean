/-
  The walk of layer 2's statement CharsLongest: it returns true.
-/
import Derived.Test.YtdggedngncdbcaaDoorCharsLaw
namespace Go.Proofs.YtdggedngncdbcaaDoor
open Go.ChangeShapes Go.WideShapes Go.ChangeAt Go.RowKit

theorem drop_get (s : ByteArray) (k j : Nat) (h : k + j < s.size) : (s.data.toList.drop k)[j]'(by simp; omega) = s[k + j] := by
  rw [List.getElem_drop]; rfl
theorem longest_kind (s : ByteArray) (k j : Nat) (hj : j < symL (s.data.toList.drop k)) (h : k + j < s.size) : kindV (s[k + j].toNat : Int) = 4 := by
  rw [← drop_get s k j h]
  exact sym_kinds _ _ hj _
theorem ext_take (s : ByteArray) (k m : Nat) : (s.extract k (k + m)).data.toList = (s.data.toList.drop k).take m := by
  rw [ByteArray.data_extract, Array.toList_extract, List.extract_eq_take_drop]
  congr 1; omega
theorem u8_range (a : UInt8) : 0 ≤ (a.toNat : Int) ∧ (a.toNat : Int) ≤ 255 := by
  have := a.toNat_lt
  omega

set_option maxRecDepth 100000 in
set_option maxHeartbeats 1000000 in
theorem longest_out (s b : ByteArray) (at_ : Int) (h : 400 < s.size ∨ 10 < b.size ∨ at_ < 0 ∨ (s.size : Int) < at_) (w : World) (hf : Fix w) :
    Calls Tryd.prog 6 #[.string s, .int .i64 at_, .string b] w fun e w' => e = .returned (.bool true) ∧ Below w.heap.size w w' := by
  have A := Lib.hid (alive_any w hf)
  clear hf
  by_cases g1 : (400 : Int) < s.size
  · clear h
    go_enter Tryd.func6, Tryd.ntmps6
    go_wp2_with fail
    refine A.out.mono ?_
    rintro e w1 ⟨rfl, hb⟩
    go_wp2_with fail
    go_ret
    exact ⟨rfl, hb⟩
  by_cases g2 : (10 : Int) < b.size
  · clear h
    go_enter Tryd.func6, Tryd.ntmps6
    go_wp2_with fail
    refine A.out.mono ?_
    rintro e w1 ⟨rfl, hb⟩
    go_wp2_with fail
    go_ret
    exact ⟨rfl, hb⟩
  by_cases g3 : at_ < 0
  · clear h
    go_enter Tryd.func6, Tryd.ntmps6
    go_wp2_with fail
    refine A.out.mono ?_
    rintro e w1 ⟨rfl, hb⟩
    go_wp2_with fail
    go_ret
    exact ⟨rfl, hb⟩
  have g4 : (s.size : Int) < at_ := by omega
  clear h
  go_enter Tryd.func6, Tryd.ntmps6
  go_wp2_with fail
  refine A.out.mono ?_
  rintro e w1 ⟨rfl, hb⟩
  go_wp2_with fail
  go_ret
  exact ⟨rfl, hb⟩

set_option maxRecDepth 100000 in
set_option maxHeartbeats 1000000 in
theorem longest_in (s b : ByteArray) (k : Nat) (h1 : s.size ≤ 400) (h2 : b.size ≤ 10) (h3 : k ≤ s.size) (w : World) (hf : Fix w) :
    Calls Tryd.prog 6 #[.string s, .int .i64 k, .string b] w fun e w' => e = .returned (.bool true) ∧ Below w.heap.size w w' := by
  have S : ∀ W, Fix W → Calls Tryd.prog 13 #[.string s, .int .i64 k] W (SymEnds (symL (s.data.toList.drop k)) 0 W) := fun W hW => by
    have := symbol_ok s k h3 (by unfold maxLen; omega) W hW
    rwa [best_sym] at this
  have K := longest_kind s k
  have Z := sym_zero (s.data.toList.drop k)
  have T := sym_two (s.data.toList.drop k)
  have O := sym_own (s.data.toList.drop k)
  have P := sym_pair (s.data.toList.drop k)
  have N1 := (sym_le (s.data.toList.drop k)).1
  have N2 := (sym_le (s.data.toList.drop k)).2
  rw [List.length_drop, Array.length_toList] at N2
  obtain ⟨n, hn⟩ : ∃ n, symL (s.data.toList.drop k) = n := ⟨_, rfl⟩
  rw [hn] at S K Z T O P N1 N2
  have hS := Lib.hid S
  have hK := Lib.hid K
  have hZ := Lib.hid Z
  have hT := Lib.hid T
  have hO := Lib.hid O
  have hP := Lib.hid P
  have F := Lib.hid hf
  have N3 : n ≤ s.size - k := N2
  clear S K Z T O P N2 hn hf
  go_enter Tryd.func6, Tryd.ntmps6
  go_wp2_with fail
  refine (hS.out _ F.out).mono ?_
  rintro e w1 ⟨rfl, hd⟩
  have B1 := Lib.hid (hd.below w.heap.size)
  have F1 := Lib.hid (F.out.draws hd)
  clear hd hS
  go_wp2_with fail
  go_loopg [9] n (fun g i wx => ∃ j : Nat, j + g = n ∧ i = .int .i64 j ∧ Hid (Below w.heap.size w wx) ∧ Hid (Fix wx))
  case atStart => exact ⟨0, by omega, rfl, B1, F1⟩
  case round =>
    obtain ⟨j, hj, rfl, BX, FX⟩ := hrel
    cases gk with
    | succ g =>
      have hlt : j < n := by omega
      have hi : k + j < s.size := by omega
      have hk := Lib.hid (kind_is (s[k + j].toNat : Int) 4 ⟨u8_range _, hK.out j hlt hi⟩)
      go_wp2_with fail
      refine (hk.out _).mono ?_
      rintro e w2 ⟨rfl, hb⟩
      have BY := Lib.hid (below_step BX.out hb)
      have FY := Lib.hid (FX.out.below hb)
      clear hb
      go_wp2_with fail
      go_roundg g
      case measure => omega
      case rel => exact ⟨j + 1, by omega, by go_num, BY, FY⟩
    | zero =>
      obtain rfl : j = n := by omega
      clear hj
      have hj3 : j = 0 ∨ j = 1 ∨ j = 2 := by omega
      rcases hj3 with rfl | rfl | rfl
      · by_cases hend : k = s.size
        · have q1 : ((k : Int) == s.size) = true := by rw [beq_iff_eq]; omega
          clear hend
          go_wp2_with fail
          refine (alive_any _ FX.out).mono ?_
          rintro e w2 ⟨rfl, hb⟩
          have BY := Lib.hid (below_step BX.out hb)
          clear hb
          go_wp2_with fail
          go_ret
          exact ⟨rfl, BY.out⟩
        · have q1 : ((k : Int) == s.size) = false := by rw [beq_eq_false_iff_ne]; omega
          have hi : k < s.size := by omega
          have hk := Lib.hid (kind_any (s[k].toNat : Int) (u8_range _).1 (u8_range _).2)
          cases q2 : (kindV (s[k].toNat : Int) != 4)
          · have q3 : ((s[k].toNat : Int) == 33) = true := by
              have hz := hZ.out rfl (by simp; omega) (by
                have := drop_get s k 0 (by omega)
                rw [this]
                simpa using q2)
              have e0 := drop_get s k 0 (by omega)
              rw [e0] at hz
              have : s[k] = 33 := hz
              rw [this]; rfl
            clear hend
            go_wp2_with fail
            refine (hk.out _).mono ?_
            rintro e w2 ⟨rfl, hb⟩
            have BY := Lib.hid (below_step BX.out hb)
            have FY := Lib.hid (FX.out.below hb)
            clear hb
            go_wp2_with fail
            refine (alive_any _ FY.out).mono ?_
            rintro e w3 ⟨rfl, hb⟩
            have BZ := Lib.hid (below_step BY.out hb)
            clear hb
            go_wp2_with fail
            go_ret
            exact ⟨rfl, BZ.out⟩
          · clear hend
            go_wp2_with fail
            refine (hk.out _).mono ?_
            rintro e w2 ⟨rfl, hb⟩
            have BY := Lib.hid (below_step BX.out hb)
            have FY := Lib.hid (FX.out.below hb)
            clear hb
            go_wp2_with fail
            refine (alive_any _ FY.out).mono ?_
            rintro e w3 ⟨rfl, hb⟩
            have BZ := Lib.hid (below_step BY.out hb)
            clear hb
            go_wp2_with fail
            go_ret
            exact ⟨rfl, BZ.out⟩
      · have L := Lib.hid (length_is (s.extract k (k + 1)) 0 1 ⟨by unfold maxLen; simp; omega, by rw [lenV_zero, ext_take]; exact congrArg Int.ofNat hO.out⟩)
        by_cases hl : (s.size : Int) - k < 2
        · go_wp2_with fail
          refine (L.out _ FX.out).mono ?_
          rintro e w2 ⟨rfl, hd⟩
          have BY := Lib.hid (below_step BX.out (hd.below _))
          have FY := Lib.hid (FX.out.draws hd)
          clear hd
          go_wp2_with fail
          refine (alive_any _ FY.out).mono ?_
          rintro e w3 ⟨rfl, hb⟩
          have BZ := Lib.hid (below_step BY.out hb)
          clear hb
          go_wp2_with fail
          go_ret
          exact ⟨rfl, BZ.out⟩
        · have M := Lib.hid (length_is (s.extract k (k + 2)) 0 1 ⟨by unfold maxLen; simp; omega, by rw [lenV_zero, ext_take]; exact congrArg Int.ofNat (hP.out rfl (by simp; omega))⟩)
          go_wp2_with fail
          refine (L.out _ FX.out).mono ?_
          rintro e w2 ⟨rfl, hd⟩
          have BY := Lib.hid (below_step BX.out (hd.below _))
          have FY := Lib.hid (FX.out.draws hd)
          clear hd
          go_wp2_with fail
          refine (M.out _ FY.out).mono ?_
          rintro e w3 ⟨rfl, hd⟩
          have BZ := Lib.hid (below_step BY.out (hd.below _))
          have FZ := Lib.hid (FY.out.draws hd)
          clear hd
          go_wp2_with fail
          refine (alive_any _ FZ.out).mono ?_
          rintro e w4 ⟨rfl, hb⟩
          have BU := Lib.hid (below_step BZ.out hb)
          clear hb
          go_wp2_with fail
          go_ret
          exact ⟨rfl, BU.out⟩
      · have es : (s.extract k (k + 2)).size = 2 := by simp; omega
        have L := Lib.hid (length_is (s.extract k (k + 2) ++ b) 0 2 ⟨by unfold maxLen; rw [ByteArray.size_append, es]; omega, by rw [lenV_zero, ByteArray.data_append, Array.toList_append, ext_take]; exact congrArg Int.ofNat (hT.out rfl b.data.toList)⟩)
        have M := Lib.hid (length_is (s.extract k (k + 2)) 0 2 ⟨by unfold maxLen; rw [es]; omega, by rw [lenV_zero, ext_take]; exact congrArg Int.ofNat hO.out⟩)
        have hsum : (s.extract k (k + 2)).size + b.size ≤ 9223372036854775807 := by omega
        clear es
        go_wp2_with fail
        refine (L.out _ FX.out).mono ?_
        rintro e w2 ⟨rfl, hd⟩
        have BY := Lib.hid (below_step BX.out (hd.below _))
        have FY := Lib.hid (FX.out.draws hd)
        clear hd
        go_wp2_with fail
        refine (M.out _ FY.out).mono ?_
        rintro e w3 ⟨rfl, hd⟩
        have BZ := Lib.hid (below_step BY.out (hd.below _))
        have FZ := Lib.hid (FY.out.draws hd)
        clear hd
        go_wp2_with fail
        refine (alive_any _ FZ.out).mono ?_
        rintro e w4 ⟨rfl, hb⟩
        have BU := Lib.hid (below_step BZ.out hb)
        clear hb
        go_wp2_with fail
        go_ret
        exact ⟨rfl, BU.out⟩
theorem longest_walk (s : ByteArray) (at_ : Int) (b : ByteArray) (w : World) (hf : Fix w) :
    Calls Tryd.prog 6 #[.string s, .int .i64 at_, .string b] w fun e w' => e = .returned (.bool true) ∧ Below w.heap.size w w' := by
  by_cases h : 400 < s.size ∨ 10 < b.size ∨ at_ < 0 ∨ (s.size : Int) < at_
  · exact longest_out s b at_ h w hf
  · have := longest_in s b at_.toNat (by omega) (by omega) (by omega) w hf
    rwa [show ((at_.toNat : Nat) : Int) = at_ by omega] at this
end Go.Proofs.YtdggedngncdbcaaDoor

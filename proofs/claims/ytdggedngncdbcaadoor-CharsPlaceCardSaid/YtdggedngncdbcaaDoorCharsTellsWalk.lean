/-
  The walks of layer 2's statements CharsTells and CharsPlace: each returns true.
-/
import Derived.Test.YtdggedngncdbcaaDoorCharsLaw
namespace Go.Proofs.YtdggedngncdbcaaDoor
open Go.ChangeShapes Go.WideShapes Go.ChangeAt Go.RowKit

set_option maxRecDepth 100000 in
set_option maxHeartbeats 1000000 in
theorem tells_walk (c : Int) (h0 : 0 ≤ c) (h255 : c ≤ 255) (s t : ByteArray) (at_ : Int) (hs : s.size ≤ maxLen) (w : World) (hf : Fix w) :
    Calls Tryd.prog 4 #[.int .u8 c, .string s, .string t, .int .i64 at_] w fun e w' => e = .returned (.bool true) ∧ Below w.heap.size w w' := by
  by_cases g1 : (400 : Int) < s.size
  · clear hf
    go_enter Tryd.func4, Tryd.ntmps4
    go_wp2_with fail
    go_ret
    exact ⟨rfl, Below.refl _ _⟩
  by_cases g2 : (400 : Int) < t.size
  · clear hf
    go_enter Tryd.func4, Tryd.ntmps4
    go_wp2_with fail
    go_ret
    exact ⟨rfl, Below.refl _ _⟩
  have F := Lib.hid hf
  have S := Lib.hid (symbol_any s at_ hs)
  have R := Lib.hid (refSymbol_any s at_ hs)
  have K := Lib.hid (kind_any c h0 h255)
  have RK := Lib.hid (refKind_any c h0 h255)
  clear hf hs h0 h255
  go_enter Tryd.func4, Tryd.ntmps4
  go_wp2_with fail
  refine (S.out _ F.out).mono ?_
  rintro e w1 ⟨rfl, hd⟩
  have B1 := Lib.hid (hd.below w.heap.size)
  have F1 := Lib.hid (F.out.draws hd)
  clear hd
  go_wp2_with fail
  refine (R.out _).mono ?_
  rintro e w2 ⟨rfl, hb⟩
  have B2 := Lib.hid (below_step B1.out hb)
  have F2 := Lib.hid (F1.out.below hb)
  clear hb
  go_wp2_with fail
  refine (K.out _).mono ?_
  rintro e w3 ⟨rfl, hb⟩
  have B3 := Lib.hid (below_step B2.out hb)
  have F3 := Lib.hid (F2.out.below hb)
  clear hb
  go_wp2_with fail
  refine (RK.out _).mono ?_
  rintro e w4 ⟨rfl, rfl⟩
  go_wp2_with fail
  refine (word_any t _ F3.out).mono ?_
  rintro e w5 ⟨rfl, rfl⟩
  go_wp2_with fail
  refine (refWord_any t _).mono ?_
  rintro e w6 ⟨rfl, hb⟩
  have B6 := Lib.hid (below_step B3.out hb)
  clear hb
  go_wp2_with fail
  go_ret
  exact ⟨by simp, B6.out⟩

theorem place_eq (f s : ByteArray) : lenV (f ++ s).data.toList f.size = lenV s.data.toList 0 := by
  have e : (f ++ s).data.toList = f.data.toList ++ s.data.toList := by simp
  have el : f.data.toList.length = f.size := by simp
  rw [lenV_zero, e, ← el, lenV_nat _ _ (by simp), List.drop_left]
set_option maxRecDepth 100000 in
set_option maxHeartbeats 1000000 in
theorem place_walk (f s : ByteArray) (w : World) (hf : Fix w) :
    Calls Tryd.prog 7 #[.string f, .string s] w fun e w' => e = .returned (.bool true) ∧ Below w.heap.size w w' := by
  by_cases g1 : (200 : Int) < f.size
  · have A := Lib.hid (alive_any w hf)
    clear hf
    go_enter Tryd.func7, Tryd.ntmps7
    go_wp2_with fail
    refine A.out.mono ?_
    rintro e w1 ⟨rfl, hb⟩
    go_wp2_with fail
    go_ret
    exact ⟨rfl, hb⟩
  by_cases g2 : (200 : Int) < s.size
  · have A := Lib.hid (alive_any w hf)
    clear hf
    go_enter Tryd.func7, Tryd.ntmps7
    go_wp2_with fail
    refine A.out.mono ?_
    rintro e w1 ⟨rfl, hb⟩
    go_wp2_with fail
    go_ret
    exact ⟨rfl, hb⟩
  have F := Lib.hid hf
  have E := Lib.hid (place_eq f s)
  have hsum : f.size + s.size ≤ 9223372036854775807 := by omega
  have L1 := Lib.hid (length_any (f ++ s) f.size (by unfold maxLen; rw [ByteArray.size_append]; omega))
  have L2 := Lib.hid (length_any s 0 (by unfold maxLen; omega))
  clear hf
  go_enter Tryd.func7, Tryd.ntmps7
  go_wp2_with fail
  refine (L1.out _ F.out).mono ?_
  rintro e w1 ⟨rfl, hd⟩
  have B1 := Lib.hid (hd.below w.heap.size)
  have F1 := Lib.hid (F.out.draws hd)
  clear hd
  go_wp2_with fail
  refine (L2.out _ F1.out).mono ?_
  rintro e w2 ⟨rfl, hd⟩
  have B2 := Lib.hid (below_step B1.out (hd.below _))
  have F2 := Lib.hid (F1.out.draws hd)
  clear hd
  have G : (lenV (f ++ s).data.toList f.size == lenV s.data.toList 0) = true := by rw [E.out]; exact beq_self_eq_true _
  go_wp2_with fail
  refine (alive_any _ F2.out).mono ?_
  rintro e w3 ⟨rfl, hb⟩
  have B3 := Lib.hid (below_step B2.out hb)
  clear hb
  go_wp2_with fail
  go_ret
  exact ⟨rfl, B3.out⟩
end Go.Proofs.YtdggedngncdbcaaDoor

/-
  Contract of the reference of layer 3: Join.
-/
import Derived.Test.YtighmcooilcmfaaDoorRefToks
import Derived.Outline
namespace Go.Proofs.YtighmcooilcmfaaDoor
open Go.ChangeShapes Go.WideShapes Go.ChangeAt Go.RowKit

def JoinEnds (ts : List Tok) (w : World) (e : Ending) (w' : World) : Prop := e = .returned (.tuple #[.string ⟨(joinV ts).1.toArray⟩, .int .i64 (joinV ts).2]) ∧ Below w.heap.size w w'
theorem empty_text : (⟨([] : List UInt8).toArray⟩ : ByteArray) = { data := #[] } := rfl
set_option maxRecDepth 100000 in
set_option maxHeartbeats 1000000 in
theorem refJoin_any (v : Value) (ts : List Tok) (w : World) (hR : Reads w v ts) (hn : ts.length ≤ 9223372036854775807) (hx : ∀ t ∈ ts, t.text.length ≤ 1000000) :
    Calls Tryd.prog 17 #[v] w (JoinEnds ts w) := by
  obtain ⟨ad, cap, rfl⟩ := hR.shape
  by_cases hbig : (200 : Int) < ts.length
  · have HV : Hid (joinV ts = ([], 4)) := Lib.hid (by unfold joinV; rw [if_pos (by omega)])
    clear hR hx
    go_enter Tryd.func17, Tryd.ntmps17
    go_wp2_with fail
    go_ret2
    exact ⟨by rw [HV.out]; rfl, Below.refl _ _⟩
  have HR := Lib.hid hR
  have HX := Lib.hid hx
  clear hR hx
  go_enter Tryd.func17, Tryd.ntmps17
  go_wp2_with fail
  go_loopg [5] ts.length (fun g i wx => ∃ k : Nat, k + g = ts.length ∧ i = .int .i64 k ∧ Hid ((ts.take k).all validT = true) ∧ Hid (Below w.heap.size w wx))
  case atStart => exact ⟨0, by omega, rfl, Lib.hid rfl, Lib.hid (Below.refl _ _)⟩
  case round =>
    obtain ⟨k, hk, rfl, HK, HB⟩ := hrel
    cases gk with
    | succ g =>
      have hlt : k < ts.length := by omega
      obtain ⟨b, o, cap', x, hv, hx, hb, c0, c1, c2⟩ := (HR.out.below HB.out).tok k hlt
      cases hv
      have hxs : x.size = ts[k].text.length := by rw [← hx]; simp
      have V := Lib.hid (valid_any ts[k].kind ts[k].at_ x (by rw [hxs]; exact HX.out _ (List.getElem_mem _)))
      have hV : validB ts[k].kind x.data.toList = validT ts[k] := by rw [hx]; rfl
      cases hq : validT ts[k]
      · rw [hV, hq] at V
        have HV : Hid (joinV ts = ([], 8)) := Lib.hid (by
          unfold joinV
          rw [if_neg (by omega), if_pos]
          rw [List.all_eq_false]
          exact ⟨_, List.getElem_mem hlt, by rw [hq]; simp⟩)
        clear hV hx hxs hq
        go_wp2_with fail
        refine (V.out _).mono ?_
        rintro e w2 ⟨rfl, hb2⟩
        have HB2 := Lib.hid (below_step HB.out hb2)
        clear hb2
        go_wp2_with fail
        go_ret2
        exact ⟨by rw [HV.out]; rfl, HB2.out⟩
      · rw [hV, hq] at V
        have HK2 : Hid ((ts.take (k + 1)).all validT = true) := Lib.hid (by
          rw [List.take_succ_eq_append_getElem hlt, List.all_append, HK.out]
          simp [hq])
        clear hV hx hxs hq
        go_wp2_with fail
        refine (V.out _).mono ?_
        rintro e w2 ⟨rfl, hb2⟩
        have HB2 := Lib.hid (below_step HB.out hb2)
        clear hb2
        go_wp2_with fail
        go_roundg g
        case measure => omega
        case rel => exact ⟨k + 1, by omega, by go_num, HK2, HB2⟩
    | zero =>
      obtain rfl : k = ts.length := by omega
      have HA : Hid (ts.all validT = true) := Lib.hid (by have := HK.out; rwa [List.take_length] at this)
      have HR2 := Lib.hid (HR.out.below HB.out)
      clear hk HR HK
      go_wp2_with fail
      go_loopg [4, 6] ts.length (fun g s4 i wx => ∃ (k : Nat) (a : ByteArray), k + g = ts.length ∧ i = .int .i64 k ∧ s4 = .string a ∧ a.size ≤ k * 1000001 ∧ Hid (a.data.toList = joinN ts k) ∧ wr = wx)
      case atStart => exact ⟨0, { data := #[] }, by omega, rfl, rfl, Nat.zero_le _, Lib.hid rfl, rfl⟩
      case round =>
        obtain ⟨k, a, hk, rfl, rfl, has, HJ, rfl⟩ := hrel
        cases gk with
        | succ g =>
          have hlt : k < ts.length := by omega
          obtain ⟨b, o, cap', x, hv, hx, hb, c0, c1, c2⟩ := HR2.out.tok k hlt
          cases hv
          have hxs : x.size ≤ 1000000 := by
            have h1 : x.size = ts[k].text.length := by rw [← hx]; simp
            rw [h1]; exact HX.out _ (List.getElem_mem _)
          by_cases hz : (0 : Int) < k
          · have hz2 : 0 < k := by omega
            have H : Hid ((a ++ { data := #[32] } ++ x : ByteArray).data.toList = joinN ts (k + 1)) := Lib.hid (by
              rw [joinN_succ hz2 hlt, ← HJ.out, ← hx]; simp)
            have hs2 : (a ++ { data := #[32] } ++ x : ByteArray).size ≤ (k + 1) * 1000001 := by
              rw [ByteArray.size_append, ByteArray.size_append]
              have : ({ data := #[32] } : ByteArray).size = 1 := rfl
              omega
            clear hx
            go_wp2_with fail
            go_roundg g
            case measure => omega
            case rel => exact ⟨k + 1, a ++ { data := #[32] } ++ x, by omega, by go_num, rfl, hs2, H, rfl⟩
          · obtain rfl : k = 0 := by omega
            have H : Hid ((a ++ x : ByteArray).data.toList = joinN ts 1) := Lib.hid (by
              rw [joinN_one hlt, ← hx]
              have h0 : a.data.toList = [] := HJ.out
              simp [h0])
            have hs3 : (a ++ x : ByteArray).size ≤ 1 * 1000001 := by rw [ByteArray.size_append]; omega
            clear hx
            go_wp2_with fail
            go_roundg g
            case measure => omega
            case rel => exact ⟨1, a ++ x, by omega, by go_num, rfl, hs3, H, rfl⟩
        | zero =>
          obtain rfl : k = ts.length := by omega
          clear hk
          have el : (joinN ts ts.length).length = a.size := by rw [← HJ.out]; simp
          by_cases h4 : (400 : Int) < a.size
          · have HV : Hid (joinV ts = ([], 18)) := Lib.hid (by unfold joinV; rw [if_neg (by omega), if_neg (by rw [HA.out]; simp), if_pos (by omega)])
            clear el
            go_wp2_with fail
            go_ret2
            exact ⟨by rw [HV.out]; rfl, HB.out⟩
          · have HV : Hid (joinV ts = (a.data.toList, 0)) := Lib.hid (by unfold joinV; rw [if_neg (by omega), if_neg (by rw [HA.out]; simp), if_neg (by omega), HJ.out])
            clear el
            go_wp2_with fail
            go_ret2
            exact ⟨by rw [HV.out]; rfl, HB.out⟩
end Go.Proofs.YtighmcooilcmfaaDoor

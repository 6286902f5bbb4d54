/-
  Contracts of the helpers of layer 3's statements: fails, joined, many, alive.
-/
import Derived.Test.YtighmcooilcmfaaDoorLexCallAll
import Derived.Test.YtighmcooilcmfaaDoorLexCallJoin
import Derived.Test.YtighmcooilcmfaaDoorLexAll
import Derived.Outline
namespace Go.Proofs.YtighmcooilcmfaaDoor
open Go.ChangeShapes Go.WideShapes Go.ChangeAt Go.RowKit

/-- The texts of All's tokens are parts of the text. -/
theorem covers_text (l : List UInt8) : ∀ (ts : List Tok) (a : Nat), Covers l a ts → (∀ t ∈ ts, t.text.length ≤ l.length) ∧ a + ts.length ≤ max a l.length
  | [], a, _ => ⟨by intro t ht; simp at ht, by simp; omega⟩
  | t :: ts, a, h => by
    obtain ⟨p, _, h1, h2, _, h3, _, _, h4⟩ := h
    obtain ⟨q1, q2⟩ := covers_text l ts _ h4
    refine ⟨?_, by simp only [List.length_cons]; omega⟩
    intro u hu
    rcases List.mem_cons.1 hu with rfl | hu
    · omega
    · exact q1 u hu
theorem all_texts (l : List UInt8) : (∀ t ∈ (allV l).1, t.text.length ≤ l.length) ∧ (allV l).1.length ≤ l.length := by
  by_cases he : (allV l).2.2 = 0
  · obtain ⟨q1, q2⟩ := covers_text l _ _ (all_covers he).1
    exact ⟨q1, by omega⟩
  · rw [all_none he]
    exact ⟨by intro t ht; simp at ht, Nat.zero_le _⟩
theorem fails_is (s : ByteArray) (at_ want : Int) (h : s.size ≤ 1000000 ∧ (allV s.data.toList).2.1 = at_ ∧ (allV s.data.toList).2.2 = want ∧ want ≠ 0) (w : World) (hf : LexFix w) :
    Calls Tryd.prog 10 #[.string s, .int .i64 at_, .int .i64 want] w fun e w' => e = .returned (.bool true) ∧ Below w.heap.size w w' := by
  obtain ⟨h0, h1, h2, h3⟩ := h
  have A : Hid (∀ W : World, LexFix W → Calls Tryd.prog 15 #[.string s] W fun e w' => e = .returned (.tuple #[.slice none 0 0, .int .i64 at_, .int .i64 want]) ∧ Below W.heap.size W w') := Lib.hid fun W hW => by
    refine (lexAll_any s (by unfold maxLen; omega) W hW).mono ?_
    rintro e w' ⟨v, rfl, _, hb, hv⟩
    rw [h1, h2] at *
    rw [hv h3]
    exact ⟨rfl, hb⟩
  have F := Lib.hid hf
  clear h1 h2 h3 hf
  go_enter Tryd.func10, Tryd.ntmps10
  go_wp2_with fail
  refine (A.out _ F.out).mono ?_
  rintro e w1 ⟨rfl, hb⟩
  go_wp2_with fail
  go_ret
  exact ⟨rfl, hb⟩

/-- What joined returns. -/
def joinedV (l : List UInt8) : List UInt8 := if (allV l).2.2 = 0 ∧ (joinV (allV l).1).2 = 0 ∧ (allV l).2.1 = l.length then (joinV (allV l).1).1 else [63]
theorem joined_is (s r : ByteArray) (h : s.size ≤ 1000000 ∧ joinedV s.data.toList = r.data.toList) (w : World) (hf : LexFix w) :
    Calls Tryd.prog 9 #[.string s] w fun e w' => e = .returned (.string r) ∧ Below w.heap.size w w' := by
  obtain ⟨h0, h1⟩ := h
  have hr : r = ⟨(joinedV s.data.toList).toArray⟩ := by rw [h1]
  have el : s.data.toList.length = s.size := by simp
  have A := Lib.hid (lexAll_any s (by unfold maxLen; omega))
  have J := Lib.hid (lexJoin_any)
  have T := Lib.hid (all_texts s.data.toList)
  have F := Lib.hid hf
  have HR := Lib.hid hr
  have HE := Lib.hid el
  clear h1 hr hf el
  go_enter Tryd.func9, Tryd.ntmps9
  go_wp2_with fail
  refine (A.out _ F.out).mono ?_
  rintro e w1 ⟨v, rfl, hO, hb, _⟩
  have R1 := Lib.hid (own_reads hO)
  have F1 := Lib.hid (F.out.below hb)
  have B1 := Lib.hid hb
  clear hb hO
  go_wp2_with fail
  refine (J.out v _ _ F1.out R1.out (by have := T.out.2; rw [HE.out] at this; omega) (fun t ht => by have := T.out.1 t ht; rw [HE.out] at this; omega)).mono ?_
  rintro e w2 ⟨rfl, hb⟩
  have B2 := Lib.hid (below_step B1.out hb)
  clear hb
  cases q1 : ((allV s.data.toList).2.2 != 0)
  · cases q2 : ((joinV (allV s.data.toList).1).2 != 0)
    · cases q3 : (((allV s.data.toList).2.1 : Int) != s.size)
      · have HV : Hid (joinedV s.data.toList = (joinV (allV s.data.toList).1).1) := Lib.hid (by
          rw [bne_eq_false_iff_eq] at q1 q2 q3
          unfold joinedV
          rw [if_pos ⟨q1, q2, by rw [HE.out]; omega⟩])
        go_wp2_with fail
        go_ret
        exact ⟨by rw [HR.out, HV.out]; rfl, B2.out⟩
      · have HV : Hid (joinedV s.data.toList = [63]) := Lib.hid (by
          rw [bne_iff_ne] at q3
          unfold joinedV
          rw [if_neg (fun h => q3 (by rw [h.2.2, HE.out]))])
        go_wp2_with fail
        go_ret
        exact ⟨by rw [HR.out, HV.out]; rfl, B2.out⟩
    · have HV : Hid (joinedV s.data.toList = [63]) := Lib.hid (by
        rw [bne_iff_ne] at q2
        unfold joinedV
        rw [if_neg (fun h => q2 h.2.1)])
      go_wp2_with fail
      go_ret
      exact ⟨by rw [HR.out, HV.out]; rfl, B2.out⟩
  · have HV : Hid (joinedV s.data.toList = [63]) := Lib.hid (by
      rw [bne_iff_ne] at q1
      unfold joinedV
      rw [if_neg (fun h => q1 h.1)])
    go_wp2_with fail
    go_ret
    exact ⟨by rw [HR.out, HV.out]; rfl, B2.out⟩

/-! ### many -/
def rep (l : List UInt8) : Nat → List UInt8
  | 0 => []
  | n + 1 => rep l n ++ l
set_option maxRecDepth 100000 in
theorem many_is (s r : ByteArray) (n : Nat) (hn : n ≤ 1000) (hs : s.size ≤ 1000) (h : rep s.data.toList n = r.data.toList) (w : World) :
    Calls Tryd.prog 11 #[.string s, .int .i64 n] w fun e w' => e = .returned (.string r) ∧ w = w' := by
  have hr : r = ⟨(rep s.data.toList n).toArray⟩ := by rw [h]
  have HR := Lib.hid hr
  clear h hr
  go_enter Tryd.func11, Tryd.ntmps11
  go_wp2_with fail
  go_loopg [5, 6] n (fun g s5 i wx => ∃ (k : Nat) (a : ByteArray), k + g = n ∧ i = .int .i64 k ∧ s5 = .string a ∧ a.size ≤ k * 1000 ∧ Hid (a.data.toList = rep s.data.toList k) ∧ w = wx)
  case atStart => exact ⟨0, { data := #[] }, by omega, rfl, rfl, Nat.zero_le _, Lib.hid rfl, rfl⟩
  case round =>
    obtain ⟨k, a, hk, rfl, rfl, has, HA, rfl⟩ := hrel
    cases gk with
    | succ g =>
      have H : Hid ((a ++ s : ByteArray).data.toList = rep s.data.toList (k + 1)) := Lib.hid (by
        rw [ByteArray.data_append, Array.toList_append, HA.out]; rfl)
      have hs2 : (a ++ s : ByteArray).size ≤ (k + 1) * 1000 := by rw [ByteArray.size_append]; omega
      go_wp2_with fail
      go_roundg g
      case measure => omega
      case rel => exact ⟨k + 1, a ++ s, by omega, by go_num, rfl, hs2, H, rfl⟩
    | zero =>
      obtain rfl : k = n := by omega
      have H : Hid (a = r) := Lib.hid (by rw [HR.out, ← HA.out])
      clear hk
      go_wp2_with fail
      go_ret
      exact ⟨by rw [← H.out]; rfl, rfl⟩

/-! ### alive -/
theorem LexFix.step {w w' : World} (h : LexFix w) (hb : Below w.heap.size w w') : LexFix w' := h.below hb
def sample : ByteArray := { data := #[115, 117, 109, 40, 118, 41, 60, 61, 49, 50] }
theorem sample_all : (allV sample.data.toList).2 = (10, 0) ∧ (allV sample.data.toList).1.map full = [(2, [115, 117, 109], 0), (3, [40], 3), (2, [118], 4), (3, [41], 5), (3, [60, 61], 6), (1, [49, 50], 8)] := by decide +kernel
set_option maxRecDepth 100000 in
set_option maxHeartbeats 1000000 in
theorem alive_any (w : World) (hf : LexFix w) :
    Calls Tryd.prog 13 #[] w fun e w' => e = .returned (.bool true) ∧ Below w.heap.size w w' := by
  have F := Lib.hid hf
  have A : Hid (∀ W : World, LexFix W → Calls Tryd.prog 15 #[.string { data := #[115, 117, 109, 40, 118, 41, 60, 61, 49, 50] }] W fun e w' => ∃ b cap, e = .returned (.tuple #[.slice (some ⟨b, 0, none⟩) 6 cap, .int .i64 10, .int .i64 0]) ∧
      w'.cell? ⟨b, 15, none⟩ = some (.int .u8 1) ∧ w'.cell? ⟨b, 16, none⟩ = some (.string { data := #[49, 50] }) ∧ w'.cell? ⟨b, 17, none⟩ = some (.int .i64 8) ∧ b < w'.heap.size ∧ Below W.heap.size W w') := Lib.hid fun W hW => by
    refine (lexAll_any sample (by decide) W hW).mono ?_
    rintro e w' ⟨v, rfl, hO, hb, _⟩
    obtain ⟨s1, s2⟩ := sample_all
    have hlen : (allV sample.data.toList).1.length = 6 := by simpa using congrArg List.length s2
    have h5 : full ((allV sample.data.toList).1[5]'(by omega)) = (1, [49, 50], 8) := by
      have := congrArg (·[5]?) s2
      simp only [List.getElem?_map] at this
      rw [List.getElem?_eq_getElem (by omega)] at this
      simpa using this
    obtain ⟨b, o, cap, x, hv, hx, hbs, c0, c1, c2⟩ := (own_reads hO).tok 5 (by omega)
    have ho : o = 0 := by
      rcases hO.2 with ⟨h1, _⟩ | ⟨g, cap2, _, h1, _⟩
      · rw [hv] at h1; cases h1
      · rw [hv] at h1; cases h1; rfl
    subst ho
    unfold full at h5
    simp only [Prod.mk.injEq] at h5
    obtain ⟨k1, k2, k3⟩ := h5
    rw [k1] at c0
    rw [k3] at c2
    rw [k2] at hx
    have hx2 : x = { data := #[49, 50] } := ByteArray.ext (Array.toList_inj.1 hx)
    rw [hx2] at c1
    refine ⟨b, cap, ?_, c0, c1, c2, hbs, hb⟩
    rw [s1, hv, hlen]; rfl
  clear hf
  go_enter Tryd.func13, Tryd.ntmps13
  go_wp2_with fail
  refine (A.out _ F.out).mono ?_
  rintro e w1 ⟨b, cap, rfl, c0, c1, c2, hbs, hb⟩
  have F1 := Lib.hid (F.out.below hb)
  have B1 := Lib.hid hb
  have C : Hid (w1.cell? ⟨b, 15, none⟩ = some (.int .u8 1) ∧ w1.cell? ⟨b, 16, none⟩ = some (.string { data := #[49, 50] }) ∧ w1.cell? ⟨b, 17, none⟩ = some (.int .i64 8) ∧ b < w1.heap.size) := Lib.hid ⟨c0, c1, c2, hbs⟩
  clear hb c0 c1 c2 hbs
  go_wp2_with fail
  refine (joined_is _ { data := #[115, 117, 109, 32, 40, 32, 118, 32, 41, 32, 60, 61, 32, 49, 50] } (by decide +kernel) _ F1.out).mono ?_
  rintro e w2 ⟨rfl, hb⟩
  have F2 := Lib.hid (F1.out.below hb)
  have B2 := Lib.hid (below_step B1.out hb)
  have d0 := (hb.cell (p := ⟨b, 15, none⟩) C.out.2.2.2).trans C.out.1
  have d1 := (hb.cell (p := ⟨b, 16, none⟩) C.out.2.2.2).trans C.out.2.1
  have d2 := (hb.cell (p := ⟨b, 17, none⟩) C.out.2.2.2).trans C.out.2.2.1
  clear hb
  go_wp2_with fail
  refine (joined_is _ { data := #[49, 50, 32, 97] } (by decide +kernel) _ F2.out).mono ?_
  rintro e w3 ⟨rfl, hb⟩
  have F3 := Lib.hid (F2.out.below hb)
  have B3 := Lib.hid (below_step B2.out hb)
  clear hb d0 d1 d2
  go_wp2_with fail
  refine (fails_is _ _ _ (by decide +kernel) _ F3.out).mono ?_
  rintro e w4 ⟨rfl, hb⟩
  have F4 := Lib.hid (F3.out.below hb)
  have B4 := Lib.hid (below_step B3.out hb)
  clear hb
  go_wp2_with fail
  refine (fails_is _ _ _ (by decide +kernel) _ F4.out).mono ?_
  rintro e w5 ⟨rfl, hb⟩
  have B5 := Lib.hid (below_step B4.out hb)
  clear hb
  go_wp2_with fail
  go_ret
  exact ⟨rfl, B5.out⟩
end Go.Proofs.YtighmcooilcmfaaDoor

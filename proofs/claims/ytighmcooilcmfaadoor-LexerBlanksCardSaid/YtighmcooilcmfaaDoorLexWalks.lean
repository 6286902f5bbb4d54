/-
  The walks of layer 3's statements LexerFinds and LexerJoin: each returns true.
-/
import Derived.Test.YtighmcooilcmfaaDoorLexHelp
import Derived.Outline
namespace Go.Proofs.YtighmcooilcmfaaDoor
open Go.ChangeShapes Go.WideShapes Go.ChangeAt Go.RowKit

theorem not_great {ts : List Tok} (h : greatB ts = false) : ts.length ≤ 220 ∧ ∀ t ∈ ts, t.text.length ≤ 500 := by
  unfold greatB at h
  rw [Bool.or_eq_false_iff, decide_eq_false_iff_not] at h
  obtain ⟨h1, h2⟩ := h
  have hl : ts.length ≤ 220 := by omega
  rw [List.take_of_length_le hl] at h2
  refine ⟨hl, fun t ht => ?_⟩
  have := List.any_eq_false.1 h2 t ht
  unfold bigTok at this
  simp at this
  exact this

set_option maxRecDepth 100000 in
set_option maxHeartbeats 1000000 in
theorem finds_walk (s : ByteArray) (v : Value) (ts : List Tok) (w : World) (hf : LexFix w) (hR : Reads w v ts) (hn : ts.length ≤ 9223372036854775807) :
    Calls Tryd.prog 4 #[.string s, v] w fun e w' => e = .returned (.bool true) ∧ Below w.heap.size w w' := by
  by_cases hbig : (1000 : Int) < s.size
  · clear hf hR hn
    go_enter Tryd.func4, Tryd.ntmps4
    go_wp2_with fail
    go_ret
    exact ⟨rfl, Below.refl _ _⟩
  have G := great_any v ts w hR hn
  cases hg : greatB ts
  · rw [hg] at G
    have GR := Lib.hid G
    obtain ⟨h1, h2⟩ := not_great hg
    have A := Lib.hid (lexAll_any s (by unfold maxLen; omega))
    have B := Lib.hid (refAll_any s (by omega))
    have F := Lib.hid hf
    have R := Lib.hid hR
    have X : Hid (∀ t ∈ ts, t.text.length ≤ 1000000) := Lib.hid fun t ht => by have := h2 t ht; omega
    have T := Lib.hid (all_texts s.data.toList)
    have HE : Hid (s.data.toList.length = s.size) := Lib.hid (by simp)
    clear G hf hR hg h1 h2
    go_enter Tryd.func4, Tryd.ntmps4
    go_wp2_with fail
    refine GR.out.mono ?_
    rintro e w1 ⟨rfl, rfl⟩
    go_wp2_with fail
    refine (A.out _ F.out).mono ?_
    rintro e w2 ⟨va, rfl, hO, hb, _⟩
    have RA := Lib.hid (own_reads hO)
    have F2 := Lib.hid (F.out.below hb)
    have R2 := Lib.hid (R.out.below hb)
    have B2 := Lib.hid hb
    clear hb hO
    go_wp2_with fail
    refine (B.out _).mono ?_
    rintro e w3 ⟨vb, rfl, hO, hb, _⟩
    have RB := Lib.hid (own_reads hO)
    have RA3 := Lib.hid (RA.out.below hb)
    have F3 := Lib.hid (F2.out.below hb)
    have R3 := Lib.hid (R2.out.below hb)
    have B3 := Lib.hid (below_step B2.out hb)
    clear hb hO
    go_wp2_with fail
    refine (lexJoin_any v ts _ F3.out R3.out hn X.out).mono ?_
    rintro e w4 ⟨rfl, hb⟩
    have RB4 := Lib.hid (RB.out.below hb)
    have RA4 := Lib.hid (RA3.out.below hb)
    have F4 := Lib.hid (F3.out.below hb)
    have R4 := Lib.hid (R3.out.below hb)
    have B4 := Lib.hid (below_step B3.out hb)
    clear hb
    go_wp2_with fail
    refine (refJoin_any v ts _ R4.out hn X.out).mono ?_
    rintro e w5 ⟨rfl, hb⟩
    have RB5 := Lib.hid (RB4.out.below hb)
    have RA5 := Lib.hid (RA4.out.below hb)
    have B5 := Lib.hid (below_step B4.out hb)
    clear hb
    have S := same_any va vb _ _ w5 RA5.out RB5.out (by have := T.out.2; rw [HE.out] at this; omega)
    rw [show sameB (allV s.data.toList).1 (allV s.data.toList).1 = true from decide_eq_true rfl] at S
    have HS := Lib.hid S
    clear S
    go_wp2_with fail
    refine HS.out.mono ?_
    rintro e w6 ⟨rfl, hd⟩
    have B6 := Lib.hid (below_step B5.out (hd.below _))
    clear hd
    go_wp2_with fail
    go_ret
    exact ⟨rfl, B6.out⟩
  · rw [hg] at G
    have GR := Lib.hid G
    clear G hf hR hn hg
    go_enter Tryd.func4, Tryd.ntmps4
    go_wp2_with fail
    refine GR.out.mono ?_
    rintro e w1 ⟨rfl, rfl⟩
    go_wp2_with fail
    go_ret
    exact ⟨rfl, Below.refl _ _⟩

set_option maxRecDepth 100000 in
set_option maxHeartbeats 1000000 in
theorem join_walk (v : Value) (ts : List Tok) (w : World) (hf : LexFix w) (hR : Reads w v ts) (hn : ts.length ≤ 9223372036854775807) :
    Calls Tryd.prog 5 #[v] w fun e w' => e = .returned (.bool true) ∧ Below w.heap.size w w' := by
  have G := great_any v ts w hR hn
  cases hg : greatB ts
  · rw [hg] at G
    have GR := Lib.hid G
    obtain ⟨h1, h2⟩ := not_great hg
    have F := Lib.hid hf
    have X : Hid (∀ t ∈ ts, t.text.length ≤ 1000000) := Lib.hid fun t ht => by have := h2 t ht; omega
    obtain ⟨ad, cap, rfl⟩ := hR.shape
    have R := Lib.hid hR
    clear G hf hR hg h2
    go_enter Tryd.func5, Tryd.ntmps5
    go_wp2_with fail
    refine GR.out.mono ?_
    rintro e w1 ⟨rfl, rfl⟩
    go_wp2_with fail
    go_loopg [3] ts.length (fun g i wx => ∃ k : Nat, k + g = ts.length ∧ i = .int .i64 k ∧ Hid ((ts.take k).all validT = true) ∧ Hid (Below w.heap.size w wx))
    case atStart => exact ⟨0, by omega, rfl, Lib.hid rfl, Lib.hid (Below.refl _ _)⟩
    case round =>
      obtain ⟨k, hk, rfl, HK, HB⟩ := hrel
      cases gk with
      | succ g =>
        have hlt : k < ts.length := by omega
        obtain ⟨b, o, cap', x, hv, hx, hb, c0, c1, c2⟩ := (R.out.below HB.out).tok k hlt
        cases hv
        have hxs : x.size = ts[k].text.length := by rw [← hx]; simp
        have V := Lib.hid (valid_any ts[k].kind ts[k].at_ x (by rw [hxs]; exact X.out _ (List.getElem_mem _)))
        have hV : validB ts[k].kind x.data.toList = validT ts[k] := by rw [hx]; rfl
        have FX := Lib.hid (F.out.below HB.out)
        cases hq : validT ts[k]
        · rw [hV, hq] at V
          clear hV hx hxs hq
          go_wp2_with fail
          refine (V.out _).mono ?_
          rintro e w2 ⟨rfl, hb2⟩
          have HB2 := Lib.hid (below_step HB.out hb2)
          have F2 := Lib.hid (FX.out.below hb2)
          clear hb2
          go_wp2_with fail
          refine (alive_any _ F2.out).mono ?_
          rintro e w3 ⟨rfl, hb3⟩
          have HB3 := Lib.hid (below_step HB2.out hb3)
          clear hb3
          go_wp2_with fail
          go_ret
          exact ⟨rfl, HB3.out⟩
        · rw [hV, hq] at V
          have HK2 : Hid ((ts.take (k + 1)).all validT = true) := Lib.hid (by
            rw [List.take_succ_eq_append_getElem hlt, List.all_append, HK.out]
            simp [hq])
          clear hV hx hxs hq
          go_wp2_with fail
          refine (V.out _).mono ?_
          rintro e w2 ⟨rfl, hb2⟩
          have HB2 := Lib.hid (below_step HB.out hb2)
          clear hb2
          go_wp2_with fail
          go_roundg g
          case measure => omega
          case rel => exact ⟨k + 1, by omega, by go_num, HK2, HB2⟩
      | zero =>
        obtain rfl : k = ts.length := by omega
        have HA : Hid (ts.all validT = true) := Lib.hid (by have := HK.out; rwa [List.take_length] at this)
        have R2 := Lib.hid (R.out.below HB.out)
        have F2 := Lib.hid (F.out.below HB.out)
        clear hk R HK F
        by_cases he : (joinV ts).2 = 0
        · obtain ⟨j1, j2, j3⟩ := join_read HA.out he
          obtain ⟨J, hJ⟩ : ∃ J : ByteArray, (⟨(joinV ts).1.toArray⟩ : ByteArray) = J := ⟨_, rfl⟩
          have hJl : J.data.toList = (joinV ts).1 := by rw [← hJ]
          have hJs : (joinV ts).1.length = J.size := by rw [← hJl]; simp
          have hJ400 : J.size ≤ 400 := by
            rw [← hJs]
            unfold joinV at he ⊢
            split at he
            · simp at he
            rename_i g1
            rw [if_neg g1]
            split at he
            · simp at he
            rename_i g2
            rw [if_neg g2]
            split at he
            · simp at he
            rename_i g3
            rw [if_neg g3]
            simp only
            omega
          rw [← hJl] at j1 j2 j3
          have T := all_texts J.data.toList
          rw [hJl, hJs, ← hJl] at T
          obtain ⟨ms, hms⟩ : ∃ ms, (allV J.data.toList).1 = ms := ⟨_, rfl⟩
          rw [hms] at j2 j3 T
          have CJ : Hid (∀ W : World, LexFix W → Reads W (.slice ad ts.length cap) ts → Calls Tryd.prog 12 #[.slice ad ts.length cap] W fun e w' => e = .returned (.tuple #[.string J, .int .i64 0]) ∧ Below W.heap.size W w') := Lib.hid fun W h1 h2 => by
            refine (lexJoin_any _ ts W h1 h2 hn X.out).mono ?_
            rintro e w' ⟨rfl, hb⟩
            rw [hJ, he]
            exact ⟨rfl, hb⟩
          have CA : Hid (∀ W : World, LexFix W → Calls Tryd.prog 15 #[.string J] W fun e w' => ∃ v, e = .returned (.tuple #[v, .int .i64 J.size, .int .i64 0]) ∧ Reads w' v ms ∧ Below W.heap.size W w') := Lib.hid fun W h1 => by
            refine (lexAll_any J (by unfold maxLen; omega) W h1).mono ?_
            rintro e w' ⟨v, rfl, hO, hb, _⟩
            have hr := own_reads hO
            rw [hms] at hr
            refine ⟨v, ?_, hr, hb⟩
            rw [j1]
            simp
          have CM : Hid (∀ (W : World) (v : Value), LexFix W → Reads W v ms → Calls Tryd.prog 12 #[v] W fun e w' => e = .returned (.tuple #[.string J, .int .i64 0]) ∧ Below W.heap.size W w') := Lib.hid fun W v h1 h2 => by
            refine (lexJoin_any v ms W h1 h2 (by omega) (fun t ht => by have := T.1 t ht; omega)).mono ?_
            rintro e w' ⟨rfl, hb⟩
            rw [j3]
            exact ⟨rfl, hb⟩
          have CE : Hid (∀ (W : World) (v : Value), Reads W (.slice ad ts.length cap) ts → Reads W v ms → Calls Tryd.prog 20 #[.slice ad ts.length cap, v] W fun e w' => e = .returned (.bool true) ∧ Draws W w') := Lib.hid fun W v h1 h2 => by
            have := alike_any _ v ts ms W h1 h2 (by omega)
            rwa [j2] at this
          clear he j1 j2 j3 hJ hJl hJs T hms
          go_wp2_with fail
          refine (CJ.out _ F2.out R2.out).mono ?_
          rintro e w3 ⟨rfl, hb⟩
          have R3 := Lib.hid (R2.out.below hb)
          have F3 := Lib.hid (F2.out.below hb)
          have B3 := Lib.hid (below_step HB.out hb)
          clear hb
          go_wp2_with fail
          refine (CA.out _ F3.out).mono ?_
          rintro e w4 ⟨v, rfl, hM, hb⟩
          have RM := Lib.hid hM
          have R4 := Lib.hid (R3.out.below hb)
          have F4 := Lib.hid (F3.out.below hb)
          have B4 := Lib.hid (below_step B3.out hb)
          clear hb hM
          go_wp2_with fail
          refine (CE.out _ v R4.out RM.out).mono ?_
          rintro e w5 ⟨rfl, hd⟩
          have RM5 := Lib.hid (RM.out.below (hd.below _))
          have F5 := Lib.hid (F4.out.below (hd.below _))
          have B5 := Lib.hid (below_step B4.out (hd.below _))
          clear hd
          go_wp2_with fail
          refine (CM.out _ v F5.out RM5.out).mono ?_
          rintro e w6 ⟨rfl, hb⟩
          have F6 := Lib.hid (F5.out.below hb)
          have B6 := Lib.hid (below_step B5.out hb)
          clear hb
          go_wp2_with fail
          refine (alive_any _ F6.out).mono ?_
          rintro e w7 ⟨rfl, hb⟩
          have B7 := Lib.hid (below_step B6.out hb)
          clear hb
          go_wp2_with fail
          go_ret
          exact ⟨rfl, B7.out⟩
        · rcases join_err ts with h | ⟨h4, ht⟩ | ⟨_, h8⟩ | ⟨h18, ht⟩
          · exact absurd h he
          · have CJ : Hid (∀ W : World, LexFix W → Reads W (.slice ad ts.length cap) ts → Calls Tryd.prog 12 #[.slice ad ts.length cap] W fun e w' => e = .returned (.tuple #[.string { data := #[] }, .int .i64 4]) ∧ Below W.heap.size W w') := Lib.hid fun W h1 h2 => by
              refine (lexJoin_any _ ts W h1 h2 hn X.out).mono ?_
              rintro e w' ⟨rfl, hb⟩
              rw [h4, ht]
              exact ⟨rfl, hb⟩
            clear he h4 ht
            go_wp2_with fail
            refine (CJ.out _ F2.out R2.out).mono ?_
            rintro e w3 ⟨rfl, hb⟩
            have F3 := Lib.hid (F2.out.below hb)
            have B3 := Lib.hid (below_step HB.out hb)
            clear hb
            go_wp2_with fail
            refine (alive_any _ F3.out).mono ?_
            rintro e w7 ⟨rfl, hb⟩
            have B7 := Lib.hid (below_step B3.out hb)
            clear hb
            go_wp2_with fail
            go_ret
            exact ⟨rfl, B7.out⟩
          · rw [HA.out] at h8; cases h8
          · have CJ : Hid (∀ W : World, LexFix W → Reads W (.slice ad ts.length cap) ts → Calls Tryd.prog 12 #[.slice ad ts.length cap] W fun e w' => e = .returned (.tuple #[.string { data := #[] }, .int .i64 18]) ∧ Below W.heap.size W w') := Lib.hid fun W h1 h2 => by
              refine (lexJoin_any _ ts W h1 h2 hn X.out).mono ?_
              rintro e w' ⟨rfl, hb⟩
              rw [h18, ht]
              exact ⟨rfl, hb⟩
            clear he h18 ht
            go_wp2_with fail
            refine (CJ.out _ F2.out R2.out).mono ?_
            rintro e w3 ⟨rfl, hb⟩
            have F3 := Lib.hid (F2.out.below hb)
            have B3 := Lib.hid (below_step HB.out hb)
            clear hb
            go_wp2_with fail
            refine (alive_any _ F3.out).mono ?_
            rintro e w7 ⟨rfl, hb⟩
            have B7 := Lib.hid (below_step B3.out hb)
            clear hb
            go_wp2_with fail
            go_ret
            exact ⟨rfl, B7.out⟩
  · rw [hg] at G
    have GR := Lib.hid G
    have A := Lib.hid (alive_any w hf)
    clear G hf hR hn hg
    go_enter Tryd.func5, Tryd.ntmps5
    go_wp2_with fail
    refine GR.out.mono ?_
    rintro e w1 ⟨rfl, rfl⟩
    go_wp2_with fail
    refine A.out.mono ?_
    rintro e w2 ⟨rfl, hb⟩
    go_wp2_with fail
    go_ret
    exact ⟨rfl, hb⟩
end Go.Proofs.YtighmcooilcmfaaDoor

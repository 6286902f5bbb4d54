/-
  Contract of package lexer: All.
-/
import Derived.Test.YtdinaedknlkicaaGreatDoorLexCheck
import Derived.Test.YtdinaedknlkicaaGreatDoorBuilder
import Derived.Test.YtdinaedknlkicaaGreatDoorTokRows
import Derived.Deep.RegionWith
import Derived.Outline
namespace Go.Proofs.YtdinaedknlkicaaGreatDoor
open Go.ChangeShapes Go.WideShapes Go.ChangeAt Go.RowKit

set_option maxRecDepth 100000 in
set_option maxHeartbeats 1000000 in
theorem lexAll_any (s : ByteArray) (hs : s.size ≤ maxLen) (w : World) (hf : LexFix w) : Calls Tryz.prog 13 #[.string s] w (AllEnds s.data.toList w) := by
  have el : s.data.toList.length = s.size := by simp
  obtain ⟨i0, hi, hz0, hz1, hz2⟩ := info_parts info_tok
  by_cases hbig : (400 : Int) < s.size
  · have HV : Hid (allV s.data.toList = ([], 0, 4)) := Lib.hid (by unfold allV; rw [if_pos (by omega)])
    clear hi hz0 hz1 hz2 el
    go_enter Tryz.func13, Tryz.ntmps13
    go_wp2_with fail
    go_ret3
    refine ⟨.slice none 0 0, ?_, ?_, Below.refl _ _, fun _ => rfl⟩
    · rw [HV.out]; rfl
    · rw [HV.out]; exact World.ownsRow_nil _ _ _ _
  have HV : Hid (allV s.data.toList = if (lexF (s.data.toList.length + 1) 0 0 s.data.toList).2.2 = 0 then lexF (s.data.toList.length + 1) 0 0 s.data.toList else ([], (lexF (s.data.toList.length + 1) 0 0 s.data.toList).2.1, (lexF (s.data.toList.length + 1) 0 0 s.data.toList).2.2)) :=
    Lib.hid (by unfold allV; rw [if_neg (by omega)])
  have HE := Lib.hid el
  have HF0 := Lib.hid hf
  have R1 := Lib.hid (fun a ha => behind_any 1 s a ha hs)
  have CU := Lib.hid (fun a ha => cut_any s a ha (by omega))
  have HI := Lib.hid (And.intro hi (And.intro hz0 (And.intro hz1 hz2)))
  clear hi hz0 hz1 hz2 el hf
  go_enter Tryz.func13, Tryz.ntmps13
  go_wp2_with fail
  refine (R1.out 0 (Nat.zero_le _) _).mono ?_
  rintro e w1 ⟨rfl, hb1⟩
  have HB1 := Lib.hid hb1
  clear hb1
  go_wp2_with fail
  go_loopg [5, 6] (s.size - runN 1 s.data.toList) (fun g s5 s6 wx => ∃ (off p f : Nat) (ts : List Tok), p + g = s.size ∧ s6 = .int .i64 p ∧ Hid (off + runN 1 (s.data.toList.drop off) = p) ∧ Hid (off ≤ s.size ∧ s.size - off ≤ f) ∧ ts.length ≤ 200 ∧
      Hid (wx.ownsRow w.heap.size 40 3 s5 ts.length (rowCells ts)) ∧ Hid (Below w.heap.size w wx) ∧ Hid (Left s.data.toList (f + 1) off ts))
  case atStart =>
    have hle := runN_le 1 s.data.toList
    rw [HE.out] at hle
    have hst := left_start s.data.toList
    rw [HE.out] at hst
    exact ⟨0, runN 1 s.data.toList, s.size, [], by omega, rfl, Lib.hid (by rw [List.drop_zero, Nat.zero_add]), Lib.hid ⟨Nat.zero_le _, Nat.sub_le _ _⟩, Nat.zero_le _, Lib.hid (World.ownsRow_nil _ _ _ _), HB1, Lib.hid hst⟩
  case round =>
    obtain ⟨off, p, f, ts, hp, rfl, HP, HF, hts, HO, HB, HL⟩ := hrel
    obtain ⟨ad, cap, rfl⟩ := own_shape HO.out
    cases gk with
    | zero =>
      obtain rfl : p = s.size := by omega
      have HR : Hid (allV s.data.toList = (ts, s.size, 0)) := Lib.hid (by
        have h := left_end HL.out (by rw [HE.out]; exact HF.out.1) (by rw [HP.out, HE.out]; exact Nat.le_refl _)
        rw [HE.out] at h
        rw [HV.out, HE.out, h]; rfl)
      go_wp2_with fail
      go_ret3
      refine ⟨.slice ad ts.length cap, ?_, ?_, HB.out, ?_⟩
      · rw [HR.out]; rfl
      · rw [HR.out]; exact HO.out
      · rw [HR.out]; exact fun h => absurd rfl h
    | succ g =>
      have hlt : p < s.size := by omega
      by_cases hc : ts.length = 200
      · have hq : ((ts.length : Int) == 200) = true := by rw [hc]; rfl
        have HR : Hid (allV s.data.toList = ([], p, 4)) := Lib.hid (by
          have h := left_many HL.out (by rw [HP.out, HE.out]; exact hlt) hc
          rw [HP.out] at h
          rw [HV.out, h]; rfl)
        clear hc
        go_wp2_with fail
        go_ret3
        refine ⟨.slice none 0 0, ?_, ?_, HB.out, fun _ => rfl⟩
        · rw [HR.out]; rfl
        · rw [HR.out]; exact World.ownsRow_nil _ _ _ _
      · have hq : ((ts.length : Int) == 200) = false := by rw [beq_eq_false_iff_ne]; omega
        have hne : s.data.toList.drop p ≠ [] := by
          intro h
          have := congrArg List.length h
          rw [List.length_drop, HE.out] at this
          simp at this
          omega
        obtain ⟨c1, c2⟩ := cut_chk _ hne
        have hnl := tokN_le (s.data.toList.drop p)
        rw [List.length_drop, HE.out] at hnl
        have CP := CU.out p hlt
        unfold CutEnds at CP
        obtain ⟨kk, hkk⟩ : ∃ kk, cutK (s.data.toList.drop p) = kk := ⟨_, rfl⟩
        obtain ⟨t, ht⟩ : ∃ t : ByteArray, (⟨((s.data.toList.drop p).take (tokN (s.data.toList.drop p))).toArray⟩ : ByteArray) = t := ⟨_, rfl⟩
        have htl : t.data.toList = (s.data.toList.drop p).take (tokN (s.data.toList.drop p)) := by rw [← ht]
        have hts2 : t.size = tokN (s.data.toList.drop p) := by
          have : t.data.toList.length = t.size := by simp
          rw [← this, htl, List.length_take, List.length_drop, HE.out, Nat.min_eq_left hnl]
        rw [hkk, ht] at CP
        rw [hkk, ← htl] at c1
        rw [hkk] at c2
        have hle : p + t.size ≤ s.size := by omega
        have CH := check_any kk t (by omega)
        unfold CheckEnds at CH
        rw [c1] at CH
        have CC := Lib.hid CP
        have CK := Lib.hid CH
        have HT := Lib.hid (And.intro ht (And.intro hts2 c2))
        clear hne c1 c2 CP CH htl ht hts2 hkk hnl
        go_wp2_with fail
        refine (CC.out _ (HF0.out.below HB.out).2).mono ?_
        rintro e w2 ⟨rfl, hb⟩
        have HB2 := Lib.hid (below_then HB.out hb)
        have HO2 := Lib.hid (keeps_own HO.out hb)
        clear hb
        go_wp2_with fail
        refine (CK.out _ (HF0.out.below HB2.out)).mono ?_
        rintro e w3 ⟨rfl, hb⟩
        have HB3 := Lib.hid (below_then HB2.out hb)
        have HO3 := Lib.hid (keeps_own HO2.out hb)
        clear hb
        by_cases he : tokE (s.data.toList.drop p) = 0
        · have hq2 : (tokE (s.data.toList.drop p) != 0) = false := by rw [he]; rfl
          go_wp2_with fail
          refine (clone_any t (by omega) _).mono ?_
          rintro e w4 ⟨rfl, hb⟩
          have HB4 := Lib.hid (below_then HB3.out hb)
          have HO4 := Lib.hid (keeps_own HO3.out hb)
          clear hb
          have HE2 := Lib.hid he
          have h200 : ts.length ≤ 199 := by omega
          clear he
          go_wp2_with (at_builtin; refine wpList_append_own _ rfl _ _ 36 rfl w.heap.size 40 i0 (.agg #[.int .u8 0, .string { data := #[] }, .int .i64 0]) 3 32 Tryz.underlying36 HI.out.1 HI.out.2.1 HI.out.2.2.1 HI.out.2.2.2 rfl (by decide) _ _ _ rfl (HO4.out.alloc _) ⟨w4.heap.size, 0, none⟩ 1 1 [.int .u8 kk, .string t, .int .i64 p] rfl rfl ?c1 ?c2 ?c3 ?c4 ?c5 ?_)
          case c1 =>
            intro j u hj
            match j with
            | 0 => simp at hj; subst hj; simp [go_sem, Addr.add]
            | 1 => simp at hj; subst hj; simp [go_sem, Addr.add]
            | 2 => simp at hj; subst hj; simp [go_sem, Addr.add]
            | j + 3 => simp at hj
          case c2 => intro u hu; simp at hu; rcases hu with rfl | rfl | rfl <;> rfl
          case c3 => unfold maxLen; omega
          case c4 => omega
          case c5 => have := HB4.out.size; simp; omega
          intro v' w5 hown' hgrow _
          obtain ⟨n1, n2, n3⟩ := HT.out
          have n4 := n3 HE2.out
          have hpos := tokN_pos HE2.out
          have ht0 : 0 < t.size := by omega
          have HB5 := Lib.hid (grown_own_below HO4.out (HB4.out.alloc HB4.out.size _) hgrow)
          have hL := left_step HL.out (by rw [HP.out, HE.out]; exact hlt) (by omega) HP.out HE2.out
          have hf1 := HF.out
          have hf2 := HP.out
          obtain ⟨f2, rfl⟩ : ∃ f2, f = f2 + 1 := ⟨f - 1, by omega⟩
          have HO5 : Hid (w5.ownsRow w.heap.size 40 3 v' (ts ++ [newTok s.data.toList p]).length (rowCells (ts ++ [newTok s.data.toList p]))) := Lib.hid (by
            rw [rowCells_add, List.length_append]
            unfold tokCells newTok
            rw [← n4, n1]
            exact hown')
          have HL3 := Lib.hid hL
          have HN2 : Hid (t.size = tokN (s.data.toList.drop p)) := Lib.hid n2
          have HF3 : Hid (p + t.size ≤ s.size ∧ s.size - (p + t.size) ≤ f2) := Lib.hid ⟨hle, by omega⟩
          have HR2 : Hid (∀ (m : Int), m = (p + t.size : Nat) → ∀ W : World, Calls Tryz.prog 30 #[.string s, .int .i64 m, .int .u8 1] W fun e w' => e = .returned (.int .i64 ((p + t.size + runN 1 (s.data.toList.drop (p + t.size)) : Nat) : Int)) ∧ Below W.heap.size W w') := Lib.hid (fun m hm W => by
            subst hm
            exact R1.out (p + t.size) hle W)
          clear hown' hgrow n1 n2 n3 n4 hL hf1 hf2
          go_wp2_with fail
          refine (HR2.out _ (by omega) _).mono ?_
          rintro e w6 ⟨rfl, hb⟩
          have HB6 := Lib.hid (below_then HB5.out hb)
          have HO6 := Lib.hid (keeps_own HO5.out hb)
          clear hb
          have hrl := runN_le 1 (s.data.toList.drop (p + t.size))
          rw [List.length_drop, HE.out] at hrl
          go_wp2_with fail
          go_roundg (s.size - (p + t.size + runN 1 (s.data.toList.drop (p + t.size))))
          case measure => omega
          case rel =>
            refine ⟨p + t.size, p + t.size + runN 1 (s.data.toList.drop (p + t.size)), f2, _, by omega, by go_num, Lib.hid rfl, HF3, ?_, HO6, HB6, ?_⟩
            · rw [List.length_append]; show ts.length + 1 ≤ 200; omega
            · rw [HN2.out]; exact HL3
        · have hq2 : (tokE (s.data.toList.drop p) != 0) = true := by rw [bne_iff_ne]; exact he
          have HR : Hid (allV s.data.toList = ([], p, tokE (s.data.toList.drop p))) := Lib.hid (by
            have h := left_bad HL.out (by rw [HP.out, HE.out]; exact hlt) hc (by rw [HP.out]; exact he)
            rw [HP.out] at h
            rw [HV.out, h]
            simp only
            rw [if_neg he])
          clear he
          go_wp2_with fail
          go_ret3
          refine ⟨.slice none 0 0, ?_, ?_, HB3.out, fun _ => rfl⟩
          · rw [HR.out]; rfl
          · rw [HR.out]; exact World.ownsRow_nil _ _ _ _
end Go.Proofs.YtdinaedknlkicaaGreatDoor

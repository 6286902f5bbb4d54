/-
  The walk of layer 3's statement LexerCovers: it returns true.
-/
import Derived.Test.YtighmcooilcmfaaDoorLexErrWalk
import Derived.Deep.RegionWith
import Derived.Deep.RegionHeld3
import Derived.Outline
namespace Go.Proofs.YtighmcooilcmfaaDoor
open Go.ChangeShapes Go.WideShapes Go.ChangeAt Go.RowKit

theorem kind_blank {c : UInt8} (h : isKind 1 c = true) : kindV (c.toNat : Int) = 1 := by
  unfold isKind at h
  rwa [decide_eq_true_iff] at h
set_option maxRecDepth 100000 in
set_option maxHeartbeats 2000000 in
theorem covers_walk (s : ByteArray) (hs : s.size ≤ maxLen) (w : World) (hf : LexFix w) :
    Calls Tryd.prog 7 #[.string s] w fun e w' => e = .returned (.bool true) ∧ Below w.heap.size w w' := by
  have el : s.data.toList.length = s.size := by simp
  have F := Lib.hid hf
  by_cases hbig : (1000 : Int) < s.size
  · have AL := Lib.hid (alive_any w hf)
    clear el hf
    go_enter Tryd.func7, Tryd.ntmps7
    go_wp2_with fail
    refine AL.out.mono ?_
    rintro e w1 ⟨rfl, hb⟩
    go_wp2_with fail
    go_ret
    exact ⟨rfl, hb⟩
  obtain ⟨n, er, hne⟩ : ∃ n er, (allV s.data.toList).2 = (n, er) := ⟨_, _, rfl⟩
  by_cases he : er = 0
  · subst he
    obtain ⟨cv, cn⟩ := all_covers (s := s.data.toList) (by rw [hne])
    rw [hne, el] at cn
    simp only at cn
    subst cn
    have TX := all_texts s.data.toList
    rw [el] at TX
    obtain ⟨ts, hts⟩ : ∃ ts, (allV s.data.toList).1 = ts := ⟨_, rfl⟩
    rw [hts] at cv TX
    have C1 : Hid (∀ W : World, LexFix W → Calls Tryd.prog 15 #[.string s] W fun e w' => ∃ v, e = .returned (.tuple #[v, .int .i64 s.size, .int .i64 0]) ∧ Reads w' v ts ∧ Below W.heap.size W w') := Lib.hid fun W hW => by
      refine (all_is s s.size 0 ⟨hs, hne⟩ W hW).mono ?_
      rintro e w' ⟨v, rfl, hr, hb, _⟩
      rw [hts] at hr
      exact ⟨v, rfl, hr, hb⟩
    obtain ⟨N, hN⟩ : ∃ N, ts.length = N := ⟨_, rfl⟩
    have hNs : N ≤ s.size := by rw [← hN]; exact TX.2
    have HN := Lib.hid hN
    have HT := Lib.hid TX.1
    have CV := Lib.hid cv
    have HE := Lib.hid el
    clear hne hts cv TX hN el hf
    go_enter Tryd.func7, Tryd.ntmps7
    go_wp2_with fail
    refine (C1.out _ F.out).mono ?_
    rintro e w1 ⟨v, rfl, hr, hb⟩
    obtain ⟨ad, cap, hv⟩ := hr.shape
    rw [HN.out] at hv
    subst hv
    have R1 := Lib.hid hr
    have F1 := Lib.hid (F.out.below hb)
    have B1 := Lib.hid hb
    clear hr hb
    go_wp2_with fail
    go_loopg [6, 7] (N + 1) (fun g s6 s7 wx => ∃ (a i : Nat), i + g = N + 1 ∧ i ≤ N ∧ s6 = .int .i64 a ∧ s7 = .int .i64 i ∧ a ≤ s.size ∧ Hid (Covers s.data.toList a (ts.drop i)) ∧ Hid (Below w1.heap.size w1 wx))
    case atStart => exact ⟨0, 0, by omega, Nat.zero_le _, rfl, rfl, Nat.zero_le _, CV, Lib.hid (Below.refl _ _)⟩
    case round =>
      obtain ⟨a, i, hi, hiN, rfl, rfl, ha, HC, HB⟩ := hrel
      cases gk with
      | zero => omega
      | succ g =>
        by_cases hlast : i = N
        · subst hlast
          have hall : Hid (∀ k, a ≤ k → (h : k < s.size) → isKind 1 s[k] = true) := Lib.hid fun k h1 h2 => by
            have := HC.out
            rw [List.drop_of_length_le (by rw [HN.out]; exact Nat.le_refl _)] at this
            exact this k h1 (by rw [HE.out]; exact h2)
          have hdz : decide (s.size < a) = false := decide_eq_false (by omega)
          go_wp2_with fail
          go_loopg [9] (s.size - a) (fun g s9 wx => ∃ k : Nat, k + g = s.size ∧ a ≤ k ∧ s9 = .int .i64 k ∧ Hid (Below w1.heap.size w1 wx))
          case atStart => exact ⟨a, by omega, Nat.le_refl _, rfl, HB⟩
          case round =>
            obtain ⟨k, hk, hak, rfl, HX⟩ := hrel
            cases gk with
            | succ g2 =>
              have hlt : k < s.size := by omega
              have K := Lib.hid (kind_is (s[k].toNat : Int) 1 ⟨u8_bounds _, kind_blank (hall.out k hak hlt)⟩)
              go_wp2_with fail
              refine (K.out _).mono ?_
              rintro e w2 ⟨rfl, hb⟩
              have HY := Lib.hid (below_step HX.out hb)
              clear hb
              go_wp2_with fail
              go_roundg g2
              case measure => omega
              case rel => exact ⟨k + 1, by omega, by omega, by go_num, HY⟩
            | zero =>
              obtain rfl : k = s.size := by omega
              have FX := Lib.hid (F1.out.below HX.out)
              have BX := Lib.hid (below_step B1.out HX.out)
              clear hk
              go_wp2_with fail
              refine (alive_any _ FX.out).mono ?_
              rintro e w2 ⟨rfl, hb⟩
              have BY := Lib.hid (below_step BX.out hb)
              clear hb
              go_wp2_with fail
              go_ret
              exact ⟨rfl, BY.out⟩
        · have hlt : i < N := by omega
          have hlt2 : i < ts.length := by rw [HN.out]; exact hlt
          obtain ⟨b, o, cap', x, hv, hx, hbs, c0, c1, c2⟩ := R1.out.tok i hlt2
          rw [HN.out] at hv
          cases hv
          have hcov := HC.out
          rw [List.drop_eq_getElem_cons hlt2] at hcov
          obtain ⟨p, q1, q2, q3, q4, q5, q6, q7, q8⟩ := hcov
          rw [q1] at c2
          rw [HE.out] at q3
          have hxs : x.size = ts[i].text.length := by rw [← hx]; simp
          have hxl : x.size ≤ 1000000 := by rw [hxs]; have := HT.out _ (List.getElem_mem hlt2); omega
          have hall : Hid (∀ k, a ≤ k → k < p → (h : k < s.size) → isKind 1 s[k] = true) := Lib.hid fun k h1 h2 h3 => q6 k h1 h2 (by rw [HE.out]; exact h3)
          have HQ8 : Hid (Covers s.data.toList (p + x.size) (ts.drop (i + 1))) := Lib.hid (by rw [hxs]; exact q8)
          have hcut : (s.extract p (p + x.size)).toList = x.toList := by
            rw [ByteArray.toList_eq, ByteArray.toList_eq, hx, ByteArray.data_extract, Array.toList_extract, List.extract_eq_take_drop, Nat.add_sub_cancel_left, hxs]
            exact q4
          have hcb : ((s.extract p (p + x.size)).toList == x.toList) = true := by rw [hcut]; exact beq_self_eq_true _
          have V := Lib.hid (valid_any ts[i].kind (p : Int) x hxl)
          have hV : validB ts[i].kind x.data.toList = true := by rw [hx]; exact q7
          rw [hV] at V
          have hp3 : p + x.size ≤ s.size := by rw [hxs]; exact q3
          obtain ⟨kd, hkd⟩ : ∃ kd, ts[i].kind = kd := ⟨_, rfl⟩
          rw [hkd] at c0 V
          have HCB := Lib.hid hcb
          have V : Hid (∀ W : World, (W.cell? ⟨b, o + i * 3, none⟩ = some (.int .u8 kd) ∧ W.cell? ⟨b, o + i * 3 + 1, none⟩ = some (.string x) ∧ W.cell? ⟨b, o + i * 3 + 2, none⟩ = some (.int .i64 p)) → b < W.heap.size →
              Calls Tryd.prog 19 #[.agg #[.int .u8 kd, .string x, .int .i64 p]] W fun e w' => e = .returned (.bool true) ∧ w'.cell? ⟨b, o + i * 3, none⟩ = some (.int .u8 kd) ∧ w'.cell? ⟨b, o + i * 3 + 1, none⟩ = some (.string x) ∧ w'.cell? ⟨b, o + i * 3 + 2, none⟩ = some (.int .i64 p) ∧ Below W.heap.size W w') := Lib.hid fun W h1 h2 => by
            refine (V.out W).mono ?_
            rintro e w' ⟨rfl, hb⟩
            exact ⟨rfl, (hb.cell (p := ⟨b, o + i * 3, none⟩) h2).trans h1.1, (hb.cell (p := ⟨b, o + i * 3 + 1, none⟩) h2).trans h1.2.1, (hb.cell (p := ⟨b, o + i * 3 + 2, none⟩) h2).trans h1.2.2, hb⟩
          have CC : Hid (w1.cell? ⟨b, o + i * 3, none⟩ = some (.int .u8 kd) ∧ w1.cell? ⟨b, o + i * 3 + 1, none⟩ = some (.string x) ∧ w1.cell? ⟨b, o + i * 3 + 2, none⟩ = some (.int .i64 p) ∧ b < w1.heap.size) := Lib.hid ⟨c0, c1, c2, hbs⟩
          have d0 := (HB.out.cell (p := ⟨b, o + i * 3, none⟩) hbs).trans c0
          have d1 := (HB.out.cell (p := ⟨b, o + i * 3 + 1, none⟩) hbs).trans c1
          have d2 := (HB.out.cell (p := ⟨b, o + i * 3 + 2, none⟩) hbs).trans c2
          clear c0 c1 c2
          have hdz : decide (p < a) = false := decide_eq_false (by omega)
          have hdy : decide (s.size < p) = false := decide_eq_false (by omega)
          have hgd : decide (s.size < p + x.size) = false := decide_eq_false (by omega)
          clear hx q1 q3 q4 q5 q6 q7 q8 hxs hcut hV hkd
          go_wp2_with fail
          go_loopg [9] (p - a) (fun g s9 wx => ∃ k : Nat, k + g = p ∧ a ≤ k ∧ s9 = .int .i64 k ∧ Hid (Below w1.heap.size w1 wx))
          case atStart => exact ⟨a, by omega, Nat.le_refl _, rfl, HB⟩
          case round =>
            obtain ⟨k, hk, hak, rfl, HX⟩ := hrel
            cases gk with
            | succ g2 =>
              have hlt : k < s.size := by omega
              have K := Lib.hid (kind_is (s[k].toNat : Int) 1 ⟨u8_bounds _, kind_blank (hall.out k hak (by omega) hlt)⟩)
              go_wp2_with fail
              refine (K.out _).mono ?_
              rintro e w2 ⟨rfl, hb⟩
              have HY := Lib.hid (below_step HX.out hb)
              clear hb
              go_wp2_with fail
              go_roundg g2
              case measure => omega
              case rel => exact ⟨k + 1, by omega, by omega, by go_num, HY⟩
            | zero =>
              obtain rfl : k = p := by omega
              have d0 := (HX.out.cell (p := ⟨b, o + i * 3, none⟩) CC.out.2.2.2).trans CC.out.1
              have d1 := (HX.out.cell (p := ⟨b, o + i * 3 + 1, none⟩) CC.out.2.2.2).trans CC.out.2.1
              have d2 := (HX.out.cell (p := ⟨b, o + i * 3 + 2, none⟩) CC.out.2.2.2).trans CC.out.2.2.1
              have hgi : decide ((s.size : Int) < (k : Int) + x.size) = false := decide_eq_false (by omega)
              clear hk
              go_wp2_with fail
              have hbr : b < wr.heap.size := Nat.lt_of_lt_of_le CC.out.2.2.2 HX.out.size
              clear hcb hgd hdz hdy hgi
              have hgi : decide ((s.size : Int) < (k : Int) + x.size) = false := decide_eq_false (by omega)
              have hgd : decide (s.size < k + x.size) = false := decide_eq_false (by omega)
              have hcb := HCB.out
              have hs0 : (0 : Int) ≤ (k : Int) := by omega
              have hs1 : (k : Int) ≤ (k : Int) + x.size := by omega
              have hs2 : (k : Int) + x.size ≤ s.size := by omega
              have hs3 : (k : Int) ≤ s.size := by omega
              have hs4 : ((k : Int) + x.size).toNat = k + x.size := by omega
              go_region_held3 (fun w' => w'.cell? { block := b, off := o + i * 3 } = some (.int .u8 kd) ∧ w'.cell? { block := b, off := o + i * 3 + 1 } = some (.string x) ∧ w'.cell? { block := b, off := o + i * 3 + 2 } = some (.int .i64 k)) (go_keep) (first | (go_at_call 19; refine (V.out _ ?_ ?_).mono ?_; (simp [*]); (simp [*]); rintro e w2 ⟨rfl, hk0, hk1, hk2, hb⟩))
              have HY := Lib.hid (below_step HX.out (((Below.refl _ wr).drew).trans hb))
              clear hb
              go_wp2_with fail
              go_roundg g
              case measure => omega
              case rel => exact ⟨k + x.size, i + 1, by omega, by omega, by go_num, by go_num, hp3, HQ8, HY⟩
  · have A := Lib.hid (all_is s n er ⟨hs, hne⟩)
    have hb2 : n < s.size ∨ 400 < s.size := by
      rcases Nat.lt_or_ge 400 s.size with h | h
      · exact .inr h
      · obtain ⟨p, hp, q1, _⟩ := all_fault (s := s.data.toList) (by rw [el]; omega) (by rw [hne]; exact he)
        rw [hne] at q1
        rw [el] at hp
        simp only at q1
        exact .inl (by omega)
    have q0 : (er != 0) = true := by rw [bne_iff_ne]; exact he
    clear hne el hf
    by_cases h1 : (n : Int) < s.size
    · clear hb2
      go_enter Tryd.func7, Tryd.ntmps7
      go_wp2_with fail
      refine (A.out _ F.out).mono ?_
      rintro e w1 ⟨v, rfl, _, hb, hv⟩
      obtain rfl := hv he
      have F1 := Lib.hid (F.out.below hb)
      have B1 := Lib.hid hb
      clear hb
      go_wp2_with fail
      refine (alive_any _ F1.out).mono ?_
      rintro e w2 ⟨rfl, hb⟩
      have B2 := Lib.hid (below_step B1.out hb)
      clear hb
      go_wp2_with fail
      go_ret
      exact ⟨rfl, B2.out⟩
    · have h4 : (400 : Int) < s.size := by omega
      clear hb2
      go_enter Tryd.func7, Tryd.ntmps7
      go_wp2_with fail
      refine (A.out _ F.out).mono ?_
      rintro e w1 ⟨v, rfl, _, hb, hv⟩
      obtain rfl := hv he
      have F1 := Lib.hid (F.out.below hb)
      have B1 := Lib.hid hb
      clear hb
      go_wp2_with fail
      refine (alive_any _ F1.out).mono ?_
      rintro e w2 ⟨rfl, hb⟩
      have B2 := Lib.hid (below_step B1.out hb)
      clear hb
      go_wp2_with fail
      go_ret
      exact ⟨rfl, B2.out⟩
end Go.Proofs.YtighmcooilcmfaaDoor

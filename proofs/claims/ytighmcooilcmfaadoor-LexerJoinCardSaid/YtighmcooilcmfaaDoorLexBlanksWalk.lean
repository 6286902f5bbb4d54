/-
  The walk of layer 3's statement LexerBlanks: it returns true.
-/
import Derived.Test.YtighmcooilcmfaaDoorLexErrWalk
import Derived.Deep.RegionWith
import Derived.Outline
namespace Go.Proofs.YtighmcooilcmfaaDoor
open Go.ChangeShapes Go.WideShapes Go.ChangeAt Go.RowKit

/-- A slice that reads as these truth values. -/
def BReads (w : World) (v : Value) (bs : List Bool) : Prop :=
  (bs = [] ∧ ∃ ad cap, v = .slice ad 0 cap) ∨ ∃ b o cap, v = .slice (some ⟨b, o, none⟩) bs.length cap ∧ b < w.heap.size ∧ ∀ i x, bs[i]? = some x → w.cell? ⟨b, o + i, none⟩ = some (.bool x)
theorem BReads.below {w w' : World} {v : Value} {bs : List Bool} (h : BReads w v bs) (hw : Below w.heap.size w w') : BReads w' v bs := by
  rcases h with h | ⟨b, o, cap, rfl, hb, ht⟩
  · exact .inl h
  · exact .inr ⟨b, o, cap, rfl, Nat.lt_of_lt_of_le hb hw.size, fun i x hx => (hw.cell (p := ⟨b, _, none⟩) hb).trans (ht i x hx)⟩
theorem BReads.shape {w : World} {v : Value} {bs : List Bool} (h : BReads w v bs) : ∃ ad cap, v = .slice ad bs.length cap := by
  rcases h with ⟨rfl, ad, cap, rfl⟩ | ⟨b, o, cap, rfl, _⟩
  · exact ⟨ad, cap, rfl⟩
  · exact ⟨_, cap, rfl⟩
theorem BReads.bit {w : World} {v : Value} {bs : List Bool} (h : BReads w v bs) (k : Nat) (hk : k < bs.length) :
    ∃ b o cap, v = .slice (some ⟨b, o, none⟩) bs.length cap ∧ w.cell? ⟨b, o + k, none⟩ = some (.bool bs[k]) := by
  rcases h with ⟨rfl, _⟩ | ⟨b, o, cap, rfl, hb, ht⟩
  · simp at hk
  · exact ⟨b, o, cap, rfl, ht k _ (List.getElem?_eq_getElem hk)⟩
def gapOf (bs : List Bool) : List UInt8 := bs.map fun b => if b then 32 else 10
theorem gap_blank (bs : List Bool) : ∀ c ∈ gapOf bs, isKind 1 c = true := by
  intro c hc
  unfold gapOf at hc
  rw [List.mem_map] at hc
  obtain ⟨b, _, rfl⟩ := hc
  cases b <;> decide
theorem gap_len (bs : List Bool) : (gapOf bs).length = bs.length := by simp [gapOf]
theorem gap_more (bs : List Bool) (k : Nat) (h : k < bs.length) : gapOf (bs.take (k + 1)) = gapOf (bs.take k) ++ [if bs[k] then 32 else 10] := by
  unfold gapOf
  rw [List.take_succ_eq_append_getElem h, List.map_append]; rfl

set_option maxRecDepth 100000 in
set_option maxHeartbeats 2000000 in
theorem blanks_walk (s : ByteArray) (hs : s.size ≤ maxLen) (v : Value) (bs : List Bool) (at_ : Int) (w : World) (hf : LexFix w) (hB : BReads w v bs) (hn : bs.length ≤ 9223372036854775807) (hat : at_ ≤ 9223372036854775807) :
    Calls Tryd.prog 6 #[.string s, v, .int .i64 at_] w fun e w' => e = .returned (.bool true) ∧ Below w.heap.size w w' := by
  obtain ⟨adb, capb, rfl⟩ := hB.shape
  have BR := Lib.hid hB
  have F := Lib.hid hf
  have AL := Lib.hid (alive_any w hf)
  clear hB hf
  by_cases g1 : (300 : Int) < s.size
  · go_enter Tryd.func6, Tryd.ntmps6
    go_wp2_with fail
    refine AL.out.mono ?_
    rintro e w1 ⟨rfl, hb⟩
    go_wp2_with fail
    go_ret
    exact ⟨rfl, hb⟩
  by_cases g2 : (20 : Int) < bs.length
  · go_enter Tryd.func6, Tryd.ntmps6
    go_wp2_with fail
    refine AL.out.mono ?_
    rintro e w1 ⟨rfl, hb⟩
    go_wp2_with fail
    go_ret
    exact ⟨rfl, hb⟩
  by_cases g3 : at_ < 0
  · go_enter Tryd.func6, Tryd.ntmps6
    go_wp2_with fail
    refine AL.out.mono ?_
    rintro e w1 ⟨rfl, hb⟩
    go_wp2_with fail
    go_ret
    exact ⟨rfl, hb⟩
  obtain ⟨n, er, hne⟩ : ∃ n er, (allV s.data.toList).2 = (n, er) := ⟨_, _, rfl⟩
  obtain ⟨ts, hts⟩ : ∃ ts, (allV s.data.toList).1 = ts := ⟨_, rfl⟩
  have C1 : Hid (∀ W : World, LexFix W → Calls Tryd.prog 15 #[.string s] W fun e w' => ∃ v, e = .returned (.tuple #[v, .int .i64 n, .int .i64 er]) ∧ Reads w' v ts ∧ Below W.heap.size W w') := Lib.hid fun W hW => by
    refine (all_is s n er ⟨hs, hne⟩ W hW).mono ?_
    rintro e w' ⟨v, rfl, hr, hb, _⟩
    rw [hts] at hr
    exact ⟨v, rfl, hr, hb⟩
  have HN := Lib.hid hne
  have HT := Lib.hid hts
  have TX := Lib.hid (all_texts s.data.toList)
  have HE : Hid (s.data.toList.length = s.size) := Lib.hid (by simp)
  clear hne hts AL
  go_enter Tryd.func6, Tryd.ntmps6
  go_wp2_with fail
  refine (C1.out _ F.out).mono ?_
  rintro e w1 ⟨va, rfl, hr, hb⟩
  have R1 := Lib.hid hr
  have F1 := Lib.hid (F.out.below hb)
  have B1 := Lib.hid hb
  have BR1 := Lib.hid (BR.out.below hb)
  clear hr hb
  go_wp2_with fail
  go_loopg [10, 11] bs.length (fun g s10 i wx => ∃ (k : Nat) (a : ByteArray), k + g = bs.length ∧ i = .int .i64 k ∧ s10 = .string a ∧ a.size = k ∧ Hid (a.data.toList = gapOf (bs.take k)) ∧ w1 = wx)
  case atStart => exact ⟨0, { data := #[] }, by omega, rfl, rfl, rfl, Lib.hid rfl, rfl⟩
  case round =>
    obtain ⟨k, a, hk, rfl, rfl, has, HA, rfl⟩ := hrel
    cases gk with
    | succ g =>
      have hlt : k < bs.length := by omega
      obtain ⟨b, o, cap', hv, c0⟩ := BR1.out.bit k hlt
      cases hv
      have ha2 : a.size ≤ 1000 := by omega
      have HS := Lib.hid has
      clear has
      cases hq : bs[k]
      · have H : Hid ((a ++ { data := #[10] } : ByteArray).data.toList = gapOf (bs.take (k + 1))) := Lib.hid (by
          rw [gap_more _ _ hlt, ← HA.out, hq]; simp)
        have H2 : Hid ((a ++ { data := #[10] } : ByteArray).size = k + 1) := Lib.hid (by rw [ByteArray.size_append, HS.out]; rfl)
        rw [hq] at c0
        clear hq
        go_wp2_with fail
        go_roundg g
        case measure => omega
        case rel => exact ⟨k + 1, a ++ { data := #[10] }, by omega, by go_num, rfl, H2.out, H, rfl⟩
      · have H : Hid ((a ++ { data := #[32] } : ByteArray).data.toList = gapOf (bs.take (k + 1))) := Lib.hid (by
          rw [gap_more _ _ hlt, ← HA.out, hq]; simp)
        have H2 : Hid ((a ++ { data := #[32] } : ByteArray).size = k + 1) := Lib.hid (by rw [ByteArray.size_append, HS.out]; rfl)
        rw [hq] at c0
        clear hq
        go_wp2_with fail
        go_roundg g
        case measure => omega
        case rel => exact ⟨k + 1, a ++ { data := #[32] }, by omega, by go_num, rfl, H2.out, H, rfl⟩
    | zero =>
      obtain rfl : k = bs.length := by omega
      have ha20 : a.size ≤ 20 := by omega
      clear has
      have hg : a.data.toList = gapOf bs := by have := HA.out; rwa [List.take_length] at this
      have hblank : ∀ c ∈ a.data.toList, isKind 1 c = true := by rw [hg]; exact gap_blank bs
      have hal : a.data.toList.length = a.size := by simp
      have hsl : s.data.toList.length ≤ 300 := by rw [HE.out]; omega
      obtain ⟨p1, p2, p3⟩ := all_around hblank hsl (by rw [hal]; omega)
      have p4 := all_between hblank hsl (by rw [hal]; omega)
      rw [HN.out] at p1 p3 p4
      rw [HT.out] at p2 p4
      rw [hal] at p3
      have hw : ((a ++ s) ++ a).data.toList = a.data.toList ++ s.data.toList ++ a.data.toList := by simp
      rw [← hw] at p1 p2 p3
      simp only at p1 p3
      obtain ⟨m, er2, hm⟩ : ∃ m er2, (allV ((a ++ s) ++ a).data.toList).2 = (m, er2) := ⟨_, _, rfl⟩
      rw [hm] at p1 p3
      simp only at p1 p3
      subst p1
      obtain ⟨xs, hxs⟩ : ∃ xs, (allV ((a ++ s) ++ a).data.toList).1 = xs := ⟨_, rfl⟩
      rw [hxs] at p2
      have hsz : ((a ++ s) ++ a).size ≤ 1000 := by rw [ByteArray.size_append, ByteArray.size_append]; omega
      have C2 : Hid (∀ W : World, LexFix W → Calls Tryd.prog 15 #[.string ((a ++ s) ++ a)] W fun e w' => ∃ v, e = .returned (.tuple #[v, .int .i64 m, .int .i64 er2]) ∧ Reads w' v xs ∧ Below W.heap.size W w') := Lib.hid fun W hW => by
        refine (all_is _ m er2 ⟨by unfold maxLen; omega, hm⟩ W hW).mono ?_
        rintro e w' ⟨v, rfl, hr, hb, _⟩
        rw [hxs] at hr
        exact ⟨v, rfl, hr, hb⟩
      have htl : ts.length ≤ s.size := by have := TX.out.2; rw [HT.out, HE.out] at this; exact this
      have CE : Hid (∀ (W : World) (va vb : Value), Reads W va ts → Reads W vb xs → Calls Tryd.prog 20 #[va, vb] W fun e w' => e = .returned (.bool true) ∧ Draws W w') := Lib.hid fun W va vb h1 h2 => by
        have := alike_any va vb ts xs W h1 h2 (by omega)
        rwa [p2] at this
      obtain ⟨N, hN⟩ : ∃ N, ts.length = N := ⟨_, rfl⟩
      obtain ⟨ad, cap, hva⟩ := R1.out.shape
      rw [hN] at hva htl
      subst hva
      have HL := Lib.hid hN
      clear hN
      have P3 := Lib.hid p3
      have P4 := Lib.hid p4
      have HTE : Hid (er2 ≠ 0 → ts = []) := Lib.hid fun h => by
        rw [← HT.out]; exact all_none (by rw [HN.out]; exact h)
      have HA2 := Lib.hid hg
      clear hk hg hblank hal hsl p2 p3 p4 hw hm hxs
      go_wp2_with fail
      refine (C2.out _ F1.out).mono ?_
      rintro e w2 ⟨vb, rfl, hr, hb⟩
      have X2 := Lib.hid hr
      have R2 := Lib.hid (R1.out.below hb)
      have F2 := Lib.hid (F1.out.below hb)
      have B2 := Lib.hid (below_step B1.out hb)
      clear hr hb
      go_wp2_with fail
      refine (CE.out _ _ vb R2.out X2.out).mono ?_
      rintro e w3 ⟨rfl, hd⟩
      have R3 := Lib.hid (R2.out.below (hd.below _))
      have F3 := Lib.hid (F2.out.below (hd.below _))
      have B3 := Lib.hid (below_step B2.out (hd.below _))
      clear hd
      by_cases he : er2 = 0
      · subst he
        cases hz : ((N : Int) == 0)
        · have hn0 : ¬ (N : Int) = 0 := by rw [beq_eq_false_iff_ne] at hz; exact hz
          have hnp : (0 : Int) < N := by omega
          obtain ⟨i, hi⟩ : ∃ i : Nat, at_ % (N : Int) = i := ⟨(at_ % (N : Int)).toNat, by have := Int.emod_nonneg at_ hn0; omega⟩
          have hiN : i < N := by have := Int.emod_lt_of_pos at_ hnp; omega
          have hits : i < ts.length := by rw [HL.out]; exact hiN
          obtain ⟨c, p5, p6, p7, p8⟩ := P4.out rfl i hits
          obtain ⟨b, o, cap', x, hv, hx, hbs, c0, c1, c2⟩ := R3.out.tok i hits
          rw [p5] at c2
          rw [HL.out] at hv
          cases hv
          rw [HE.out] at p6
          obtain ⟨y, hy⟩ : ∃ y : ByteArray, s.extract 0 c ++ a ++ s.extract c s.size = y := ⟨_, rfl⟩
          have hyl : y.data.toList = s.data.toList.take c ++ a.data.toList ++ s.data.toList.drop c := by
            rw [← hy]
            simp only [ByteArray.data_append, Array.toList_append, take_text, drop_text]
          rw [← hyl] at p7 p8
          have e1 : (s.extract 0 c).size = c := by simp; omega
          have e2 : (s.extract c s.size).size = s.size - c := by simp
          have hys : y.size ≤ 1000 := by
            rw [← hy, ByteArray.size_append, ByteArray.size_append, e1, e2]; omega
          obtain ⟨k, hk⟩ : ∃ k, (allV y.data.toList).2.1 = k := ⟨_, rfl⟩
          obtain ⟨ys, hys2⟩ : ∃ ys, (allV y.data.toList).1 = ys := ⟨_, rfl⟩
          have C3 : Hid (∀ W : World, LexFix W → Calls Tryd.prog 15 #[.string y] W fun e w' => ∃ v, e = .returned (.tuple #[v, .int .i64 k, .int .i64 0]) ∧ Reads w' v ys ∧ Below W.heap.size W w') := Lib.hid fun W hW => by
            refine (all_is _ k 0 ⟨by unfold maxLen; omega, Prod.ext hk p7⟩ W hW).mono ?_
            rintro e w' ⟨v, rfl, hr, hb, _⟩
            rw [hys2] at hr
            exact ⟨v, rfl, hr, hb⟩
          rw [hys2] at p8
          have CE3 : Hid (∀ (W : World) (va vb : Value), Reads W va ts → Reads W vb ys → Calls Tryd.prog 20 #[va, vb] W fun e w' => e = .returned (.bool true) ∧ Draws W w') := Lib.hid fun W va vb h1 h2 => by
            have := alike_any va vb ts ys W h1 h2 (by rw [HL.out]; omega)
            rwa [p8] at this
          have s1 : (s.extract 0 c).size + a.size ≤ 9223372036854775807 := by rw [e1]; omega
          have s2 : (s.extract 0 c ++ a).size + (s.extract c s.size).size ≤ 9223372036854775807 := by rw [ByteArray.size_append, e1, e2]; omega
          rw [← hy] at C3
          have F3d : Hid (LexFix w3.drew) := Lib.hid (F3.out.below ((Below.refl _ w3).drew))
          clear p5 p7 p8 hx hyl e1 e2 hk hys2 c0 c1 hys hy
          go_wp2_with fail
          go_region_with (go_at_call 15; refine (C3.out _ F3d.out).mono ?_; rintro e w4 ⟨vc, rfl, hr, hb⟩)
          have hb3 : Below w3.heap.size w3 w4 := ((Below.refl _ w3).drew).trans hb
          have Y4 := Lib.hid hr
          have R4 := Lib.hid (R3.out.below hb3)
          have F4 := Lib.hid (F3.out.below hb3)
          have B4 := Lib.hid (below_step B3.out hb3)
          clear hr hb hb3
          go_wp2_with fail
          refine (CE3.out _ _ vc R4.out Y4.out).mono ?_
          rintro e w5 ⟨rfl, hd⟩
          have F5 := Lib.hid (F4.out.below (hd.below _))
          have B5 := Lib.hid (below_step B4.out (hd.below _))
          clear hd
          go_wp2_with fail
          refine (alive_any _ F5.out).mono ?_
          rintro e w6 ⟨rfl, hb⟩
          have B6 := Lib.hid (below_step B5.out hb)
          clear hb
          go_wp2_with fail
          go_ret
          exact ⟨rfl, B6.out⟩
        · go_wp2_with fail
          refine (alive_any _ F3.out).mono ?_
          rintro e w4 ⟨rfl, hb⟩
          have B4 := Lib.hid (below_step B3.out hb)
          clear hb
          go_wp2_with fail
          go_ret
          exact ⟨rfl, B4.out⟩
      · have q0 : (er2 != 0) = true := by rw [bne_iff_ne]; exact he
        have q1 : ((m : Int) == (n : Int) + a.size) = true := by rw [beq_iff_eq, P3.out he]; omega
        have hnb : n ≤ 300 := by
          obtain ⟨p, hp, q1, _⟩ := all_fault (s := s.data.toList) (by rw [HE.out]; omega) (by rw [HN.out]; exact he)
          rw [HN.out] at q1
          rw [HE.out] at hp
          simp only at q1
          omega
        have q2 : N = 0 := by rw [← HL.out, HTE.out he]; rfl
        subst q2
        clear he
        go_wp2_with fail
        refine (alive_any _ F3.out).mono ?_
        rintro e w4 ⟨rfl, hb⟩
        have B4 := Lib.hid (below_step B3.out hb)
        clear hb
        go_wp2_with fail
        go_ret
        exact ⟨rfl, B4.out⟩
end Go.Proofs.YtighmcooilcmfaaDoor

/-
  Contract of the reference of layer 3: All.
-/
import Derived.Test.YtighmcooilcmfaaDoorRefLex
import Derived.OwnWalk
import Derived.Outline
namespace Go.Proofs.YtighmcooilcmfaaDoor
open Go.ChangeShapes Go.WideShapes Go.ChangeAt Go.RowKit

def tokCells (t : Tok) : List Value := [.int .u8 t.kind, .string ⟨t.text.toArray⟩, .int .i64 t.at_]
def rowCells (ts : List Tok) : List Value := ts.flatMap tokCells
theorem rowCells_add (ts : List Tok) (t : Tok) : rowCells (ts ++ [t]) = rowCells ts ++ tokCells t := by
  simp [rowCells, List.flatMap_append]
theorem rowCells_len (ts : List Tok) : (rowCells ts).length = ts.length * 3 := by
  induction ts with
  | nil => rfl
  | cons t ts ih => simp only [rowCells, List.flatMap_cons, List.length_append, List.length_cons] at ih ⊢; rw [ih]; simp [tokCells]; omega
theorem below_step {w w1 w2 : World} (h : Below w.heap.size w w1) (h2 : Below w1.heap.size w1 w2) : Below w.heap.size w w2 := h.trans (h2.mono h.size)
/-- What is returned: the tokens in the call's own memory, a place, an error; with an error no tokens. -/
def AllEnds (l : List UInt8) (w : World) (e : Ending) (w' : World) : Prop :=
  ∃ v, e = .returned (.tuple #[v, .int .i64 (allV l).2.1, .int .i64 (allV l).2.2]) ∧ w'.ownsRow w.heap.size 30 3 v (allV l).1.length (rowCells (allV l).1) ∧ Below w.heap.size w w' ∧ ((allV l).2.2 ≠ 0 → v = .slice none 0 0)
theorem own_shape {w : World} {base n : Nat} {e : TypeId} {size : Nat} {v : Value} {xs : List Value} (h : w.ownsRow base e size v n xs) : ∃ ad cap, v = .slice ad n cap := by
  rcases h.2 with ⟨rfl, rfl⟩ | ⟨g, cap, _, rfl, _⟩
  · exact ⟨_, _, rfl⟩
  · exact ⟨_, _, rfl⟩
theorem info_tok : (Tryd.prog.info? 30).map (fun i => (i.zero, i.size, i.bytes)) = some (some (.agg #[.int .u8 0, .string { data := #[] }, .int .i64 0]), 3, 32) := by kernel_rfl

theorem keeps_own {w w' : World} {base n : Nat} {e : TypeId} {size : Nat} {v : Value} {xs : List Value} (h : w.ownsRow base e size v n xs) (hb : Below w.heap.size w w') : w'.ownsRow base e size v n xs :=
  h.kept (row := none) ⟨hb.os, hb.tape, hb.output, hb.size, fun k hk _ => hb.block k hk⟩ (Classical.em _)
/-- Behind an append to a slice of the call's own: what lies in a block that was made behind it is as it was. -/
theorem grown_cell {w w1 w2 : World} {base n : Nat} {e : TypeId} {size : Nat} {v : Value} {xs : List Value} {b o : Nat} {u : Value} (h : w.ownsRow base e size v n xs) (hg : w1.grownBy w2 v.ownBlock) (hb : w.heap.size ≤ b)
    (hc : w1.cell? ⟨b, o, none⟩ = some u) : w2.cell? ⟨b, o, none⟩ = some u :=
  hg.cell hc (fun hr => by have := (h.lt b hr.symm).2; omega)
theorem grown_own_below {w0 w w1 w2 : World} {n : Nat} {e : TypeId} {size : Nat} {v : Value} {xs : List Value} (h : w.ownsRow w0.heap.size e size v n xs) (hb : Below w0.heap.size w0 w1) (hg : w1.grownBy w2 v.ownBlock) : Below w0.heap.size w0 w2 :=
  hb.grown hg hb.size (fun k hk => (h.lt k hk).1)

set_option maxRecDepth 100000 in
set_option maxHeartbeats 1000000 in
theorem refAll_any (s : ByteArray) (hs : s.size ≤ 1000000) (w : World) : Calls Tryd.prog 16 #[.string s] w (AllEnds s.data.toList w) := by
  have el : s.data.toList.length = s.size := by simp
  obtain ⟨i0, hi, hz0, hz1, hz2⟩ := info_parts info_tok
  by_cases hbig : (400 : Int) < s.size
  · have HV : Hid (allV s.data.toList = ([], 0, 4)) := Lib.hid (by unfold allV; rw [if_pos (by omega)])
    clear hi hz0 hz1 hz2 el
    go_enter Tryd.func16, Tryd.ntmps16
    go_wp2_with fail
    go_ret3
    refine ⟨.slice none 0 0, ?_, ?_, Below.refl _ _, fun _ => rfl⟩
    · rw [HV.out]; rfl
    · rw [HV.out]; exact World.ownsRow_nil _ _ _ _
  have HV : Hid (allV s.data.toList = if (lexF (s.data.toList.length + 1) 0 0 s.data.toList).2.2 = 0 then lexF (s.data.toList.length + 1) 0 0 s.data.toList else ([], (lexF (s.data.toList.length + 1) 0 0 s.data.toList).2.1, (lexF (s.data.toList.length + 1) 0 0 s.data.toList).2.2)) :=
    Lib.hid (by unfold allV; rw [if_neg (by omega)])
  have HE := Lib.hid el
  have R1 := Lib.hid (fun a ha => refRun_any 1 s a ha (by unfold maxLen; omega))
  have NX := Lib.hid (fun a ha => refNext_any s a ha hs)
  have HI := Lib.hid (And.intro hi (And.intro hz0 (And.intro hz1 hz2)))
  clear hi hz0 hz1 hz2 el
  go_enter Tryd.func16, Tryd.ntmps16
  go_wp2_with fail
  refine (R1.out 0 (Nat.zero_le _) _).mono ?_
  rintro e w1 ⟨rfl, rfl⟩
  go_wp2_with fail
  go_loopg [5, 6] (s.size - runN 1 s.data.toList) (fun g s5 s6 wx => ∃ (off p f : Nat) (ts : List Tok), p + g = s.size ∧ s6 = .int .i64 p ∧ Hid (off + runN 1 (s.data.toList.drop off) = p) ∧ Hid (off ≤ s.size ∧ s.size - off ≤ f) ∧ ts.length ≤ 200 ∧
      Hid (wx.ownsRow w.heap.size 30 3 s5 ts.length (rowCells ts)) ∧ Hid (Below w.heap.size w wx) ∧ Hid (Left s.data.toList (f + 1) off ts))
  case atStart =>
    have hle := runN_le 1 s.data.toList
    rw [HE.out] at hle
    have hst := left_start s.data.toList
    rw [HE.out] at hst
    exact ⟨0, runN 1 s.data.toList, s.size, [], by omega, rfl, Lib.hid (by rw [List.drop_zero, Nat.zero_add]), Lib.hid ⟨Nat.zero_le _, Nat.sub_le _ _⟩, Nat.zero_le _, Lib.hid (World.ownsRow_nil _ _ _ _), Lib.hid (Below.refl _ _), Lib.hid hst⟩
  case round =>
    obtain ⟨off, p, f, ts, hp, rfl, HP, HF, hts, HO, HB, HL⟩ := hrel
    obtain ⟨ad, cap, rfl⟩ := own_shape HO.out
    cases gk with
    | zero =>
      obtain rfl : p = s.size := by omega
      have HR : Hid (allV s.data.toList = (ts, s.size, 0)) := Lib.hid (by
        have h := left_end HL.out (by rw [HE.out]; exact HF.out.1) (by rw [HP.out, HE.out]; exact Nat.le_refl _)
        rw [HE.out] at h
        rw [HV.out, HE.out, h]; rfl)
      go_wp2_with fail
      go_ret3
      refine ⟨.slice ad ts.length cap, ?_, ?_, HB.out, ?_⟩
      · rw [HR.out]; rfl
      · rw [HR.out]; exact HO.out
      · rw [HR.out]; exact fun h => absurd rfl h
    | succ g =>
      have hlt : p < s.size := by omega
      have N := Lib.hid (NX.out p hlt)
      by_cases hc : ts.length = 200
      · have hq : ((ts.length : Int) == 200) = true := by rw [hc]; rfl
        have HR : Hid (allV s.data.toList = ([], p, 4)) := Lib.hid (by
          have h := left_many HL.out (by rw [HP.out, HE.out]; exact hlt) hc
          rw [HP.out] at h
          rw [HV.out, h]; rfl)
        clear hc
        go_wp2_with fail
        go_ret3
        refine ⟨.slice none 0 0, ?_, ?_, HB.out, fun _ => rfl⟩
        · rw [HR.out]; rfl
        · rw [HR.out]; exact World.ownsRow_nil _ _ _ _
      · have hq : ((ts.length : Int) == 200) = false := by rw [beq_eq_false_iff_ne]; omega
        go_wp2_with fail
        refine (N.out _).mono ?_
        rintro e w2 ⟨k, t, q, rfl, hN, hb⟩
        have HN := Lib.hid hN
        have HB2 := Lib.hid (below_step HB.out hb)
        have HO2 := Lib.hid (keeps_own HO.out hb)
        clear hN hb
        by_cases he : tokE (s.data.toList.drop p) = 0
        · have hq2 : (tokE (s.data.toList.drop p) != 0) = false := by rw [he]; rfl
          have HE2 := Lib.hid he
          have h200 : ts.length ≤ 199 := by omega
          clear he
          go_wp2_with (at_builtin; refine wpList_append_own _ rfl _ _ 28 rfl w.heap.size 30 i0 (.agg #[.int .u8 0, .string { data := #[] }, .int .i64 0]) 3 32 Tryd.underlying28 HI.out.1 HI.out.2.1 HI.out.2.2.1 HI.out.2.2.2 rfl (by decide) _ _ _ rfl ((HO2.out.alloc _).alloc _) ⟨w2.heap.size + 1, 0, none⟩ 1 1 [.int .u8 k, .string t, .int .i64 q] rfl rfl ?c1 ?c2 ?c3 ?c4 ?c5 ?_)
          case c1 =>
            intro j u hj
            match j with
            | 0 => simp at hj; subst hj; simp [go_sem, Addr.add]
            | 1 => simp at hj; subst hj; simp [go_sem, Addr.add]
            | 2 => simp at hj; subst hj; simp [go_sem, Addr.add]
            | j + 3 => simp at hj
          case c2 => intro u hu; simp at hu; rcases hu with rfl | rfl | rfl <;> rfl
          case c3 => unfold maxLen; omega
          case c4 => omega
          case c5 => have := HB2.out.size; simp; omega
          intro v' w3 hown' hgrow _
          obtain ⟨n1, n2, n3⟩ := HN.out HE2.out
          have hts2 : t.size = tokN (s.data.toList.drop p) := by
            have h1 := tokN_le (s.data.toList.drop p)
            rw [n2]
            show ((s.data.toList.drop p).take (tokN (s.data.toList.drop p))).toArray.size = _
            simp only [List.size_toArray, List.length_take]
            omega
          have hpos := tokN_pos HE2.out
          have ht0 : 0 < t.size := by omega
          have hle : p + t.size ≤ s.size := by
            have h1 := tokN_le (s.data.toList.drop p)
            rw [List.length_drop, HE.out] at h1
            omega
          have hcell : w3.cell? ⟨w2.heap.size, 1, none⟩ = some (.string t) := grown_cell HO2.out hgrow (Nat.le_refl _) (by simp [go_sem])
          have HB3 := Lib.hid (grown_own_below HO2.out (HB2.out.alloc HB2.out.size _ |>.alloc (by have := HB2.out.size; simp; omega) _) hgrow)
          have hL := left_step HL.out (by rw [HP.out, HE.out]; exact hlt) (by omega) HP.out HE2.out
          have HR2 := Lib.hid (fun (W : World) => refRun_at 1 s ((p : Int) + t.size) (p + t.size) (by omega) hle (by unfold maxLen; omega) W)
          have hf1 := HF.out
          have hf2 := HP.out
          obtain ⟨f2, rfl⟩ : ∃ f2, f = f2 + 1 := ⟨f - 1, by omega⟩
          have HO3 : Hid (w3.ownsRow w.heap.size 30 3 v' (ts ++ [newTok s.data.toList p]).length (rowCells (ts ++ [newTok s.data.toList p]))) := Lib.hid (by
            rw [rowCells_add, List.length_append]
            unfold tokCells newTok
            rw [← n1, ← n2, ← n3]
            exact hown')
          have HL3 := Lib.hid hL
          have HN2 : Hid (t.size = tokN (s.data.toList.drop p)) := Lib.hid hts2
          have HF3 : Hid (p + t.size ≤ s.size ∧ s.size - (p + t.size) ≤ f2) := Lib.hid ⟨hle, by omega⟩
          clear hown' hgrow n1 n2 n3 hL hf1 hf2 hts2
          go_wp2_with fail
          refine (HR2.out _).mono ?_
          rintro e w4 ⟨rfl, rfl⟩
          have hrl := runN_le 1 (s.data.toList.drop (p + t.size))
          rw [List.length_drop, HE.out] at hrl
          go_wp2_with fail
          go_roundg (s.size - (p + t.size + runN 1 (s.data.toList.drop (p + t.size))))
          case measure => omega
          case rel =>
            refine ⟨p + t.size, p + t.size + runN 1 (s.data.toList.drop (p + t.size)), f2, _, by omega, by go_num, Lib.hid rfl, HF3, ?_, HO3, HB3, ?_⟩
            · rw [List.length_append]; show ts.length + 1 ≤ 200; omega
            · rw [HN2.out]; exact HL3
        · have hq2 : (tokE (s.data.toList.drop p) != 0) = true := by rw [bne_iff_ne]; exact he
          have HR : Hid (allV s.data.toList = ([], p, tokE (s.data.toList.drop p))) := Lib.hid (by
            have h := left_bad HL.out (by rw [HP.out, HE.out]; exact hlt) hc (by rw [HP.out]; exact he)
            rw [HP.out] at h
            rw [HV.out, h]
            simp only
            rw [if_neg he])
          clear he
          go_wp2_with fail
          go_ret3
          refine ⟨.slice none 0 0, ?_, ?_, ?_, fun _ => rfl⟩
          · rw [HR.out]; rfl
          · rw [HR.out]; exact World.ownsRow_nil _ _ _ _
          · exact HB2.out.alloc HB2.out.size _
end Go.Proofs.YtighmcooilcmfaaDoor

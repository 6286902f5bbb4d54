/-
  Contracts of the reference of layer 3: run, Next, Valid.
-/
import Derived.Test.YtighmcooilcmfaaDoorRefChars
import Derived.Test.YtighmcooilcmfaaDoorRefRead
import Derived.Test.YtighmcooilcmfaaDoorLexMath
import Derived.Laws.ResultCell
import Derived.Deep.MidRow
import Derived.Outline
namespace Go.Proofs.YtighmcooilcmfaaDoor
open Go.ChangeShapes Go.WideShapes Go.ChangeAt Go.RowKit

theorem u8_bounds (a : UInt8) : 0 ≤ (a.toNat : Int) ∧ (a.toNat : Int) ≤ 255 := by
  have := a.toNat_lt
  omega
theorem drop_cons (s : ByteArray) (j : Nat) (h : j < s.size) : s.data.toList.drop j = s[j] :: s.data.toList.drop (j + 1) := by
  rw [List.drop_eq_getElem_cons (by simpa using h)]; rfl
theorem kind_not {k : Int} {c : UInt8} (h : (kindV (c.toNat : Int) == k) = false) : isKind k c = false := by
  unfold isKind; rw [decide_eq_false_iff_not]; simpa using h
theorem kind_yes {k : Int} {c : UInt8} (h : (kindV (c.toNat : Int) == k) = true) : isKind k c = true := by
  unfold isKind; rw [decide_eq_true_iff]; simpa using h

theorem refRun_any (k : Int) (s : ByteArray) (a : Nat) (ha : a ≤ s.size) (hs : s.size ≤ maxLen) (w : World) :
    Calls Tryd.prog 30 #[.string s, .int .i64 a, .int .u8 k] w fun e w' => e = .returned (.int .i64 ((a + runN k (s.data.toList.drop a) : Nat) : Int)) ∧ w = w' := by
  unfold maxLen at hs
  go_enter Tryd.func30, Tryd.ntmps30
  go_wp2_with fail
  go_loopg [1] (s.size - a) (fun g i wx => ∃ j : Nat, j + g = s.size ∧ i = .int .i64 j ∧ Hid (a + runN k (s.data.toList.drop a) = j + runN k (s.data.toList.drop j)) ∧ w = wx)
  case atStart => exact ⟨a, by omega, rfl, Lib.hid rfl, rfl⟩
  case round =>
    obtain ⟨j, hj, rfl, HR, rfl⟩ := hrel
    cases gk with
    | zero =>
      obtain rfl : j = s.size := by omega
      have H : Hid (a + runN k (s.data.toList.drop a) = s.size) := Lib.hid (by
        rw [HR.out, List.drop_of_length_le (by simp)]; rfl)
      clear hj HR
      go_wp2_with fail
      go_ret
      exact ⟨by rw [H.out]; rfl, rfl⟩
    | succ g =>
      have hlt : j < s.size := by omega
      have K := Lib.hid (refKind_any (s[j].toNat : Int) (u8_bounds _).1 (u8_bounds _).2)
      cases hq : (kindV (s[j].toNat : Int) == k)
      · have H : Hid (a + runN k (s.data.toList.drop a) = j) := Lib.hid (by rw [HR.out, drop_cons s j hlt, runN_no (kind_not hq)]; rfl)
        clear HR
        go_wp2_with fail
        refine (K.out _).mono ?_
        rintro e w2 ⟨rfl, rfl⟩
        go_wp2_with fail
        go_ret
        exact ⟨by rw [H.out]; rfl, rfl⟩
      · have H : Hid (a + runN k (s.data.toList.drop a) = (j + 1) + runN k (s.data.toList.drop (j + 1))) := Lib.hid (by rw [HR.out, drop_cons s j hlt, runN_yes (kind_yes hq)]; omega)
        clear HR
        go_wp2_with fail
        refine (K.out _).mono ?_
        rintro e w2 ⟨rfl, rfl⟩
        go_wp2_with fail
        go_roundg g
        case measure => omega
        case rel => exact ⟨j + 1, by omega, by go_num, H, rfl⟩
theorem refRun_at (k : Int) (s : ByteArray) (a : Int) (n : Nat) (e : a = n) (hn : n ≤ s.size) (hs : s.size ≤ maxLen) (w : World) :
    Calls Tryd.prog 30 #[.string s, .int .i64 a, .int .u8 k] w fun e w' => e = .returned (.int .i64 ((n + runN k (s.data.toList.drop n) : Nat) : Int)) ∧ w = w' := by
  subst e
  exact refRun_any k s n hn hs w

/-! ### Next -/
theorem ext_eq (s : ByteArray) (a n : Nat) : s.extract a (a + n) = ⟨((s.data.toList.drop a).take n).toArray⟩ := by
  apply ByteArray.ext
  apply Array.toList_inj.1
  rw [ByteArray.data_extract, Array.toList_extract, List.extract_eq_take_drop]
  simp
/-- A token in three cells of a block, read as a result. -/
theorem tok_range {w : World} {b o : Nat} {k : Int} {t : ByteArray} {q : Int} (h0 : w.cell? ⟨b, o, none⟩ = some (.int .u8 k)) (h1 : w.cell? ⟨b, o + 1, none⟩ = some (.string t)) (h2 : w.cell? ⟨b, o + 2, none⟩ = some (.int .i64 q)) :
    w.rangeAt b o [.int .u8 k, .string t, .int .i64 q] := fun j v hv => by
  match j with
  | 0 => simp at hv; subst hv; exact h0
  | 1 => simp at hv; subst hv; exact h1
  | 2 => simp at hv; subst hv; exact h2
  | j + 3 => simp at hv
theorem iTok : (Tryd.prog.info? 30).map (·.size) = some 3 := by kernel_rfl
theorem ret_tok {fn : Func} {p u : Tmp} (h : fn.results = #[.cell p 30, .tmp u]) (tmps : Array Value) (w : World) (b : Nat) (k : Int) (t : ByteArray) (q : Int) (hp : tmps.getD p undef = .pointer (some ⟨b, 0, none⟩))
    (h0 : w.cell? ⟨b, 0, none⟩ = some (.int .u8 k)) (h1 : w.cell? ⟨b, 1, none⟩ = some (.string t)) (h2 : w.cell? ⟨b, 2, none⟩ = some (.int .i64 q)) :
    (results fn tmps).run Tryd.prog w = .ok (.tuple #[.agg #[.int .u8 k, .string t, .int .i64 q], tmps.getD u undef]) w := by
  have hl := run_loadVar_mid (P := Tryd.prog) w b 0 30 [.int .u8 k, .string t, .int .i64 q] _ (tok_range h0 h1 h2) Tryd.underlying30 rfl iTok
  rw [results_cell_tmp h, hp]
  simp only [asAddr, Sem.run_pure, Result.andThen_ok, hl]
theorem blk_cells {w w2 : World} {x y z : Value} {T : TypeId} (hb : Below (w.alloc (Obj.cells #[x, y, z] T)).heap.size (w.alloc (Obj.cells #[x, y, z] T)) w2) :
    (w2.cell? ⟨w.heap.size, 0, none⟩ = some x ∧ w2.cell? ⟨w.heap.size, 1, none⟩ = some y ∧ w2.cell? ⟨w.heap.size, 2, none⟩ = some z) ∧
    (w2.frozen? ⟨w.heap.size, 0, none⟩ = false ∧ w2.frozen? ⟨w.heap.size, 1, none⟩ = false ∧ w2.frozen? ⟨w.heap.size, 2, none⟩ = false) := by
  refine ⟨⟨?_, ?_, ?_⟩, ?_, ?_, ?_⟩
  · exact (hb.cell (p := ⟨w.heap.size, 0, none⟩) (by simp)).trans (by simp [go_sem])
  · exact (hb.cell (p := ⟨w.heap.size, 1, none⟩) (by simp)).trans (by simp [go_sem])
  · exact (hb.cell (p := ⟨w.heap.size, 2, none⟩) (by simp)).trans (by simp [go_sem])
  · exact (hb.frozen (p := ⟨w.heap.size, 0, none⟩) (by simp)).trans (by simp [go_sem])
  · exact (hb.frozen (p := ⟨w.heap.size, 1, none⟩) (by simp)).trans (by simp [go_sem])
  · exact (hb.frozen (p := ⟨w.heap.size, 2, none⟩) (by simp)).trans (by simp [go_sem])
theorem below_one {w w2 : World} {c : Array Value} {T : TypeId} (hb : Below (w.alloc (Obj.cells c T)).heap.size (w.alloc (Obj.cells c T)) w2) : Below w.heap.size w w2 :=
  ((Below.refl w.heap.size w).alloc (Nat.le_refl _) _).trans (hb.mono (by simp))
def NextEnds (l : List UInt8) (a : Nat) (w : World) (e : Ending) (w' : World) : Prop :=
  ∃ k t p, e = .returned (.tuple #[.agg #[.int .u8 k, .string t, .int .i64 p], .int .i64 (tokE l)]) ∧ (tokE l = 0 → k = tokK l ∧ t = ⟨(l.take (tokN l)).toArray⟩ ∧ p = a) ∧ Below w.heap.size w w'
set_option maxRecDepth 100000 in
set_option maxHeartbeats 1000000 in
theorem refNext_any (s : ByteArray) (a : Nat) (ha : a < s.size) (hs : s.size ≤ 1000000) (w : World) :
    Calls Tryd.prog 31 #[.string s, .int .i64 a] w (NextEnds (s.data.toList.drop a) a w) := by
  have K := Lib.hid (refKind_any (s[a].toNat : Int) (u8_bounds _).1 (u8_bounds _).2)
  have hd := drop_cons s a ha
  cases h2 : (kindV (s[a].toNat : Int) == 2)
  · cases h3 : (kindV (s[a].toNat : Int) == 3)
    · obtain ⟨o1, o2, o3⟩ := tok_other (kind_not h2) (kind_not h3) (s.data.toList.drop (a + 1))
      rw [← hd] at o1 o2 o3
      have hr := (sym_le (s.data.toList.drop a)).2
      rw [List.length_drop, Array.length_toList] at hr
      have hr2 : symL (s.data.toList.drop a) ≤ s.size - a := hr
      have L := Lib.hid (longest_any s a (by omega) (by unfold maxLen; omega))
      obtain ⟨n, hn⟩ : ∃ n, symL (s.data.toList.drop a) = n := ⟨_, rfl⟩
      rw [hn] at L hr2 o1 o2 o3
      have HO : Hid (tokK (s.data.toList.drop a) = (if n = 0 then 0 else 3) ∧ tokN (s.data.toList.drop a) = n ∧ tokE (s.data.toList.drop a) = if n = 0 then 32 else 0) := Lib.hid ⟨o1, o2, o3⟩
      clear hd o1 o2 o3 hr hn
      by_cases hz : n = 0
      · subst hz
        go_enter Tryd.func31, Tryd.ntmps31
        go_wp2_with fail
        refine (K.out _).mono ?_
        rintro e w2 ⟨rfl, rfl⟩
        go_wp2_with fail
        refine (L.out _).mono ?_
        rintro e w2 ⟨rfl, hb⟩
        have HB := Lib.hid (below_one hb)
        obtain ⟨⟨c0, c1, c2⟩, f0, f1, f2⟩ := blk_cells hb
        clear hb
        go_wp2_with fail
        refine bodyPost_ret (ret_tok rfl _ _ w.heap.size 0 { data := #[] } 0 rfl (by simp [go_sem, c0]) (by simp [go_sem, c1]) (by simp [go_sem, c2])) rfl ?_
        refine ⟨0, { data := #[] }, 0, ?_, fun h => ?_, ?_⟩
        · rw [HO.out.2.2]; rfl
        · rw [HO.out.2.2] at h; cases h
        · exact ((HB.out.setCell (Nat.le_refl _) _).setCell (Nat.le_refl _) _).setCell (Nat.le_refl _) _
      · have hz' : ((n : Int) == 0) = false := by rw [beq_eq_false_iff_ne]; omega
        go_enter Tryd.func31, Tryd.ntmps31
        go_wp2_with fail
        refine (K.out _).mono ?_
        rintro e w2 ⟨rfl, rfl⟩
        go_wp2_with fail
        refine (L.out _).mono ?_
        rintro e w2 ⟨rfl, hb⟩
        have HB := Lib.hid (below_one hb)
        obtain ⟨⟨c0, c1, c2⟩, f0, f1, f2⟩ := blk_cells hb
        clear hb
        go_wp2_with fail
        refine bodyPost_ret (ret_tok rfl _ _ w.heap.size 3 (s.extract a (a + n)) a rfl (by simp [go_sem, c0]) (by simp [go_sem, c1]) (by simp [go_sem, c2])) rfl ?_
        refine ⟨3, s.extract a (a + n), a, ?_, fun h => ⟨?_, ?_, rfl⟩, ?_⟩
        · rw [HO.out.2.2, if_neg hz]; rfl
        · rw [HO.out.1, if_neg hz]
        · rw [HO.out.2.1]; exact ext_eq s a n
        · exact ((HB.out.setCell (Nat.le_refl _) _).setCell (Nat.le_refl _) _).setCell (Nat.le_refl _) _
    · obtain ⟨o1, o2, o3⟩ := tok_three (kind_not h2) (kind_yes h3) (s.data.toList.drop (a + 1))
      rw [← hd] at o1 o2 o3
      have hr : runN 3 (s.data.toList.drop a) ≤ s.size - a := by
        have := runN_le 3 (s.data.toList.drop a)
        simpa using this
      have R := Lib.hid (refRun_any 3 s a (by omega) (by unfold maxLen; omega))
      obtain ⟨n, hn⟩ : ∃ n, runN 3 (s.data.toList.drop a) = n := ⟨_, rfl⟩
      rw [hn] at R hr o2 o3
      obtain ⟨t, ht⟩ : ∃ t, s.extract a (a + n) = t := ⟨_, rfl⟩
      have hte : t = ⟨((s.data.toList.drop a).take n).toArray⟩ := by rw [← ht, ext_eq]
      have htl : t.data.toList = (s.data.toList.drop a).take n := by rw [hte]
      rw [← htl] at o3
      have HT := Lib.hid hte
      have HO : Hid (tokK (s.data.toList.drop a) = 2 ∧ tokN (s.data.toList.drop a) = n ∧ tokE (s.data.toList.drop a) = if wordB t.data.toList then 0 else 32) := Lib.hid ⟨o1, o2, o3⟩
      have D := Lib.hid (refWord_any t)
      clear hn hd hte htl o1 o2 o3
      cases hw : wordB t.data.toList
      · go_enter Tryd.func31, Tryd.ntmps31
        go_wp2_with fail
        refine (K.out _).mono ?_
        rintro e w2 ⟨rfl, rfl⟩
        go_wp2_with fail
        refine (R.out _).mono ?_
        rintro e w2 ⟨rfl, rfl⟩
        go_wp2_with fail
        refine (D.out _).mono ?_
        rintro e w2 ⟨rfl, hb⟩
        have HB := Lib.hid (below_one (below_one hb))
        obtain ⟨⟨d0, d1, d2⟩, _⟩ := blk_cells hb
        simp only [World.size_alloc] at d0 d1 d2
        obtain ⟨⟨c0, c1, c2⟩, f0, f1, f2⟩ := blk_cells (below_one hb)
        clear hb
        go_wp2_with fail
        refine bodyPost_ret (ret_tok rfl _ _ w.heap.size 2 t a rfl (by simp [go_sem, c0]) (by simp [go_sem, c1]) (by simp [go_sem, c2])) rfl ?_
        refine ⟨2, t, a, ?_, fun h => ?_, ?_⟩
        · rw [HO.out.2.2, hw]; rfl
        · rw [HO.out.2.2, hw] at h; cases h
        · exact ((HB.out.setCell (Nat.le_refl _) _).setCell (Nat.le_refl _) _).setCell (Nat.le_refl _) _
      · go_enter Tryd.func31, Tryd.ntmps31
        go_wp2_with fail
        refine (K.out _).mono ?_
        rintro e w2 ⟨rfl, rfl⟩
        go_wp2_with fail
        refine (R.out _).mono ?_
        rintro e w2 ⟨rfl, rfl⟩
        go_wp2_with fail
        refine (D.out _).mono ?_
        rintro e w2 ⟨rfl, hb⟩
        have HB := Lib.hid (below_one (below_one hb))
        obtain ⟨⟨d0, d1, d2⟩, _⟩ := blk_cells hb
        simp only [World.size_alloc] at d0 d1 d2
        obtain ⟨⟨c0, c1, c2⟩, f0, f1, f2⟩ := blk_cells (below_one hb)
        clear hb
        go_wp2_with fail
        refine bodyPost_ret (ret_tok rfl _ _ w.heap.size 2 t a rfl (by simp [go_sem, c0]) (by simp [go_sem, c1]) (by simp [go_sem, c2])) rfl ?_
        refine ⟨2, t, a, ?_, fun h => ⟨HO.out.1.symm, ?_, rfl⟩, ?_⟩
        · rw [HO.out.2.2, hw]; rfl
        · rw [HO.out.2.1]; exact HT.out
        · exact ((HB.out.setCell (Nat.le_refl _) _).setCell (Nat.le_refl _) _).setCell (Nat.le_refl _) _
  · obtain ⟨o1, o2, o3⟩ := tok_two (kind_yes h2) (s.data.toList.drop (a + 1))
    rw [← hd] at o1 o2 o3
    have hr : runN 2 (s.data.toList.drop a) ≤ s.size - a := by
      have := runN_le 2 (s.data.toList.drop a)
      simpa using this
    have R := Lib.hid (refRun_any 2 s a (by omega) (by unfold maxLen; omega))
    obtain ⟨n, hn⟩ : ∃ n, runN 2 (s.data.toList.drop a) = n := ⟨_, rfl⟩
    rw [hn] at R hr o2 o3
    obtain ⟨t, ht⟩ : ∃ t, s.extract a (a + n) = t := ⟨_, rfl⟩
    have hts : t.size ≤ 1000000 := by rw [← ht]; simp; omega
    have hte : t = ⟨((s.data.toList.drop a).take n).toArray⟩ := by rw [← ht, ext_eq]
    have htl : t.data.toList = (s.data.toList.drop a).take n := by rw [hte]
    rw [← htl] at o3
    have HT := Lib.hid hte
    have HO := Lib.hid (show tokK (s.data.toList.drop a) = 1 ∧ tokN (s.data.toList.drop a) = n ∧ tokE (s.data.toList.drop a) = rdE t.data.toList from ⟨o1, o2, o3⟩)
    have D := Lib.hid (refRead_any t hts)
    clear hn hd hte htl o1 o2 o3
    go_enter Tryd.func31, Tryd.ntmps31
    go_wp2_with fail
    refine (K.out _).mono ?_
    rintro e w2 ⟨rfl, rfl⟩
    go_wp2_with fail
    refine (R.out _).mono ?_
    rintro e w2 ⟨rfl, rfl⟩
    go_wp2_with fail
    refine (D.out _).mono ?_
    rintro e w2 ⟨rfl, rfl⟩
    go_wp2_with fail
    refine bodyPost_ret (ret_tok rfl _ _ w.heap.size 1 t a rfl (by simp [go_sem]) (by simp [go_sem]) (by simp [go_sem])) rfl ?_
    refine ⟨1, t, a, ?_, fun _ => ⟨HO.out.1.symm, ?_, rfl⟩, ((Below.refl w.heap.size w).alloc (Nat.le_refl _) _).alloc (by simp) _⟩
    · rw [HO.out.2.2]; rfl
    · rw [HO.out.2.1]; exact HT.out
end Go.Proofs.YtighmcooilcmfaaDoor

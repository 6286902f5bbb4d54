/-
  The walk of layer 5's statement ExprsNames: the chapter's examples, each line of the grammar, texts that are no expressions, limits, errors.
-/
import Derived.Test.YtbhipjinoammjaaDoorqExprNamesFacts
import Derived.Deep.RegionHeld3
import Derived.Outline
namespace Go.Proofs.YtbhipjinoammjaaDoor.ExprW
open Nodes Exprs
open Go.ChangeShapes Go.WideShapes Go.ChangeAt Go.RowKit

/-- What Parse returns of given tokens. -/
theorem parse_is (ts : List Tok) (at_ a c : Int) (n : Nat) (h : (parseV ts at_).1.length = n ∧ (parseV ts at_).2 = (a, c)) (hn : ts.length ≤ 1000000) (hx : ∀ t ∈ ts, t.text.length ≤ 281474976710656) (v : Value) (w : World) (hf : ExprFix w) (hR : Go.Proofs.YtbhipjinoammjaaDoor.Reads w v ts) :
    Calls Tryd.prog 9 #[v, .int .i64 at_] w fun e w' => ∃ ad cap, e = .returned (.tuple #[.slice ad n cap, .int .i64 a, .int .i64 c]) ∧ Below w.heap.size w w' := by
  refine (exprsParse_any v ts at_ w hf hR hn hx).mono ?_
  rintro e w' ⟨u, rfl, ho, hb⟩
  obtain ⟨ad, cap, rfl⟩ := own_shape ho
  rw [h.1, h.2]
  exact ⟨ad, cap, rfl, hb⟩
/-- A row of tokens written out. -/
theorem lit_reads (w : World) (ts : List Tok) (n : Nat) (hn : ts.length = n) (nb : Nat) (hnb : w.heap.size = nb) : Go.Proofs.YtbhipjinoammjaaDoor.Reads (w.alloc (.cells (rowCells ts).toArray 33)) (.slice (some ⟨nb, 0, none⟩) n n) ts := by
  subst hn hnb
  refine .inr ⟨w.heap.size, 0, ts.length, rfl, by simp, fun i t ht => ?_⟩
  obtain ⟨h0, h1, h2⟩ := rowCells_at ts i t ht
  have e : ∀ j, ((rowCells ts).toArray)[j]? = (rowCells ts)[j]? := fun j => by rw [List.getElem?_toArray]
  refine ⟨?_, ?_, ?_⟩
  · rw [World.cell?_alloc_at _ _ _ _ rfl, e, Nat.zero_add]; exact h0
  · rw [World.cell?_alloc_at _ _ _ _ rfl, e, Nat.zero_add]; exact h1
  · rw [World.cell?_alloc_at _ _ _ _ rfl, e, Nat.zero_add]; exact h2
set_option maxRecDepth 100000 in
set_option maxHeartbeats 8000000 in
theorem names_walk (w : World) (hf : ExprFix w) :
    Calls Tryd.prog 3 #[] w fun e w' => e = .returned (.bool true) ∧ Below w.heap.size w w' := by
  have F := Lib.hid hf
  have B := Lib.hid (Below.refl w.heap.size w)
  have AL := Lib.hid alive_any
  clear hf
  go_enter Tryd.func3, Tryd.ntmps3
  go_wp2_with fail
  refine (reads_is _ _ (by decide +kernel) _ F.out).mono ?_
  rintro e w1 ⟨rfl, hb⟩
  have F := Lib.hid (F.out.below hb)
  have B := Lib.hid (below_step B.out hb)
  clear hb
  go_wp2_with fail
  refine (reads_is _ _ (by decide +kernel) _ F.out).mono ?_
  rintro e w1 ⟨rfl, hb⟩
  have F := Lib.hid (F.out.below hb)
  have B := Lib.hid (below_step B.out hb)
  clear hb
  go_wp2_with fail
  refine (reads_is _ _ (by decide +kernel) _ F.out).mono ?_
  rintro e w1 ⟨rfl, hb⟩
  have F := Lib.hid (F.out.below hb)
  have B := Lib.hid (below_step B.out hb)
  clear hb
  go_wp2_with fail
  refine (reads_is _ _ (by decide +kernel) _ F.out).mono ?_
  rintro e w1 ⟨rfl, hb⟩
  have F := Lib.hid (F.out.below hb)
  have B := Lib.hid (below_step B.out hb)
  clear hb
  go_wp2_with fail
  refine (reads_is _ _ (by decide +kernel) _ F.out).mono ?_
  rintro e w1 ⟨rfl, hb⟩
  have F := Lib.hid (F.out.below hb)
  have B := Lib.hid (below_step B.out hb)
  clear hb
  go_wp2_with fail
  refine (reads_is _ _ (by decide +kernel) _ F.out).mono ?_
  rintro e w1 ⟨rfl, hb⟩
  have F := Lib.hid (F.out.below hb)
  have B := Lib.hid (below_step B.out hb)
  clear hb
  go_wp2_with fail
  refine (reads_is _ _ (by decide +kernel) _ F.out).mono ?_
  rintro e w1 ⟨rfl, hb⟩
  have F := Lib.hid (F.out.below hb)
  have B := Lib.hid (below_step B.out hb)
  clear hb
  go_wp2_with fail
  refine (reads_is _ _ (by decide +kernel) _ F.out).mono ?_
  rintro e w1 ⟨rfl, hb⟩
  have F := Lib.hid (F.out.below hb)
  have B := Lib.hid (below_step B.out hb)
  clear hb
  go_wp2_with fail
  refine (reads_is _ _ (by decide +kernel) _ F.out).mono ?_
  rintro e w1 ⟨rfl, hb⟩
  have F := Lib.hid (F.out.below hb)
  have B := Lib.hid (below_step B.out hb)
  clear hb
  go_wp2_with fail
  refine (reads_is _ _ (by decide +kernel) _ F.out).mono ?_
  rintro e w1 ⟨rfl, hb⟩
  have F := Lib.hid (F.out.below hb)
  have B := Lib.hid (below_step B.out hb)
  clear hb
  go_wp2_with fail
  refine (reads_is _ _ (by decide +kernel) _ F.out).mono ?_
  rintro e w1 ⟨rfl, hb⟩
  have F := Lib.hid (F.out.below hb)
  have B := Lib.hid (below_step B.out hb)
  clear hb
  go_wp2_with fail
  refine (reads_is _ _ (by decide +kernel) _ F.out).mono ?_
  rintro e w1 ⟨rfl, hb⟩
  have F := Lib.hid (F.out.below hb)
  have B := Lib.hid (below_step B.out hb)
  clear hb
  go_wp2_with fail
  refine (reads_is _ _ (by decide +kernel) _ F.out).mono ?_
  rintro e w1 ⟨rfl, hb⟩
  have F := Lib.hid (F.out.below hb)
  have B := Lib.hid (below_step B.out hb)
  clear hb
  go_wp2_with fail
  refine (reads_is _ _ (by decide +kernel) _ F.out).mono ?_
  rintro e w1 ⟨rfl, hb⟩
  have F := Lib.hid (F.out.below hb)
  have B := Lib.hid (below_step B.out hb)
  clear hb
  go_wp2_with fail
  refine (reads_is _ _ (by decide +kernel) _ F.out).mono ?_
  rintro e w1 ⟨rfl, hb⟩
  have F := Lib.hid (F.out.below hb)
  have B := Lib.hid (below_step B.out hb)
  clear hb
  go_wp2_with fail
  have hb2 : Below w1.heap.size w1 ((w1.alloc (.cells wrongVals 9)).alloc (.cells watVals 3)) := ((Below.refl _ _).alloc (Nat.le_refl _) _).alloc (by simp) _
  have WA := Lib.hid (wrong_start w1)
  have F := Lib.hid (F.out.below hb2)
  have B := Lib.hid (below_step B.out hb2)
  obtain ⟨nb, hnb⟩ : ∃ n, w1.heap.size = n := ⟨_, rfl⟩
  rw [hnb] at WA
  simp only [hnb]
  clear hb2 hnb
  go_loopg [4] 17 (fun g i wx => ∃ k : Nat, k + g = 17 ∧ i = .int .i64 k ∧ Hid (WrongAt nb wx) ∧ Hid (ExprFix wx) ∧ Hid (Below w.heap.size w wx))
  case atStart => exact ⟨0, by omega, rfl, WA, F, B⟩
  case round =>
    obtain ⟨k, hk, rfl, WB, G, C⟩ := hrel
    clear WA F B
    cases gk with
    | succ g =>
      have hk17 : k < 17 := by omega
      have WK := wrong_all ⟨k, hk17⟩
      have WS := wrong_short ⟨k, hk17⟩
      unfold wrongB at WK
      simp only at WK WS
      obtain ⟨c1, c2⟩ := WB.out.2 k hk17
      obtain ⟨x, hx⟩ : ∃ x, wrongs.getD k [] = x := ⟨_, rfl⟩
      obtain ⟨a, ha⟩ : ∃ a, wats.getD k 0 = a := ⟨_, rfl⟩
      rw [hx] at WK WS c1
      rw [ha] at WK c2
      have A := Lib.hid (fits_all ⟨x.toArray⟩ (by show x.toArray.size ≤ _; unfold maxLen; simp; omega))
      have hxe : (⟨x.toArray⟩ : ByteArray).data.toList = x := rfl
      have SH := all_short x
      rw [hxe] at A
      rw [Bool.and_eq_true, decide_eq_true_eq] at WK
      obtain ⟨W0, W1⟩ := WK
      rw [W0] at A
      obtain ⟨ts, hts⟩ : ∃ ts, (allV x).1 = ts := ⟨_, rfl⟩
      rw [hts] at A SH W1
      have P := Lib.hid (fun v W hW hR => exprsParse_any v ts 0 W hW hR SH.1 SH.2)
      obtain ⟨y, n, f, hp⟩ : ∃ y n f, parseV ts 0 = (y, n, f) := ⟨_, _, _, rfl⟩
      rw [hp] at P W1
      simp only at W1
      have WC := Lib.hid WB.out
      by_cases h0 : 0 ≤ a
      · rw [if_pos h0, decide_eq_true_eq] at W1
        injection W1 with e1 e2
        subst e1
        subst e2
        have d1 : decide (0 ≤ n) = true := decide_eq_true h0
        have d2 : decide (n < 0) = false := decide_eq_false (by omega)
        clear W0 SH hp hts hx ha WS hxe h0
        go_wp2_with fail
        refine (A.out _ G.out.1).mono ?_
        rintro e w2 ⟨v, rfl, hr, hb⟩
        obtain ⟨ad, cap, rfl⟩ := hr.shape
        have G2 := Lib.hid (G.out.below hb)
        have C2 := Lib.hid (below_step C.out hb)
        have R2 := Lib.hid hr
        have WB2 := Lib.hid (WB.out.below hb)
        have c2' := (hb.cell (p := ⟨nb + 1, k, none⟩) WB.out.1).trans c2
        clear hb hr c1 c2
        go_wp2_with fail
        refine (P.out _ _ G2.out R2.out).mono ?_
        rintro e w3 ⟨u, rfl, ho, hb⟩
        obtain ⟨ad3, cap3, rfl⟩ := own_shape ho
        have G3 := Lib.hid (G2.out.below hb)
        have C3 := Lib.hid (below_step C2.out hb)
        have WB3 := Lib.hid (WB2.out.below hb)
        have c3 := (hb.cell (p := ⟨nb + 1, k, none⟩) WB2.out.1).trans c2'
        clear hb ho c2'
        go_wp2_with fail
        go_roundg g
        case measure => omega
        case rel => exact ⟨k + 1, by omega, by go_num, WB3, G3, C3⟩
      · rw [if_neg h0, decide_eq_true_eq] at W1
        injection W1 with e1 e2
        subst e1
        subst e2
        have d1 : decide (0 ≤ a) = false := decide_eq_false h0
        have d2 : decide (a < 0) = true := decide_eq_true (by omega)
        clear W0 SH hp hts hx ha WS hxe h0
        go_wp2_with fail
        refine (A.out _ G.out.1).mono ?_
        rintro e w2 ⟨v, rfl, hr, hb⟩
        obtain ⟨ad, cap, rfl⟩ := hr.shape
        have G2 := Lib.hid (G.out.below hb)
        have C2 := Lib.hid (below_step C.out hb)
        have R2 := Lib.hid hr
        have WB2 := Lib.hid (WB.out.below hb)
        have c2' := (hb.cell (p := ⟨nb + 1, k, none⟩) WB.out.1).trans c2
        clear hb hr c1 c2
        go_wp2_with fail
        refine (P.out _ _ G2.out R2.out).mono ?_
        rintro e w3 ⟨u, rfl, ho, hb⟩
        obtain ⟨ad3, cap3, rfl⟩ := own_shape ho
        have G3 := Lib.hid (G2.out.below hb)
        have C3 := Lib.hid (below_step C2.out hb)
        have WB3 := Lib.hid (WB2.out.below hb)
        have c3 := (hb.cell (p := ⟨nb + 1, k, none⟩) WB2.out.1).trans c2'
        clear hb ho c2'
        go_wp2_with fail
        go_roundg g
        case measure => omega
        case rel => exact ⟨k + 1, by omega, by go_num, WB3, G3, C3⟩
    | zero =>
      obtain rfl : k = 17 := by omega
      clear hk WB
      go_wp2_with fail
      have V0 := VAt.start wr
      obtain ⟨W0, hW0⟩ : ∃ W, wr.alloc (Obj.cells #[.int .u8 2, .string { data := #[118] }, .int .i64 0] 33) = W := ⟨_, rfl⟩
      have S0 : wr.heap.size + 1 = W0.heap.size := by rw [← hW0]; simp
      have hb0 : Below wr.heap.size wr W0 := by rw [← hW0]; exact (Below.refl _ _).alloc (Nat.le_refl _) _
      replace V0 : VAt wr.heap.size W0 := by rw [← hW0]; exact V0
      have V0 := Lib.hid V0
      have G0 := Lib.hid (G.out.below hb0)
      have C0 := Lib.hid (below_step C.out hb0)
      have O0 := Lib.hid (own_tok W0 vTok #[.int .u8 2, .string { data := #[118] }, .int .i64 0] rfl)
      have HBX : Hid (Below W0.heap.size W0 (W0.alloc (Obj.cells #[.int .u8 2, .string { data := #[118] }, .int .i64 0] 33))) := Lib.hid ((Below.refl _ _).alloc (Nat.le_refl _) _)
      obtain ⟨i0, hi0⟩ := tok_info
      have HI := Lib.hid hi0
      obtain ⟨vb, hvb⟩ : ∃ n, wr.heap.size = n := ⟨_, rfl⟩
      obtain ⟨sb, hsb⟩ : ∃ n, W0.heap.size = n := ⟨_, rfl⟩
      simp only [hW0, S0]
      rw [hvb] at V0
      simp only [hvb, hsb]
      rw [hsb] at O0
      have HS := Lib.hid hsb
      clear hW0 S0 hb0 G C hi0 hvb hsb
      go_loopg [12, 13] 20 (fun g q i wx => ∃ k : Nat, k + g = 20 ∧ i = .int .i64 k ∧ Hid (wx.ownsRow sb 33 3 q (sumT k).length (rowCells (sumT k))) ∧ Hid (Below W0.heap.size W0 wx))
      case atStart => exact ⟨0, by omega, rfl, O0, HBX⟩
      case round =>
        obtain ⟨k, hk, rfl, HO, HBX⟩ := hrel
        cases gk with
        | succ g =>
          obtain ⟨hv1, c0, c1, c2⟩ := V0.out.below HBX.out
          go_wp2_with (at_builtin; refine wpList_append_own _ rfl _ _ 25 rfl sb 33 i0 (.agg #[.int .u8 0, .string { data := #[] }, .int .i64 0]) 3 32 Tryd.underlying25 HI.out.1 HI.out.2.1 HI.out.2.2.1 HI.out.2.2.2 rfl (by decide) _ _ _ rfl (HO.out.alloc _) ⟨wr.heap.size, 0, none⟩ 2 2 [.int .u8 3, .string { data := #[43] }, .int .i64 (k + 1), .int .u8 2, .string { data := #[118] }, .int .i64 0] rfl rfl ?c1 ?c2 ?c3 ?c4 ?c5 ?_)
          case c1 =>
            intro j u hj
            match j with
            | 0 => simp at hj; subst hj; simp [go_sem, Addr.add]
            | 1 => simp at hj; subst hj; simp [go_sem, Addr.add]
            | 2 => simp at hj; subst hj; simp [go_sem, Addr.add]
            | 3 => simp at hj; subst hj; simp [go_sem, Addr.add]
            | 4 => simp at hj; subst hj; simp [go_sem, Addr.add]
            | 5 => simp at hj; subst hj; simp [go_sem, Addr.add]
            | j + 6 => simp at hj
          case c2 => intro u hu; simp at hu; rcases hu with rfl | rfl | rfl | rfl | rfl | rfl <;> rfl
          case c3 => unfold maxLen; have := sumT_len k; omega
          case c4 => have := sumT_len k; omega
          case c5 => have := HBX.out.size; have := HS.out; simp; omega
          intro v' w3 hown' hgrow _
          have HO3 : Hid (w3.ownsRow sb 33 3 v' (sumT (k + 1)).length (rowCells (sumT (k + 1)))) := Lib.hid (own_more hown' rfl rfl rfl rfl)
          have HB3 : Hid (Below W0.heap.size W0 w3) := Lib.hid (grown_own_below (by rw [HS.out]; exact HO.out) (HBX.out.alloc HBX.out.size _) hgrow)
          clear hown' hgrow c0 c1 c2
          go_wp2_with fail
          go_roundg g
          case measure => omega
          case rel => exact ⟨k + 1, by omega, by go_num, HO3, HB3⟩
        | zero =>
          obtain rfl : k = 20 := by omega
          obtain ⟨ad, cap, rfl⟩ := own_shape HO.out
          clear hk
          go_wp2_with fail
          refine (parse_is (sumT 20) 0 39 34 0 sum_is (by decide) (by decide) _ _ (G0.out.below HBX.out) (own_reads HO.out)).mono ?_
          rintro e w4 ⟨ad4, cap4, rfl, hb⟩
          have G4 := Lib.hid ((G0.out.below HBX.out).below hb)
          have C4 := Lib.hid (below_step (below_step C0.out HBX.out) hb)
          have V4 := Lib.hid ((V0.out.below HBX.out).below hb)
          clear hb HO HBX
          go_wp2_with fail
          clear V0 G0 C0 O0 HS
          have O4 := Lib.hid (World.ownsRow_nil w4 w4.heap.size 33 3)
          have HBX := Lib.hid (Below.refl w4.heap.size w4)
          go_loopg [17, 19] 20 (fun g q i wx => ∃ k : Nat, k + g = 20 ∧ i = .int .i64 k ∧ Hid (wx.ownsRow w4.heap.size 33 3 q (minT k).length (rowCells (minT k))) ∧ Hid (Below w4.heap.size w4 wx))
          case atStart => exact ⟨0, by omega, rfl, O4, HBX⟩
          case round =>
            obtain ⟨k, hk, rfl, HO, HBX⟩ := hrel
            cases gk with
            | succ g =>
              go_wp2_with (at_builtin; refine wpList_append_own _ rfl _ _ 25 rfl w4.heap.size 33 i0 (.agg #[.int .u8 0, .string { data := #[] }, .int .i64 0]) 3 32 Tryd.underlying25 HI.out.1 HI.out.2.1 HI.out.2.2.1 HI.out.2.2.2 rfl (by decide) _ _ _ rfl (HO.out.alloc _) ⟨wr.heap.size, 0, none⟩ 1 1 [.int .u8 3, .string { data := #[45] }, .int .i64 0] rfl rfl ?c1 ?c2 ?c3 ?c4 ?c5 ?_)
              case c1 =>
                intro j u hj
                match j with
                | 0 => simp at hj; subst hj; simp [go_sem, Addr.add]
                | 1 => simp at hj; subst hj; simp [go_sem, Addr.add]
                | 2 => simp at hj; subst hj; simp [go_sem, Addr.add]
                | j + 3 => simp at hj
              case c2 => intro u hu; simp at hu; rcases hu with rfl | rfl | rfl <;> rfl
              case c3 => unfold maxLen; rw [minT_len]; omega
              case c4 => rw [minT_len]; omega
              case c5 => have := HBX.out.size; simp; omega
              intro v' w3 hown' hgrow _
              have HO3 : Hid (w3.ownsRow w4.heap.size 33 3 v' (minT (k + 1)).length (rowCells (minT (k + 1)))) := Lib.hid (own_more hown' (minT_more k) rfl rfl rfl)
              have HB3 : Hid (Below w4.heap.size w4 w3) := Lib.hid (grown_own_below HO.out (HBX.out.alloc HBX.out.size _) hgrow)
              clear hown' hgrow
              go_wp2_with fail
              go_roundg g
              case measure => omega
              case rel => exact ⟨k + 1, by omega, by go_num, HO3, HB3⟩
            | zero =>
              obtain rfl : k = 20 := by omega
              obtain ⟨ads, caps, rfl⟩ := own_shape HO.out
              have HOS := HO
              have B45 := HBX
              have G5 := Lib.hid (G4.out.below HBX.out)
              have C5 := Lib.hid (below_step C4.out HBX.out)
              have V5 := Lib.hid (V4.out.below HBX.out)
              clear hk HO HBX O4
              go_wp2_with fail
              obtain ⟨w5, hw5⟩ : ∃ x, wr = x := ⟨_, rfl⟩
              have O5 := Lib.hid (World.ownsRow_nil wr wr.heap.size 33 3)
              have HBX := Lib.hid (Below.refl wr.heap.size wr)
              rw [hw5] at O5 HBX HOS G5 C5 V5 B45
              simp only [hw5]
              clear hw5
              go_loopg [18, 20] 60 (fun g q i wx => ∃ k : Nat, k + g = 60 ∧ i = .int .i64 k ∧ Hid (wx.ownsRow w5.heap.size 33 3 q (lefT k).length (rowCells (lefT k))) ∧ Hid (Below w5.heap.size w5 wx))
              case atStart => exact ⟨0, by omega, rfl, O5, HBX⟩
              case round =>
                obtain ⟨k, hk, rfl, HO, HBX⟩ := hrel
                cases gk with
                | succ g =>
                  go_wp2_with (at_builtin; refine wpList_append_own _ rfl _ _ 25 rfl w5.heap.size 33 i0 (.agg #[.int .u8 0, .string { data := #[] }, .int .i64 0]) 3 32 Tryd.underlying25 HI.out.1 HI.out.2.1 HI.out.2.2.1 HI.out.2.2.2 rfl (by decide) _ _ _ rfl (HO.out.alloc _) ⟨wr.heap.size, 0, none⟩ 1 1 [.int .u8 3, .string { data := #[40] }, .int .i64 0] rfl rfl ?c1 ?c2 ?c3 ?c4 ?c5 ?_)
                  case c1 =>
                    intro j u hj
                    match j with
                    | 0 => simp at hj; subst hj; simp [go_sem, Addr.add]
                    | 1 => simp at hj; subst hj; simp [go_sem, Addr.add]
                    | 2 => simp at hj; subst hj; simp [go_sem, Addr.add]
                    | j + 3 => simp at hj
                  case c2 => intro u hu; simp at hu; rcases hu with rfl | rfl | rfl <;> rfl
                  case c3 => unfold maxLen; rw [lefT_len]; omega
                  case c4 => rw [lefT_len]; omega
                  case c5 => have := HBX.out.size; simp; omega
                  intro v' w3 hown' hgrow _
                  have HO3 : Hid (w3.ownsRow w5.heap.size 33 3 v' (lefT (k + 1)).length (rowCells (lefT (k + 1)))) := Lib.hid (own_more hown' (lefT_more k) rfl rfl rfl)
                  have HB3 : Hid (Below w5.heap.size w5 w3) := Lib.hid (grown_own_below HO.out (HBX.out.alloc HBX.out.size _) hgrow)
                  clear hown' hgrow
                  go_wp2_with fail
                  go_roundg g
                  case measure => omega
                  case rel => exact ⟨k + 1, by omega, by go_num, HO3, HB3⟩
                | zero =>
                  obtain rfl : k = 60 := by omega
                  clear hk
                  obtain ⟨hv1, c0, c1, c2⟩ := V5.out.below HBX.out
                  go_wp2_with (at_builtin; refine wpList_append_own _ rfl _ _ 25 rfl w5.heap.size 33 i0 (.agg #[.int .u8 0, .string { data := #[] }, .int .i64 0]) 3 32 Tryd.underlying25 HI.out.1 HI.out.2.1 HI.out.2.2.1 HI.out.2.2.2 rfl (by decide) _ _ _ rfl (HO.out.alloc _) ⟨wr.heap.size, 0, none⟩ 1 1 [.int .u8 2, .string { data := #[118] }, .int .i64 0] rfl rfl ?c1 ?c2 ?c3 ?c4 ?c5 ?_)
                  case c1 =>
                    intro j u hj
                    match j with
                    | 0 => simp at hj; subst hj; simp [go_sem, Addr.add]
                    | 1 => simp at hj; subst hj; simp [go_sem, Addr.add]
                    | 2 => simp at hj; subst hj; simp [go_sem, Addr.add]
                    | j + 3 => simp at hj
                  case c2 => intro u hu; simp at hu; rcases hu with rfl | rfl | rfl <;> rfl
                  case c3 => unfold maxLen; rw [lefT_len]; omega
                  case c4 => rw [lefT_len]; omega
                  case c5 => have := HBX.out.size; simp; omega
                  intro v' w3 hown' hgrow _
                  have HO3 : Hid (w3.ownsRow w5.heap.size 33 3 v' (braT 0).length (rowCells (braT 0))) := Lib.hid (own_more hown' braT_zero rfl rfl rfl)
                  have HB3 : Hid (Below w5.heap.size w5 w3) := Lib.hid (grown_own_below HO.out (HBX.out.alloc HBX.out.size _) hgrow)
                  clear hown' hgrow c0 c1 c2 hv1 HO HBX
                  go_wp2_with fail
                  go_loopg [18, 21] 60 (fun g q i wx => ∃ k : Nat, k + g = 60 ∧ i = .int .i64 k ∧ Hid (wx.ownsRow w5.heap.size 33 3 q (braT k).length (rowCells (braT k))) ∧ Hid (Below w5.heap.size w5 wx))
                  case atStart => exact ⟨0, by omega, rfl, HO3, HB3⟩
                  case round =>
                    obtain ⟨k, hk, rfl, HO, HBX⟩ := hrel
                    cases gk with
                    | succ g =>
                      go_wp2_with (at_builtin; refine wpList_append_own _ rfl _ _ 25 rfl w5.heap.size 33 i0 (.agg #[.int .u8 0, .string { data := #[] }, .int .i64 0]) 3 32 Tryd.underlying25 HI.out.1 HI.out.2.1 HI.out.2.2.1 HI.out.2.2.2 rfl (by decide) _ _ _ rfl (HO.out.alloc _) ⟨wr.heap.size, 0, none⟩ 1 1 [.int .u8 3, .string { data := #[41] }, .int .i64 0] rfl rfl ?c1 ?c2 ?c3 ?c4 ?c5 ?_)
                      case c1 =>
                        intro j u hj
                        match j with
                        | 0 => simp at hj; subst hj; simp [go_sem, Addr.add]
                        | 1 => simp at hj; subst hj; simp [go_sem, Addr.add]
                        | 2 => simp at hj; subst hj; simp [go_sem, Addr.add]
                        | j + 3 => simp at hj
                      case c2 => intro u hu; simp at hu; rcases hu with rfl | rfl | rfl <;> rfl
                      case c3 => unfold maxLen; rw [braT_len k]; omega
                      case c4 => rw [braT_len k]; omega
                      case c5 => have := HBX.out.size; simp; omega
                      intro v' w3 hown' hgrow _
                      have HO3 : Hid (w3.ownsRow w5.heap.size 33 3 v' (braT (k + 1)).length (rowCells (braT (k + 1)))) := Lib.hid (own_more hown' (braT_more k) rfl rfl rfl)
                      have HB3 : Hid (Below w5.heap.size w5 w3) := Lib.hid (grown_own_below HO.out (HBX.out.alloc HBX.out.size _) hgrow)
                      clear hown' hgrow
                      go_wp2_with fail
                      go_roundg g
                      case measure => omega
                      case rel => exact ⟨k + 1, by omega, by go_num, HO3, HB3⟩
                    | zero =>
                      obtain rfl : k = 60 := by omega
                      obtain ⟨adb, capb, rfl⟩ := own_shape HO.out
                      clear hk
                      have HB0 := HBX
                      obtain ⟨hv1, c0, c1, c2⟩ := V5.out.below HBX.out
                      have HOS6 := Lib.hid (keeps_own HOS.out HBX.out)
                      have HOB := HO
                      go_wp2_with (at_builtin; refine wpList_append_own _ rfl _ _ 25 rfl w4.heap.size 33 i0 (.agg #[.int .u8 0, .string { data := #[] }, .int .i64 0]) 3 32 Tryd.underlying25 HI.out.1 HI.out.2.1 HI.out.2.2.1 HI.out.2.2.2 rfl (by decide) _ _ _ rfl (HOS6.out.alloc _) ⟨wr.heap.size, 0, none⟩ 1 1 [.int .u8 2, .string { data := #[118] }, .int .i64 0] rfl rfl ?c1 ?c2 ?c3 ?c4 ?c5 ?_)
                      case c1 =>
                        intro j u hj
                        match j with
                        | 0 => simp at hj; subst hj; simp [go_sem, Addr.add]
                        | 1 => simp at hj; subst hj; simp [go_sem, Addr.add]
                        | 2 => simp at hj; subst hj; simp [go_sem, Addr.add]
                        | j + 3 => simp at hj
                      case c2 => intro u hu; simp at hu; rcases hu with rfl | rfl | rfl <;> rfl
                      case c3 => unfold maxLen; rw [minT_len]; omega
                      case c4 => rw [minT_len]; omega
                      case c5 => have := HBX.out.size; have := B45.out.size; simp; omega
                      intro v' w3 hown' hgrow _
                      have HB3 : Hid (Below w4.heap.size w4 w3) := Lib.hid (grown_own_below HOS6.out ((below_step B45.out HBX.out).alloc (by have := HBX.out.size; have := B45.out.size; omega) _) hgrow)
                      have HOB3 := Lib.hid (own_other (HOB.out.alloc _) (by rw [braT_len]; omega) (fun k hk => (HOS.out.lt k hk).2) hgrow)
                      have HS3 : Hid (w3.ownsRow w4.heap.size 33 3 v' (minT 20 ++ [vTok]).length (rowCells (minT 20 ++ [vTok]))) := Lib.hid (own_more hown' rfl rfl rfl rfl)
                      have RS := Lib.hid (own_reads HS3.out)
                      have RB := Lib.hid (own_reads HOB3.out)
                      have G6 := Lib.hid (G4.out.below HB3.out)
                      have C6 := Lib.hid (below_step C4.out HB3.out)
                      have V6 := Lib.hid (V4.out.below HB3.out)
                      clear hown' hgrow c0 c1 c2 hv1 HO HBX HOS6 HOB HB0 HOS B45 G4 C4 V4 G5 C5 V5 HOB3 HS3 HB3
                      go_wp2_with fail
                      refine (parse_is (minT 20 ++ [vTok]) 0 0 34 0 signs_is (by decide +kernel) (by decide +kernel) _ _ G6.out RS.out).mono ?_
                      rintro e w7 ⟨ad7, cap7, rfl, hb⟩
                      have G7 := Lib.hid (G6.out.below hb)
                      have C7 := Lib.hid (below_step C6.out hb)
                      have V7 := Lib.hid (V6.out.below hb)
                      have RB7 := Lib.hid (RB.out.below hb)
                      clear hb
                      go_wp2_with fail
                      refine (parse_is (braT 60) 0 121 0 1 ⟨brackets_is.1, brackets_is.2⟩ (by decide +kernel) (by decide +kernel) _ _ G7.out RB7.out).mono ?_
                      rintro e w8 ⟨ad8, cap8, rfl, hb⟩
                      have G8 := Lib.hid (G7.out.below hb)
                      have C8 := Lib.hid (below_step C7.out hb)
                      have V8 := Lib.hid (V7.out.below hb)
                      clear hb
                      obtain ⟨w9, hm, ho, hb9⟩ := make_201 w8
                      have R9 := Lib.hid (row_reads ho (by simp))
                      have G9 := Lib.hid (G8.out.below hb9)
                      have C9 := Lib.hid (below_step C8.out hb9)
                      have V9 := Lib.hid (V8.out.below hb9)
                      clear ho hb9
                      go_wp2_with fail
                      refine (parse_is (List.replicate 201 zeroTok) 0 0 4 0 many_is (by rw [List.length_replicate]; omega) zeros_short _ _ G9.out R9.out).mono ?_
                      rintro e w10 ⟨ad10, cap10, rfl, hb⟩
                      have G10 := Lib.hid (G9.out.below hb)
                      have C10 := Lib.hid (below_step C9.out hb)
                      have V10 := Lib.hid (V9.out.below hb)
                      clear hb hm
                      go_wp2_with fail
                      refine (parse_is [zeroTok] 9 0 8 0 zero_is (by decide) (by decide) _ _ (G10.out.below ((Below.refl _ _).alloc (Nat.le_refl _) _)) (lit_reads w10 [zeroTok] 1 rfl _ rfl)).mono ?_
                      rintro e w11 ⟨ad11, cap11, rfl, hb⟩
                      have hb := Nodes.below_box (Below.refl _ _) hb
                      have G11 := Lib.hid (G10.out.below hb)
                      have C11 := Lib.hid (below_step C10.out hb)
                      have V11 := Lib.hid (V10.out.below hb)
                      clear hb
                      go_wp2_with fail
                      refine (parse_is [⟨2, 401, [118]⟩] 0 0 8 0 far_is (by decide) (by decide) _ _ (G11.out.below ((Below.refl _ _).alloc (Nat.le_refl _) _)) (lit_reads w11 [⟨2, 401, [118]⟩] 1 rfl _ rfl)).mono ?_
                      rintro e w12 ⟨ad12, cap12, rfl, hb⟩
                      have hb := Nodes.below_box (Below.refl _ _) hb
                      have G12 := Lib.hid (G11.out.below hb)
                      have C12 := Lib.hid (below_step C11.out hb)
                      have V12 := Lib.hid (V11.out.below hb)
                      clear hb
                      obtain ⟨hv1, c0, c1, c2⟩ := V12.out
                      go_wp2_with fail
                      refine (parse_is [vTok] 2 0 2 0 two_is (by decide) (by decide) _ _ (G12.out.below ((Below.refl _ _).alloc (Nat.le_refl _) _)) (lit_reads w12 [vTok] 1 rfl _ rfl)).mono ?_
                      rintro e w13 ⟨ad13, cap13, rfl, hb⟩
                      have hb := Nodes.below_box (Below.refl _ _) hb
                      have G13 := Lib.hid (G12.out.below hb)
                      have C13 := Lib.hid (below_step C12.out hb)
                      have V13 := Lib.hid (V12.out.below hb)
                      clear hb c0 c1 c2 hv1
                      obtain ⟨hv1, c0, c1, c2⟩ := V13.out
                      go_wp2_with fail
                      refine (parse_is [vTok] 1 1 12 0 one_is (by decide) (by decide) _ _ (G13.out.below ((Below.refl _ _).alloc (Nat.le_refl _) _)) (lit_reads w13 [vTok] 1 rfl _ rfl)).mono ?_
                      rintro e w14 ⟨ad14, cap14, rfl, hb⟩
                      have hb := Nodes.below_box (Below.refl _ _) hb
                      have G14 := Lib.hid (G13.out.below hb)
                      have C14 := Lib.hid (below_step C13.out hb)
                      have V14 := Lib.hid (V13.out.below hb)
                      clear hb c0 c1 c2 hv1
                      go_wp2_with fail
                      refine (exprsText_any (.slice none 0 0) [] _ G14.out (nil_reads _) (by decide) nil_wide).mono ?_
                      rintro e w15 ⟨rfl, hb⟩
                      rw [nil_is]
                      have G15 := Lib.hid (G14.out.below hb)
                      have C15 := Lib.hid (below_step C14.out hb)
                      clear hb
                      go_wp2_with fail
                      refine (AL.out _ G15.out).mono ?_
                      rintro e w16 ⟨rfl, hb⟩
                      have C16 := Lib.hid (below_step C15.out hb)
                      clear hb
                      go_wp2_with fail
                      go_ret
                      exact ⟨rfl, C16.out⟩
end Go.Proofs.YtbhipjinoammjaaDoor.ExprW

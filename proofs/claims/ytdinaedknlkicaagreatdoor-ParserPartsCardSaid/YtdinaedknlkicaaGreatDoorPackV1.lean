/-
  Texts of this seat in one: RefGreat; ParserPartsWalk; ParserPartsFrom.
-/
import Derived.Test.YtdinaedknlkicaaGreatDoorTokRows
import Derived.Outline
import Derived.Test.YtdinaedknlkicaaGreatDoorPackW1
import Derived.Test.YtdinaedknlkicaaGreatDoorNodeSame
import Derived.Deep.CutRange
import Derived.Deep.CutBlock
/-
  Contract of the reference of layer 3: Great.
-/
namespace Go.Proofs.YtdinaedknlkicaaGreatDoor
open Go.ChangeShapes Go.WideShapes Go.ChangeAt Go.RowKit

def bigTok (t : Tok) : Bool := decide (500 < t.text.length)
def greatB (ts : List Tok) : Bool := decide (220 < ts.length) || (ts.take 220).any bigTok
set_option maxRecDepth 100000 in
theorem great_any (v : Value) (ts : List Tok) (w : World) (h : Reads w v ts) (hn : ts.length ≤ 9223372036854775807) :
    Calls Tryz.prog 20 #[v] w fun e w' => e = .returned (.bool (greatB ts)) ∧ w = w' := by
  obtain ⟨ad, cap, rfl⟩ := h.shape
  have HR := Lib.hid h
  clear h
  go_enter Tryz.func20, Tryz.ntmps20
  go_wp2_with fail
  go_loopg [3] ts.length (fun g i wx => ∃ k : Nat, k + g = ts.length ∧ i = .int .i64 k ∧ Hid (k ≤ 220 ∧ (ts.take k).any bigTok = false) ∧ w = wx)
  case atStart => exact ⟨0, by omega, rfl, Lib.hid ⟨Nat.zero_le _, rfl⟩, rfl⟩
  case round =>
    obtain ⟨k, hk, rfl, HK, rfl⟩ := hrel
    cases gk with
    | zero =>
      obtain rfl : k = ts.length := by omega
      have H : Hid (greatB ts = false) := Lib.hid (by
        obtain ⟨h1, h2⟩ := HK.out
        rw [List.take_length] at h2
        unfold greatB
        rw [List.take_of_length_le h1, h2, decide_eq_false (by omega)]; rfl)
      clear hk
      go_wp2_with fail
      go_ret
      exact ⟨by rw [H.out]; rfl, rfl⟩
    | succ g =>
      have hlt : k < ts.length := by omega
      obtain ⟨b, o, cap', x, hv, hx, hb, c0, c1, c2⟩ := HR.out.tok k hlt
      cases hv
      have hxs : x.size = ts[k].text.length := by rw [← hx]; simp
      by_cases h220 : (220 : Int) ≤ k
      · have H : Hid (greatB ts = true) := Lib.hid (by unfold greatB; rw [decide_eq_true (by omega)]; rfl)
        clear hx hxs
        go_wp2_with fail
        go_ret
        exact ⟨by rw [H.out]; rfl, rfl⟩
      · by_cases h500 : (500 : Int) < x.size
        · have H : Hid (greatB ts = true) := Lib.hid (by
            unfold greatB
            have hm : ts[k] ∈ ts.take 220 := by
              rw [List.mem_take_iff_getElem]
              exact ⟨k, by omega, rfl⟩
            rw [Bool.or_eq_true, List.any_eq_true]
            exact .inr ⟨_, hm, decide_eq_true (by omega)⟩)
          clear hx hxs
          go_wp2_with fail
          go_ret
          exact ⟨by rw [H.out]; rfl, rfl⟩
        · have H : Hid (k + 1 ≤ 220 ∧ (ts.take (k + 1)).any bigTok = false) := Lib.hid (by
            refine ⟨by omega, ?_⟩
            rw [List.take_succ_eq_append_getElem hlt, List.any_append, HK.out.2]
            simp only [List.any_cons, List.any_nil, Bool.or_false, Bool.false_or]
            exact decide_eq_false (by omega))
          clear hx hxs
          go_wp2_with fail
          go_roundg g
          case measure => omega
          case rel => exact ⟨k + 1, by omega, by go_num, H, rfl⟩
end Go.Proofs.YtdinaedknlkicaaGreatDoor
/-
  The walk of layer 9's statement ParserParts: a query's argument and its condition are what package exprs parses at their places.
-/
namespace Go.Proofs.YtdinaedknlkicaaGreatDoor.ParserW
open Nodes Exprs ExprW Prs
open Go.ChangeShapes Go.WideShapes Go.ChangeAt Go.RowKit

theorem not_great9 (s : List UInt8) : Go.Proofs.YtdinaedknlkicaaGreatDoor.greatB (allV s).1 = false := by
  obtain ⟨h1, _⟩ := all_short9 s
  have h3 : ∀ t ∈ (allV s).1, t.text.length ≤ 500 := fun t ht => by
    by_cases hl : s.length ≤ 400
    · have := (all_texts s).1 t ht
      omega
    · have e : allV s = ([], 0, 4) := by unfold allV; rw [if_pos (by omega)]
      rw [e] at ht
      cases ht
  unfold Go.Proofs.YtdinaedknlkicaaGreatDoor.greatB
  rw [decide_eq_false (by omega), Bool.false_or, List.any_eq_false]
  intro t ht
  unfold bigTok
  have := h3 t (List.mem_of_mem_take ht)
  rw [decide_eq_false (by omega)]
  decide
set_option maxRecDepth 100000 in
set_option maxHeartbeats 8000000 in
theorem parts_walk (s : Sl) (q : Qy) (w : World) (hf : ParFix w) (hR : ReadsQ w s q) (ha : Wide q.arg) (hc : Wide q.cond) :
    Calls Tryz.prog 7 #[qyVal s q] w fun e w' => e = .returned (.bool true) ∧ Below w.heap.size w w' := by
  have F := Lib.hid hf
  have AL := Lib.hid (fun W (h : Below w.heap.size w W) => alive_any W (F.out.below h))
  have S0 := Lib.hid ((SL.nil w).box w.heap.size rfl s q)
  have GR := Lib.hid (fun (W : World) (h : Below w.heap.size w W) => refGreat_any s q W (hR.below h))
  obtain ⟨gq, hgq⟩ : ∃ gq, greatQ q = gq := ⟨_, rfl⟩
  rw [hgq] at GR
  have hR0 := Lib.hid hR
  obtain ⟨sa, ss, sc⟩ := s
  obtain ⟨ada, capa, e1⟩ := hR.arg.shape
  obtain ⟨ads, caps, e2⟩ := hR.src.shape
  obtain ⟨adc, capc, e3⟩ := hR.cond.shape
  simp only at e1 e2 e3
  subst e1 e2 e3
  unfold qyVal qyRow at GR ⊢
  dsimp only at GR ⊢
  clear hR
  obtain ⟨c0, c1, c2, c3, c4, c5, c6, c7, c8, c9⟩ := S0.out.at0.cells
  dsimp only at c1 c2 c4
  by_cases hg : gq = true
  · subst hg
    clear hgq
    clear c0 c1 c2 c3 c4 c5 c6 c7 c8 c9
    go_enter Tryz.func7, Tryz.ntmps7
    go_wp2_with fail
    refine (GR.out _ S0.out.base).mono ?_
    rintro e w1 ⟨rfl, hb⟩
    have S1 := Lib.hid (S0.out.below hb)
    clear hb
    go_wp2_with fail
    refine (AL.out _ S1.out.base).mono ?_
    rintro e w2 ⟨rfl, hb⟩
    have B2 := Lib.hid (below_step S1.out.base hb)
    clear hb
    go_wp2_with fail
    go_ret
    exact ⟨rfl, B2.out⟩
  obtain rfl : gq = false := by simpa using hg
  obtain ⟨n1, n2, n3⟩ := great_small hgq
  have CK := Lib.hid (fun (W : World) (h : Below w.heap.size w W) => refCheckQ_any _ q W (hR0.out.below h) (by omega) (by omega) (by omega))
  unfold qyVal qyRow at CK
  dsimp only at CK
  obtain ⟨ck, hck⟩ : ∃ ck, checkQ q = ck := ⟨_, rfl⟩
  rw [hck] at CK
  clear hg hgq
  clear c0 c1 c2 c3 c4 c5 c6 c7 c8 c9
  by_cases h0 : ck = 0
  case neg =>
    have q1 : (ck != 0) = true := by rw [bne_iff_ne]; exact h0
    clear hck h0
    go_enter Tryz.func7, Tryz.ntmps7
    go_wp2_with fail
    refine (GR.out _ S0.out.base).mono ?_
    rintro e w1 ⟨rfl, hb⟩
    have S1 := Lib.hid (S0.out.below hb)
    clear hb
    obtain ⟨c0, c1, c2, c3, c4, c5, c6, c7, c8, c9⟩ := S1.out.at0.cells
    dsimp only at c1 c2 c4
    go_wp2_with fail
    refine (CK.out _ S1.out.base).mono ?_
    rintro e w2 ⟨rfl, hb⟩
    have S2 := Lib.hid (S1.out.below hb)
    clear hb c0 c1 c2 c3 c4 c5 c6 c7 c8 c9
    go_wp2_with fail
    refine (AL.out _ S2.out.base).mono ?_
    rintro e w3 ⟨rfl, hb⟩
    have B2 := Lib.hid (below_step S2.out.base hb)
    clear hb
    go_wp2_with fail
    go_ret
    exact ⟨rfl, B2.out⟩
  subst h0
  have LAW := exact_law hck ha hc
  have hsm := text_small9 hck ha hc
  obtain ⟨t, ht⟩ : ∃ t : ByteArray, ⟨(textQ q).toArray⟩ = t := ⟨_, rfl⟩
  have htl : t.data.toList = textQ q := by rw [← ht]
  have hts : t.size = (textQ q).length := by rw [← htl]; simp
  have WR := Lib.hid (fun (W : World) (h : Below w.heap.size w W) => written_any _ q W (F.out.below h) (hR0.out.below h) hck ha hc)
  unfold qyVal qyRow at WR
  dsimp only at WR
  rw [ht] at WR
  obtain ⟨_, l2, l3, l4, l5, _, l7, l8⟩ := LAW
  rw [← htl] at l2 l3 l4 l5 l7 l8 hsm
  have l9 : (allV t.data.toList).2.2 = 0 → ∀ (i : Nat) (x : Tok), (allV t.data.toList).1[i]? = some x → x.kind = 2 → x.text = tWhere → ∃ c : Nat, parseV (allV t.data.toList).1 ((i : Int) + 1) = ((parseP t.data.toList).1.cond, (c : Int), 0) := fun h0 i x hx hk ht => by
    obtain ⟨hi, rfl⟩ := List.getElem?_eq_some_iff.1 hx
    exact l8 h0 i hi hk ht
  clear l8
  have hsz : t.data.toList.length = t.size := by simp
  rw [hsz] at l2 l3 hsm
  have psm := parse_small t.data.toList
  have hsh := all_short9 t.data.toList
  have hok := all_ok_ts t.data.toList
  have hng := not_great9 t.data.toList
  have A := Lib.hid (fun W (hW : LexFix W) => lexAll_any t (by unfold maxLen; omega) W hW)
  obtain ⟨ts, hts2⟩ : ∃ ts, (allV t.data.toList).1 = ts := ⟨_, rfl⟩
  obtain ⟨an, han⟩ : ∃ n, (allV t.data.toList).2.1 = n := ⟨_, rfl⟩
  obtain ⟨ae, hae⟩ : ∃ e, (allV t.data.toList).2.2 = e := ⟨_, rfl⟩
  obtain ⟨p, pn, pe, hp⟩ : ∃ p n e, parseP t.data.toList = (p, n, e) := ⟨_, _, _, rfl⟩
  have hbad := parseP_bad (s := t.data.toList)
  have P := Lib.hid (fun W (hW : ParFix W) => parse_out t (by unfold maxLen; omega) p pn pe hp W hW)
  unfold AllEnds at A
  rw [hts2, han, hae] at A
  rw [hp] at l3 l4 l7 l9 psm hbad
  rw [hts2] at hsh hok hng
  rw [han, hae] at hbad
  simp only [hts2, hae] at l2 l3 l4 l5 l7 l9
  simp only at psm
  obtain ⟨m1, m2, m3⟩ := psm
  have L2 : Hid (t.size ≤ 400 → ae = 4 ∨ ae = 0) := Lib.hid l2
  have LB : Hid (ae ≠ 0 → pe = ae) := Lib.hid (fun h => by
    have := hbad h
    injection this with _ h2
    injection h2)
  have L3 := Lib.hid l3
  have L4 := Lib.hid l4
  have L5 := Lib.hid l5
  have L7 := Lib.hid l7
  have L8 := Lib.hid l9
  have HOK := Lib.hid hok
  have HSM := Lib.hid hsm
  have HNG := Lib.hid hng
  have HSH := Lib.hid hsh.2
  have hle3 := hsh.1
  clear l2 l3 l4 l5 l7 l9 hbad hp han hae hts2 htl ht hts hck hok hf hsz hsm hsh ha hc hng
  go_enter Tryz.func7, Tryz.ntmps7
  go_wp2_with fail
  refine (GR.out _ S0.out.base).mono ?_
  rintro e w1 ⟨rfl, hb⟩
  have S1 := Lib.hid (S0.out.below hb)
  clear hb
  obtain ⟨c0, c1, c2, c3, c4, c5, c6, c7, c8, c9⟩ := S1.out.at0.cells
  dsimp only at c1 c2 c4
  go_wp2_with fail
  refine (CK.out _ S1.out.base).mono ?_
  rintro e w2 ⟨rfl, hb⟩
  have S2 := Lib.hid (S1.out.below hb)
  clear hb c0 c1 c2 c3 c4 c5 c6 c7 c8 c9
  obtain ⟨c0, c1, c2, c3, c4, c5, c6, c7, c8, c9⟩ := S2.out.at0.cells
  dsimp only at c1 c2 c4
  go_wp2_with fail
  refine (WR.out _ S2.out.base).mono ?_
  rintro e w3 ⟨rfl, hb⟩
  have S3 := Lib.hid (S2.out.below hb)
  clear hb c0 c1 c2 c3 c4 c5 c6 c7 c8 c9
  by_cases hlong : 400 < t.size
  · have z1 : decide ((400 : Int) < (t.size : Int)) = true := decide_eq_true (by omega)
    have z2 : (400 : Int) < (t.size : Int) := by omega
    clear hlong
    go_wp2_with fail
    refine (AL.out _ S3.out.base).mono ?_
    rintro e w5 ⟨rfl, hb⟩
    have B5 := Lib.hid (below_step S3.out.base hb)
    clear hb
    go_wp2_with fail
    go_ret
    exact ⟨rfl, B5.out⟩
  have z1 : decide ((400 : Int) < (t.size : Int)) = false := decide_eq_false (by omega)
  have z2 : ¬ (400 : Int) < (t.size : Int) := by omega
  have z3 : t.size ≤ 400 := by omega
  clear hlong
  go_wp2_with fail
  refine (P.out _ (F.out.below S3.out.base)).mono ?_
  rintro e w4 ⟨x1, y1, x2, y2, x3, y3, rfl, hr, hb⟩
  have S4 := Lib.hid ((S3.out.below hb).box w4.heap.size rfl ⟨.slice x1 p.arg.length y1, .slice x2 p.src.length y2, .slice x3 p.cond.length y3⟩ p)
  have RP := Lib.hid (hr.below (refl_alloc9 w4 (qyBox ⟨.slice x1 p.arg.length y1, .slice x2 p.src.length y2, .slice x3 p.cond.length y3⟩ p)))
  clear hr hb
  go_wp2_with fail
  refine (A.out _ (F.out.below S4.out.base).1.1).mono ?_
  rintro e w5 ⟨v, rfl, ho, hb, _⟩
  obtain ⟨av, acap, rfl⟩ := own_shape ho
  have S5 := Lib.hid (S4.out.below hb)
  have RP5 := Lib.hid (RP.out.below hb)
  have TK := Lib.hid (own_reads ho)
  clear hb ho
  rcases L2.out z3 with rfl | rfl
  · obtain rfl : pe = 4 := LB.out (by decide)
    go_wp2_with fail
    refine (AL.out _ S5.out.base).mono ?_
    rintro e w6 ⟨rfl, hb⟩
    have B6 := Lib.hid (below_step S5.out.base hb)
    clear hb
    go_wp2_with fail
    go_ret
    exact ⟨rfl, B6.out⟩
  have h4 := L5.out rfl
  obtain ⟨r3, r4⟩ := L3.out rfl
  subst r3 r4
  have GT0 := Go.Proofs.YtdinaedknlkicaaGreatDoor.great_any _ ts w5 TK.out (by omega)
  rw [HNG.out] at GT0
  have GT := Lib.hid GT0
  have q4 : decide ((ts.length : Int) < 4) = false := decide_eq_false (by omega)
  have q5 : ¬ (ts.length : Int) < 4 := by omega
  clear GT0
  go_wp2_with fail
  refine GT.out.mono ?_
  rintro e w6 ⟨rfl, rfl⟩
  obtain ⟨c0, c1, c2, c3, c4, c5, c6, c7, c8, c9⟩ := S5.out.at1.cells
  dsimp only at c1 c2 c4
  go_upto_if 81 with fail
  go_cut [11, 12, 13, 14, 15] from 81 (fun _ _ _ _ _ wx => Hid (Below w5.heap.size w5 wx))
  case first =>
    by_cases hg : q.agg = 1
    · have qg : (q.agg != 1) = false := by rw [bne_eq_false_iff_eq]; exact hg
      clear hg
      go_wp2_with fail
      go_meet
      case rel => exact Lib.hid (Below.refl _ _)
    · have qg : (q.agg != 1) = true := by rw [bne_iff_ne]; exact hg
      obtain ⟨c, hx, hsame⟩ := L7.out trivial hg
      have EX0 := exprsParse_any _ ts 3 w5 (F.out.below S5.out.base).1 TK.out (by omega) HSH.out
      unfold ParseEnds at EX0
      rw [hx] at EX0
      dsimp only at EX0
      have EX := Lib.hid EX0
      have HSA := Lib.hid hsame
      clear hg hx hsame EX0
      go_wp2_with fail
      refine EX.out.mono ?_
      rintro e w7 ⟨v7, rfl, ho, hb⟩
      obtain ⟨a7, k7, rfl⟩ := own_shape ho
      have U7 := Lib.hid hb
      have S7 := Lib.hid (S5.out.below hb)
      have R7 := Lib.hid (own_readsN ho)
      have EQ0 := refEqual_any _ _ p.arg p.arg w7 R7.out (RP5.out.below hb).arg (by omega)
      rw [equalB_refl] at EQ0
      have EQ := Lib.hid EQ0
      clear EQ0 ho hb c0 c1 c2 c3 c4 c5 c6 c7 c8 c9
      obtain ⟨d0, d1, d2, d3, d4, d5, d6, d7, d8, d9⟩ := S7.out.at0.cells
      dsimp only at d1 d2 d4
      go_wp2_with fail
      refine EQ.out.mono ?_
      rintro e w8 ⟨rfl, hd⟩
      have hb := hd.below w7.heap.size
      have U8 := Lib.hid (below_step U7.out hb)
      have S8 := Lib.hid (S7.out.below hb)
      have SM0 := nodesSame_any _ _ p.arg q.arg w8 (R7.out.below hb) (hR0.out.below S8.out.base).arg (by omega) (by omega)
      rw [HSA.out] at SM0
      dsimp only at SM0
      have SM := Lib.hid SM0
      clear SM0 hd hb d0 d1 d2 d3 d4 d5 d6 d7 d8 d9
      obtain ⟨c0, c1, c2, c3, c4, c5, c6, c7, c8, c9⟩ := S8.out.at1.cells
      dsimp only at c1 c2 c4
      go_wp2_with fail
      refine SM.out.mono ?_
      rintro e w9 ⟨rfl, hb⟩
      have U9 := Lib.hid (below_step U8.out hb)
      clear hb
      go_wp2_with fail
      go_meet
      case rel => exact U9
  case rest =>
  have U6 : Hid (Below w5.heap.size w5 wc) := hcut
  clear hcut c0 c1 c2 c3 c4 c5 c6 c7 c8 c9
  go_wp2_with fail
  go_loopg [16] ts.length (fun g i wx => ∃ k : Nat, k + g = ts.length ∧ i = .int .i64 k ∧ Hid (Below w5.heap.size w5 wx))
  case atStart => exact ⟨0, by omega, rfl, U6⟩
  case round =>
    obtain ⟨k, hk, rfl, BX⟩ := hrel
    cases gk with
    | zero =>
      obtain rfl : k = ts.length := by omega
      clear hk
      go_wp2_with fail
      refine (AL.out _ (below_step S5.out.base BX.out)).mono ?_
      rintro e w7 ⟨rfl, hb⟩
      have B7 := Lib.hid (below_step (below_step S5.out.base BX.out) hb)
      clear hb
      go_wp2_with fail
      go_ret
      exact ⟨rfl, B7.out⟩
    | succ g =>
      have hlt : k < ts.length := by omega
      have l1 : (k : Int) < ts.length := by omega
      have wk : IntKind.i64.wrap ((k : Int) + 1) = (k : Int) + 1 := by rw [IntKind.wrap_i64]; omega
      obtain ⟨b, o, cp, x, hvv, hx, hbt, d0, d1, d2⟩ := (TK.out.below BX.out).tok k hlt
      cases hvv
      have hget : ts[k]? = some ts[k] := List.getElem?_eq_getElem hlt
      obtain ⟨y, hy⟩ : ∃ y, ts[k] = y := ⟨_, rfl⟩
      rw [hy] at d0 hx hget
      have TKR := Lib.hid (TK.out.below BX.out)
      have SX := Lib.hid (S5.out.below BX.out)
      clear hbt d2 hy
      by_cases h2 : y.kind = 2
      case neg =>
        have q2 : (y.kind == 2) = false := by rw [beq_eq_false_iff_ne]; exact h2
        clear h2 hx hget
        go_wp2_with fail
        go_roundg g
        case measure => omega
        case rel => exact ⟨k + 1, by omega, by go_num, BX⟩
      have q2 : (y.kind == 2) = true := by rw [beq_iff_eq]; exact h2
      by_cases hwx : y.text = tWhere
      case neg =>
        have t1 : (x.toList == [119, 104, 101, 114, 101]) = false := by rw [beq_eq_false_iff_ne, ByteArray.toList_eq, hx]; exact hwx
        clear h2 hx hget hwx
        go_wp2_with fail
        go_roundg g
        case measure => omega
        case rel => exact ⟨k + 1, by omega, by go_num, BX⟩
      have t1 : (x.toList == [119, 104, 101, 114, 101]) = true := by rw [beq_iff_eq, ByteArray.toList_eq, hx]; exact hwx
      obtain ⟨c, hpv⟩ := L8.out trivial k y hget h2 hwx
      have EX0 := exprsParse_any _ ts ((k : Int) + 1) wr (F.out.below SX.out.base).1 TKR.out (by omega) HSH.out
      unfold ParseEnds at EX0
      rw [hpv] at EX0
      dsimp only at EX0
      have EX := Lib.hid EX0
      clear h2 hx hget hwx hpv EX0
      go_wp2_with fail
      refine EX.out.mono ?_
      rintro e w7 ⟨v7, rfl, ho, hb⟩
      obtain ⟨a7, k7, rfl⟩ := own_shape ho
      have U7 := Lib.hid (below_step BX.out hb)
      have S7 := Lib.hid (SX.out.below hb)
      have R7 := Lib.hid (own_readsN ho)
      have EQ0 := refEqual_any _ _ p.cond p.cond w7 R7.out ((RP5.out.below BX.out).below hb).cond (by omega)
      rw [equalB_refl] at EQ0
      have EQ := Lib.hid EQ0
      clear EQ0 ho hb d0 d1
      obtain ⟨d0, d1, d2, d3, d4, d5, d6, d7, d8, d9⟩ := S7.out.at0.cells
      dsimp only at d1 d2 d4
      go_wp2_with fail
      refine EQ.out.mono ?_
      rintro e w8 ⟨rfl, hd⟩
      have hb := hd.below w7.heap.size
      have U8 := Lib.hid (below_step U7.out hb)
      clear hd hb
      go_wp2_with fail
      go_roundg g
      case measure => omega
      case rel => exact ⟨k + 1, by omega, by go_num, U8⟩
end Go.Proofs.YtdinaedknlkicaaGreatDoor.ParserW
/-
  The walk of layer 9's statement ParserParts from its argument's reading.
-/
namespace Go.Proofs.YtdinaedknlkicaaGreatDoor.ParserW
open Nodes Exprs ExprW Prs
open Go.ChangeShapes Go.WideShapes Go.ChangeAt Go.RowKit Go.Deep

set_option maxRecDepth 100000 in
theorem parts_from {H : Type} {enc : TypeId × Value → H} {w : World} {r : Reach} {base base2 : Nat} {sp : Nat → Bool} {held : Bool} {v0 : Value} {d0 : DataW H} {p0 : List MemPlace} (hf : ParFix w) (hw0 : Value.okWide Tryz.prog w r base 28 v0) (h0 : DataW.Trod enc Tryz.prog w base2 sp held 28 v0 d0 p0) :
    Calls Tryz.prog 7 #[v0] w fun e w' => e = .returned (.bool true) ∧ Below w.heap.size w w' := by
  obtain ⟨s0, q0, rfl, r0, k0, k1⟩ := open_query9 h0 hw0
  exact parts_walk s0 q0 w hf r0 k0 k1
end Go.Proofs.YtdinaedknlkicaaGreatDoor.ParserW

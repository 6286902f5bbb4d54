/-
  The walk of layer 9's statement ParserValid: what is returned is valid, its nodes have the places of tokens, the last token is needed.
-/
import Derived.Test.YtdinaedknlkicaaGreatDoorPackH1
import Derived.Test.YtdinaedknlkicaaGreatDoorqClauseCheck
import Derived.Test.YtdinaedknlkicaaGreatDoorStepAppend
import Derived.Test.YtdinaedknlkicaaGreatDoorNodeCells
import Derived.Deep.RegionLaw
import Derived.Deep.CutRange
import Derived.Deep.CutBlock
import Derived.Outline
namespace Go.Proofs.YtdinaedknlkicaaGreatDoor.ParserW
open Nodes Exprs ExprW Prs
open Go.ChangeShapes Go.WideShapes Go.ChangeAt Go.RowKit

def hasAt (l : List Tok) (n : Int) : Bool := l.any fun t => t.at_ == n
theorem has_more {l : List Tok} {k : Nat} (h : k < l.length) (n : Int) : hasAt (l.take (k + 1)) n = (hasAt (l.take k) n || (l[k].at_ == n)) := by
  unfold hasAt
  rw [List.take_succ_eq_append_getElem h, List.any_append]
  simp
theorem has_all {l : List Tok} {n : Int} (h : ∃ t ∈ l, t.at_ = n) : hasAt (l.take l.length) n = true := by
  obtain ⟨t, ht, e⟩ := h
  rw [List.take_length]
  exact List.any_eq_true.2 ⟨t, ht, by rw [beq_iff_eq]; exact e⟩
theorem take_text9 (s : ByteArray) (p : Nat) : (s.extract 0 p).data.toList = s.data.toList.take p := by
  rw [ByteArray.data_extract, Array.toList_extract, List.extract_eq_take_drop, List.drop_zero, Nat.sub_zero]
set_option maxRecDepth 100000 in
set_option maxHeartbeats 4000000 in
theorem valid_walk (s : ByteArray) (hs : s.size ≤ maxLen) (w : World) (hf : ParFix w) :
    Calls Tryz.prog 4 #[.string s] w fun e w' => e = .returned (.bool true) ∧ Below w.heap.size w w' := by
  have F := Lib.hid hf
  have AL := Lib.hid (fun W (h : Below w.heap.size w W) => alive_any W (F.out.below h))
  have el : s.data.toList.length = s.size := by simp
  clear hf
  by_cases g1 : (400 : Int) < s.size
  · go_enter Tryz.func4, Tryz.ntmps4
    go_wp2_with fail
    refine (AL.out _ (Below.refl _ _)).mono ?_
    rintro e w1 ⟨rfl, hb⟩
    go_wp2_with fail
    go_ret
    exact ⟨rfl, hb⟩
  have hsz : s.size ≤ 400 := by omega
  have A := Lib.hid (fun W (hW : LexFix W) => lexAll_any s hs W hW)
  have hsh := all_short9 s.data.toList
  have hv := valid_law s.data.toList
  have hsm := parse_small s.data.toList
  obtain ⟨ts, hts⟩ : ∃ ts, (allV s.data.toList).1 = ts := ⟨_, rfl⟩
  obtain ⟨n0, hn0⟩ : ∃ n, (allV s.data.toList).2.1 = n := ⟨_, rfl⟩
  obtain ⟨e0, he0⟩ : ∃ e, (allV s.data.toList).2.2 = e := ⟨_, rfl⟩
  obtain ⟨q, n1, e1, hq⟩ : ∃ q n e, parseP s.data.toList = (q, n, e) := ⟨_, _, _, rfl⟩
  have P1 := Lib.hid (fun W (hW : ParFix W) => parse_out s hs q n1 e1 hq W hW)
  obtain ⟨v1, v2, v3⟩ := hv
  unfold AllEnds at A
  rw [hq] at v1 v2 v3 hsm
  rw [hts, hn0, he0] at A
  simp only [hts, he0] at v1 v2 v3
  rw [hts] at hsh
  simp only at hsm
  by_cases he : e0 = 0
  · subst he
    by_cases h1 : e1 = 0
    · subst h1
      obtain ⟨a1, a2, a3, a4, a5⟩ := v2 rfl rfl
      obtain ⟨c, b1, b2, b3⟩ := v3 rfl rfl (by omega)
      rw [el] at a1 b2
      subst a1
      obtain ⟨p, n2, e2, hp⟩ : ∃ p n e, parseP (s.data.toList.take c) = (p, n, e) := ⟨_, _, _, rfl⟩
      have psm := parse_small (s.data.toList.take c)
      rw [hp] at b3 psm
      simp only at b3 psm
      have P2 := Lib.hid (fun W (hW : ParFix W) => parse_out (s.extract 0 c) (by unfold maxLen; simp; omega) p n2 e2 (by rw [take_text9]; exact hp) W hW)
      have HB3 := Lib.hid b3
      have HAT : Hid (∀ i (h : i < (q.arg ++ q.cond).length), hasAt (ts.take ts.length) ((q.arg ++ q.cond)[i].at_) = true) := Lib.hid (fun i h => by
        refine has_all ?_
        rcases List.mem_append.1 (List.getElem_mem h) with h2 | h2
        · exact a4 _ h2
        · exact a5 _ h2)
      obtain ⟨m1, m2, m3⟩ := hsm
      obtain ⟨m4, m5, m6⟩ := psm
      have HCK := Lib.hid a2
      have HLast : Hid (∀ h : ts.length - 1 < ts.length, ts[ts.length - 1].at_ = (c : Int)) := Lib.hid (fun _ => b1)
      obtain ⟨i0, hi0, hz0, hz1, hz2⟩ := info_parts info_nd8
      have HI := Lib.hid (And.intro hi0 (And.intro hz0 (And.intro hz1 hz2)))
      have hcs : (c : Int) ≤ s.size := by omega
      have hle3 := hsh.1
      clear v1 v2 v3 hts hn0 he0 hq hp b3 a2 a4 a5 b1 el hi0 hz0 hz1 hz2 hsh
      go_enter Tryz.func4, Tryz.ntmps4
      go_wp2_with fail
      refine (P1.out _ F.out).mono ?_
      rintro e w1 ⟨x1, y1, x2, y2, x3, y3, rfl, hr, hb⟩
      have S1 := Lib.hid ((SL.nil_of hb).box w1.heap.size rfl ⟨.slice x1 q.arg.length y1, .slice x2 q.src.length y2, .slice x3 q.cond.length y3⟩ q)
      have R1 := Lib.hid (hr.below (refl_alloc9 w1 (qyBox ⟨.slice x1 q.arg.length y1, .slice x2 q.src.length y2, .slice x3 q.cond.length y3⟩ q)))
      clear hr hb
      go_wp2_with fail
      refine (A.out _ (F.out.below S1.out.base).1.1).mono ?_
      rintro e w2 ⟨v, rfl, ho, hb, _⟩
      obtain ⟨ad, cap, rfl⟩ := own_shape ho
      have S2 := Lib.hid (S1.out.below hb)
      have R2 := Lib.hid (R1.out.below hb)
      have T2 := Lib.hid (own_reads ho)
      obtain ⟨c0, c1, c2, c3, c4, c5, c6, c7, c8, c9⟩ := S2.out.at0.cells
      have CK := Lib.hid (clCheck_any _ q w2 (F.out.below S2.out.base).2 R2.out (by omega) (by omega) (by omega))
      rw [HCK.out] at CK
      have q3 : ((ts.length : Int) == 0) = false := by rw [beq_eq_false_iff_ne]; omega
      clear hb ho
      go_wp2_with fail
      refine CK.out.mono ?_
      rintro e w3 ⟨rfl, hb⟩
      have S3 := Lib.hid (S2.out.below hb)
      have R3 := R2.out.below hb
      have RQ3 := Lib.hid R3
      have T3 := Lib.hid (T2.out.below hb)
      obtain ⟨sa, sac, ea, ea1, ea2⟩ := nodes_src R3.arg
      obtain ⟨sc, scc, ec, ec1, ec2⟩ := nodes_src R3.cond
      cases ea
      cases ec
      have HSA := Lib.hid ea1
      have HSC := Lib.hid ec1
      have HA2 := Lib.hid ea2
      have HC2 := Lib.hid ec2
      clear hb R3 ea1 ec1 ea2 ec2 c0 c1 c2 c3 c4 c5 c6 c7 c8 c9
      have bw : Below w3.heap.size w3 (w3.alloc (Obj.cells #[] 43)).drew := Below.drew (refl_alloc9 _ _)
      have D3 := (S3.out.below bw).at0
      have c1 := D3.cells.2.1
      have c4 := D3.cells.2.2.2.2.1
      have z1 := S3.out.at0.cells.2.1
      have z4 := S3.out.at0.cells.2.2.2.2.1
      have y1_ := (S3.out.at0.below (Below.drew (Below.refl _ _))).cells.2.1
      have y4_ := (S3.out.at0.below (Below.drew (Below.refl _ _))).cells.2.2.2.2.1
      have U0 : Hid (Below w3.heap.size w3 (w3.alloc (Obj.cells #[] 43)).drew) := Lib.hid bw
      have O0 : Hid ((w3.alloc (Obj.cells #[] 43)).drew.ownsRow w3.heap.size 43 5 (.slice (some ⟨w3.heap.size, 0, none⟩) 0 0) 0 []) := Lib.hid (World.ownsRow_made (base := w3.heap.size) (size := 5) (e := 43) w3 #[] 0 (Nat.le_refl _) (Nat.zero_le _) rfl).drew
      have HL1 : Hid ((rowN q.arg).length = q.arg.length * 5) := Lib.hid (rowN_len _)
      have HL2 : Hid ((rowN q.cond).length = q.cond.length * 5) := Lib.hid (rowN_len _)
      have X1 : Hid (0 + q.arg.length ≤ maxLen ∧ (0 + q.arg.length) * 40 ≤ 140737488355328) := Lib.hid (by unfold maxLen; omega)
      have X2 : Hid (∀ N, N = 0 + q.arg.length → N + q.cond.length ≤ maxLen ∧ (N + q.cond.length) * 40 ≤ 140737488355328) := Lib.hid (by intro N h; unfold maxLen; omega)
      clear bw D3
      obtain ⟨L, hLL⟩ : ∃ L, q.arg ++ q.cond = L := ⟨_, rfl⟩
      have hLn : L.length = q.arg.length + q.cond.length := by rw [← hLL, List.length_append]
      have HLL := Lib.hid hLL
      have HLn := Lib.hid hLn
      rw [hLL] at HAT
      clear hLL hLn
      go_wp2_with fail
      go_cut [11] from 94 (fun s11 wx => ∃ g2 cp2, s11 = .slice (some ⟨g2, 0, none⟩) L.length cp2 ∧ Hid (Below w3.heap.size w3 wx) ∧ Hid (ReadsN wx (.slice (some ⟨g2, 0, none⟩) L.length cp2) L))
      case first =>
        go_region_law (first
          | (refine step_append_all rfl (.tmp 94) (.tmp 96) 23 rfl w3.heap.size 43 i0 _ 5 40 Tryz.underlying23 HI.out.1 HI.out.2.1 HI.out.2.2.1 HI.out.2.2.2 rfl (by decide) w3.heap.size 0 0 rfl [] O0.out x1 q.arg.length y1 (rowN q.arg) rfl HL1.out HSA.out (HA2.out _ U0.out) (rowN_one _) X1.out.1 X1.out.2 U0.out.size ?_; intro g1 N1 cp1 w4 hN1 hown1 hgrow1; have U1 := Lib.hid (U0.out.grown hgrow1 U0.out.size (fun k e => by injection e with e; omega)); have D4 := S3.out.at0.below U1.out; have d1 := D4.cells.2.1; have d4 := D4.cells.2.2.2.2.1; have O1 := Lib.hid hown1; have HN1 := Lib.hid hN1; clear hown1 hgrow1 hN1 D4)
          | (refine step_append_all rfl (.tmp 97) (.tmp 99) 23 rfl w3.heap.size 43 i0 _ 5 40 Tryz.underlying23 HI.out.1 HI.out.2.1 HI.out.2.2.1 HI.out.2.2.2 rfl (by decide) g1 N1 cp1 rfl _ O1.out x3 q.cond.length y3 (rowN q.cond) rfl HL2.out HSC.out (HC2.out _ U1.out) (rowN_one _) (X2.out _ HN1.out).1 (X2.out _ HN1.out).2 U1.out.size ?_; intro g2 N2 cp2 w5 hN2 hown2 hgrow2; have O2 := Lib.hid hown2; have HN2 := Lib.hid hN2; have G2 := Lib.hid hgrow2; clear hown2 hN2 hgrow2))
        all_goals
          have hN : N2 = L.length := (by have a := HN1.out; have b := HN2.out; have d := HLn.out; omega)
          subst hN
          have U2 : Hid (Below w3.heap.size w3 w5) := Lib.hid (U1.out.grown G2.out U1.out.size (fun k' e => (by injection e with e; have := (O1.out.lt g1 rfl).1; omega)))
          have RR : Hid (ReadsN w5 (.slice (some ⟨g2, 0, none⟩) L.length cp2) L) := Lib.hid (by
            have e : [] ++ rowN q.arg ++ rowN q.cond = rowN L := (by rw [← HLL.out]; simp [rowN])
            have o := O2.out
            rw [e] at o
            exact own_readsN o)
          go_wp2_with fail
          go_meet
          case rel => exact ⟨g2, cp2, rfl, U2, RR⟩
      case rest =>
      obtain ⟨g2, cp2, rfl, U5, RL⟩ := hcut
      have HBw : Hid (Below w.heap.size w wc) := Lib.hid (below_step S3.out.base U5.out)
      have TT := Lib.hid (T3.out.below U5.out)
      have HL60 : L.length ≤ 200 := by have := HLn.out; omega
      go_wp2_with fail
      go_loopg [12] L.length (fun g i wx => ∃ k : Nat, k + g = L.length ∧ i = .int .i64 k ∧ Hid (Below wc.heap.size wc wx))
      case atStart => exact ⟨0, by omega, rfl, Lib.hid (Below.refl _ _)⟩
      case round =>
        obtain ⟨k, hk, rfl, BX⟩ := hrel
        cases gk with
        | zero =>
          obtain rfl : k = L.length := by omega
          clear hk
          have hlt : ts.length - 1 < ts.length := by omega
          obtain ⟨b, o, cp, x, hvv, hx, hbt, d0, d1, d2⟩ := (TT.out.below BX.out).tok (ts.length - 1) hlt
          cases hvv
          have w1_ : IntKind.i64.wrap ((ts.length : Int) - 1) = ((ts.length - 1 : Nat) : Int) := by rw [IntKind.wrap_i64]; omega
          rw [HLast.out hlt] at d2
          have l1 : (ts.length : Int) - 1 < ts.length := by omega
          have l2 : ¬ (ts.length : Int) - 1 < 0 := by omega
          have hlN : ((ts.length - 1 : Nat) : Int) < ts.length := by omega
          have c1 : decide ((c : Int) < 0) = false := decide_eq_false (by omega)
          have c2 : decide ((s.size : Int) < (c : Int)) = false := decide_eq_false (by omega)
          have PC := Lib.hid (P2.out wr (F.out.below (below_step HBw.out BX.out)))
          clear d0 d1 hx
          go_wp2_with fail
          refine PC.out.mono ?_
          rintro e w6 ⟨u1, z1, u2, z2, u3, z3, rfl, hr, hb⟩
          have S6 := Lib.hid (((S3.out.below U5.out).below BX.out).below hb)
          have S7 := Lib.hid (S6.out.box w6.heap.size rfl ⟨.slice u1 p.arg.length z1, .slice u2 p.src.length z2, .slice u3 p.cond.length z3⟩ p)
          have RP := hr.below (refl_alloc9 w6 (qyBox ⟨.slice u1 p.arg.length z1, .slice u2 p.src.length z2, .slice u3 p.cond.length z3⟩ p))
          have RQ : ReadsQ (w6.alloc (qyBox ⟨.slice u1 p.arg.length z1, .slice u2 p.src.length z2, .slice u3 p.cond.length z3⟩ p)) ⟨.slice x1 q.arg.length y1, .slice x2 q.src.length y2, .slice x3 q.cond.length y3⟩ q := (((RQ3.out.below U5.out).below BX.out).below hb).below (refl_alloc9 w6 _)
          obtain ⟨c0, c1, c2, c3, c4, c5, c6, c7, c8, c9⟩ := S7.out.at1.cells
          obtain ⟨e0, e1, e2_, e3, e4, e5, e6, e7, e8, e9⟩ := S7.out.at0.cells
          have EA := Lib.hid (refAlikeQ_any _ _ p q _ RP RQ (by omega) (by omega) (by omega))
          clear hr hb RP RQ
          by_cases he2 : e2 = 0
          · have HF : Hid (alikeQ p q = false) := Lib.hid (by
              rcases HB3.out with h | h
              · exact absurd he2 h
              · exact h)
            rw [HF.out] at EA
            have q9 : (e2 != 0) = false := by rw [bne_eq_false_iff_eq]; exact he2
            clear he2
            go_wp2_with fail
            refine EA.out.mono ?_
            rintro e w7 ⟨rfl, hb⟩
            have B7 := Lib.hid (below_step S7.out.base hb)
            clear hb
            go_wp2_with fail
            refine (AL.out _ B7.out).mono ?_
            rintro e w8 ⟨rfl, hb⟩
            have B8 := Lib.hid (below_step B7.out hb)
            clear hb
            go_wp2_with fail
            go_ret
            exact ⟨rfl, B8.out⟩
          · have q9 : (e2 != 0) = true := by rw [bne_iff_ne]; exact he2
            clear he2
            go_wp2_with fail
            refine (AL.out _ S7.out.base).mono ?_
            rintro e w8 ⟨rfl, hb⟩
            have B8 := Lib.hid (below_step S7.out.base hb)
            clear hb
            go_wp2_with fail
            go_ret
            exact ⟨rfl, B8.out⟩
        | succ g =>
          have hlt : k < L.length := by omega
          have hl2 : (k : Int) < L.length := by omega
          go_wp2_with fail
          go_loopg [13, 14] ts.length (fun gg b j wy => ∃ m : Nat, m + gg = ts.length ∧ j = .int .i64 m ∧ b = .bool (hasAt (ts.take m) L[k].at_) ∧ Hid (Below wc.heap.size wc wy))
          case atStart => exact ⟨0, by omega, rfl, rfl, BX⟩
          case round =>
            obtain ⟨m, hm, rfl, rfl, BY⟩ := hrel
            cases gk with
            | zero =>
              obtain rfl : m = ts.length := by omega
              have HT := Lib.hid (HAT.out k hlt)
              rw [HT.out]
              clear hm
              go_wp2_with fail
              go_roundg g
              case measure => omega
              case rel => exact ⟨k + 1, by omega, by go_num, BY⟩
            | succ gg =>
              have hlm : m < ts.length := by omega
              have hlm2 : (m : Int) < ts.length := by omega
              obtain ⟨b, o, cp, x, hvv, hx, hbt, d0, d1, d2⟩ := (TT.out.below BY.out).tok m hlm
              cases hvv
              have HM := Lib.hid (has_more hlm L[k].at_)
              obtain ⟨bn, on_, cpn, hvn, hbn, n0_, n1_, n2_, n3_, n4_⟩ := (RL.out.below BY.out).nd k hlt
              cases hvn
              obtain ⟨b0, hb0⟩ : ∃ b0, hasAt (ts.take m) L[k].at_ = b0 := ⟨_, rfl⟩
              rw [hb0]
              have H0 := Lib.hid hb0
              obtain ⟨at_, hat⟩ : ∃ at_, ts[m].at_ = at_ := ⟨_, rfl⟩
              obtain ⟨an, han⟩ : ∃ an, L[k].at_ = an := ⟨_, rfl⟩
              rw [hat] at d2 HM
              rw [han] at HM
              have n4x := n4_
              rw [han] at n4x
              have n4y := n4x
              rw [Nat.zero_add] at n4y
              have HAN := Lib.hid han
              clear hb0 hat hx d0 d1 n0_ n1_ n2_ n3_ n4_
              cases b0
              · go_wp2_with fail
                go_quiet (fail)
                go_wp2_with fail
                go_roundg gg
                case measure => omega
                case rel => exact ⟨m + 1, by omega, by go_num, by rw [HAN.out, HM.out, ← HAN.out, H0.out]; rfl, Lib.hid (Below.trans BY.out (Draws.below ((Draws.refl _).drewN _) _))⟩
              · go_wp2_with fail
                go_quiet (fail)
                go_wp2_with fail
                go_roundg gg
                case measure => omega
                case rel => exact ⟨m + 1, by omega, by go_num, by rw [HAN.out, HM.out, ← HAN.out, H0.out]; rfl, Lib.hid (Below.trans BY.out (Draws.below ((Draws.refl _).drewN _) _))⟩
    · obtain ⟨a1, a2⟩ := v1 rfl h1
      subst a1
      have q1 : (e1 != 0) = true := by rw [bne_iff_ne]; exact h1
      have HA : Hid ((n1 == (s.size : Int)) = true ∨ hasAt (ts.take ts.length) n1 = true) := Lib.hid (by
        rcases a2 with h | h
        · exact .inl (by rw [beq_iff_eq, ← el]; exact h)
        · exact .inr (has_all h))
      clear v1 v2 v3 hts hn0 he0 hq a2 h1 el
      go_enter Tryz.func4, Tryz.ntmps4
      go_wp2_with fail
      refine (P1.out _ F.out).mono ?_
      rintro e w1 ⟨x1, y1, x2, y2, x3, y3, rfl, hr, hb⟩
      have S1 := Lib.hid ((SL.nil_of hb).box w1.heap.size rfl ⟨.slice x1 noQ.arg.length y1, .slice x2 noQ.src.length y2, .slice x3 noQ.cond.length y3⟩ noQ)
      clear hr hb
      go_wp2_with fail
      refine (A.out _ (F.out.below S1.out.base).1.1).mono ?_
      rintro e w2 ⟨v, rfl, ho, hb, _⟩
      obtain ⟨ad, cap, rfl⟩ := own_shape ho
      have S2 := Lib.hid (S1.out.below hb)
      have R2 := Lib.hid (own_reads ho)
      clear hb ho
      go_wp2_with fail
      go_loopg [9, 10] ts.length (fun g b i wx => ∃ k : Nat, k + g = ts.length ∧ i = .int .i64 k ∧ b = .bool ((n1 == (s.size : Int)) || hasAt (ts.take k) n1) ∧ w2 = wx)
      case atStart => exact ⟨0, by omega, rfl, by simp [hasAt], rfl⟩
      case round =>
        obtain ⟨k, hk, rfl, rfl, rfl⟩ := hrel
        cases gk with
        | zero =>
          obtain rfl : k = ts.length := by omega
          have HT : Hid (((n1 == (s.size : Int)) || hasAt (ts.take ts.length) n1) = true) := Lib.hid (by
            rcases HA.out with h | h <;> rw [h] <;> simp)
          rw [HT.out]
          have c2 := S2.out.at0.cells.2.2.1
          clear hk
          go_wp2_with fail
          refine (AL.out _ S2.out.base).mono ?_
          rintro e w3 ⟨rfl, hb⟩
          have B3 := Lib.hid (below_step S2.out.base hb)
          clear hb
          go_wp2_with fail
          go_ret
          exact ⟨rfl, B3.out⟩
        | succ g =>
          have hlt : k < ts.length := by omega
          have hl2 : (k : Int) < ts.length := by omega
          obtain ⟨b, o, cp, x, hvv, hx, hbt, d0, d1, d2⟩ := R2.out.tok k hlt
          cases hvv
          have HM := Lib.hid (has_more hlt n1)
          obtain ⟨b0, hb0⟩ : ∃ b0, ((n1 == (s.size : Int)) || hasAt (ts.take k) n1) = b0 := ⟨_, rfl⟩
          rw [hb0]
          have H0 := Lib.hid hb0
          obtain ⟨at_, hat⟩ : ∃ at_, ts[k].at_ = at_ := ⟨_, rfl⟩
          rw [hat] at d2 HM
          clear hb0 hat hx d0 d1
          cases b0
          · go_wp2_with fail
            go_roundg g
            case measure => omega
            case rel => exact ⟨k + 1, by omega, by go_num, by rw [HM.out, ← Bool.or_assoc, H0.out]; rfl, rfl⟩
          · go_wp2_with fail
            go_roundg g
            case measure => omega
            case rel => exact ⟨k + 1, by omega, by go_num, by rw [HM.out, ← Bool.or_assoc, H0.out]; rfl, rfl⟩
  · have hb1 := parseP_bad (s := s.data.toList) (by rw [he0]; exact he)
    rw [hq, hn0, he0] at hb1
    simp only [Prod.mk.injEq] at hb1
    obtain ⟨rfl, rfl, rfl⟩ := hb1
    have q1 : (e1 != 0) = true := by rw [bne_iff_ne]; exact he
    clear v1 v2 v3 hts hn0 he0 hq he el
    go_enter Tryz.func4, Tryz.ntmps4
    go_wp2_with fail
    refine (P1.out _ F.out).mono ?_
    rintro e w1 ⟨x1, y1, x2, y2, x3, y3, rfl, hr, hb⟩
    have B1 : Hid (Below w.heap.size w (w1.alloc (qyBox ⟨.slice x1 noQ.arg.length y1, .slice x2 noQ.src.length y2, .slice x3 noQ.cond.length y3⟩ noQ))) := Lib.hid (hb.alloc hb.size _)
    clear hr hb
    go_wp2_with fail
    refine (A.out _ (F.out.below B1.out).1.1).mono ?_
    rintro e w2 ⟨v, rfl, ho, hb, _⟩
    obtain ⟨ad, cap, rfl⟩ := own_shape ho
    have B2 := Lib.hid (below_step B1.out hb)
    clear hb ho
    go_wp2_with fail
    refine (AL.out _ B2.out).mono ?_
    rintro e w3 ⟨rfl, hb⟩
    have B3 := Lib.hid (below_step B2.out hb)
    clear hb
    go_wp2_with fail
    go_ret
    exact ⟨rfl, B3.out⟩
end Go.Proofs.YtdinaedknlkicaaGreatDoor.ParserW

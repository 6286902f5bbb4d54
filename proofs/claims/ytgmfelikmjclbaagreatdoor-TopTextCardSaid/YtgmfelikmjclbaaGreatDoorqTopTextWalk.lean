/-
  Walk of N1's statement TopText: numbers, bytes, tokens, nodes, expressions and kinds agree.
-/
import Derived.Test.YtgmfelikmjclbaaGreatDoorqTopFacts
import Derived.Test.YtgmfelikmjclbaaGreatDoorqRefWr
import Derived.Test.YtgmfelikmjclbaaGreatDoorqRefGreat
import Derived.Test.YtgmfelikmjclbaaGreatDoorPackE1
import Derived.Test.YtgmfelikmjclbaaGreatDoorqKindCalls
import Derived.Test.YtgmfelikmjclbaaGreatDoorqNodeMoved
import Derived.Test.YtgmfelikmjclbaaGreatDoorqCharsKind
import Derived.Test.YtgmfelikmjclbaaGreatDoorIntsRead
import Derived.Outline
namespace Go.Proofs.YtgmfelikmjclbaaGreatDoor.ExprW
open Nodes Exprs
open Go.ChangeShapes Go.WideShapes Go.ChangeAt Go.RowKit

/-- What the calls read. -/
def TopFix (w : World) : Prop := ExprFix w ∧ KindFix w
theorem TopFix.below {w w' : World} (h : TopFix w) (hb : Below w.heap.size w w') : TopFix w' := ⟨h.1.below hb, h.2.below hb⟩
theorem all_is (s : ByteArray) (hs : s.size ≤ maxLen) (w : World) (hf : LexFix w) :
    Calls Tryz.prog 6 #[.string s] w fun e w' => ∃ v, e = .returned (.tuple #[v, .int .i64 (allV s.data.toList).2.1, .int .i64 (allV s.data.toList).2.2]) ∧ Go.Proofs.YtgmfelikmjclbaaGreatDoor.Reads w' v (allV s.data.toList).1 ∧ Below w.heap.size w w' := by
  refine (lexAll_any s hs w hf).mono ?_
  rintro e w' ⟨v, rfl, hO, hb, _⟩
  exact ⟨v, rfl, own_reads hO, hb⟩
theorem all_small (l : List UInt8) (h : l.length ≤ 400) : (allV l).1.length ≤ 400 ∧ ∀ t ∈ (allV l).1, t.text.length ≤ 400 := by
  obtain ⟨h1, h2⟩ := all_texts l
  exact ⟨by omega, fun t ht => by have := h1 t ht; omega⟩
def alvL : List UInt8 := [118, 32, 43, 32, 49, 50]
theorem alv_facts : (allV alvL).2.2 = 0 ∧ (parseV (allV alvL).1 0).2 = (3, 0) ∧ (parseV (allV alvL).1 0).1.length = 3 ∧ ofV (parseV (allV alvL).1 0).1 = (false, 2, 0) := by decide +kernel
set_option maxRecDepth 100000 in
set_option maxHeartbeats 1000000 in
theorem alive06_any (w : World) (hf : TopFix w) : Calls Tryz.prog 5 #[] w fun e w' => e = .returned (.bool true) ∧ Below w.heap.size w w' := by
  obtain ⟨a1, a2, a3, a4⟩ := alv_facts
  have A := Lib.hid (all_is ⟨alvL.toArray⟩ (by decide) w hf.1.1)
  have hd : (⟨alvL.toArray⟩ : ByteArray).data.toList = alvL := rfl
  rw [hd] at A
  have SM := all_small alvL (by decide)
  have PS := parse_small (allV alvL).1 0
  obtain ⟨ts, hts⟩ : ∃ ts, (allV alvL).1 = ts := ⟨_, rfl⟩
  obtain ⟨at0, hat0⟩ : ∃ z, ((allV alvL).2.1 : Int) = z := ⟨_, rfl⟩
  rw [hts] at A SM a2 a3 a4 PS
  rw [a1, hat0] at A
  obtain ⟨x, hx⟩ : ∃ x, (parseV ts 0).1 = x := ⟨_, rfl⟩
  rw [hx] at a3 a4 PS
  have P := Lib.hid (fun v W (h : Below w.heap.size w W) (hr : Go.Proofs.YtgmfelikmjclbaaGreatDoor.Reads W v ts) => exprsParse_any v ts 0 W (hf.1.below h) hr (by omega) (fun t ht => by have := SM.2 t ht; omega))
  unfold ParseEnds at P
  rw [hx, a2] at P
  have O := Lib.hid (fun v W (h : Below w.heap.size w W) (hr : ReadsN W v x) => kindsOf_any v x W (hf.2.below h) hr (by omega))
  rw [a4] at O
  have H3 := Lib.hid a3
  clear hf hd hts hat0 hx PS a1 a2 a4 SM a3
  go_enter Tryz.func5, Tryz.ntmps5
  go_wp2_with fail
  refine A.out.mono ?_
  rintro e w1 ⟨v, rfl, hr, hb⟩
  have HB1 := Lib.hid hb
  have HR1 := Lib.hid hr
  clear hb hr
  go_wp2_with fail
  refine (P.out _ _ HB1.out HR1.out).mono ?_
  rintro e w2 ⟨u, rfl, ho, hb⟩
  have HB2 := Lib.hid (below_step HB1.out hb)
  have HX := Lib.hid (own_readsN ho)
  obtain ⟨ad, cap, rfl⟩ := Nodes.own_shape ho
  rw [H3.out] at HX ⊢
  clear hb ho
  go_wp2_with fail
  refine (O.out _ _ HB2.out HX.out).mono ?_
  rintro e w3 ⟨rfl, hb⟩
  have HB3 := Lib.hid (below_step HB2.out hb)
  clear hb
  go_wp2_with fail
  go_ret
  exact ⟨rfl, HB3.out⟩
theorem tok_mem {t : Tok} {x : ByteArray} (h : x.data.toList = t.text) (k : Nat) (hk : k < x.size) : x[k] ∈ t.text := by
  rw [← h]
  exact List.getElem_mem (l := x.data.toList) (n := k) (by simpa using hk)
/-- The bytes of a token, as the statement asks for them. -/
theorem byte_facts {t : Tok} {x : ByteArray} (hv : validT t = true) (h : x.data.toList = t.text) (k : Nat) (hk : k < x.size) :
    ∃ (kv : Int) (b c : Bool), kindV (x[k].toNat : Int) = kv ∧ (kv == 0) = false ∧ (kv == 1) = false ∧ (kv == 2) = b ∧ (t.kind == 1) = b ∧ (kv == 3) = c ∧ (t.kind == 2) = c := by
  obtain ⟨h0, h1, h2, h3⟩ := byte_kinds hv (tok_mem h k hk)
  refine ⟨_, _, _, rfl, by rw [beq_eq_false_iff_ne]; exact h0, by rw [beq_eq_false_iff_ne]; exact h1, rfl, ?_, rfl, ?_⟩
  · rw [Bool.eq_iff_iff, beq_iff_eq, beq_iff_eq]; exact h2.symm
  · rw [Bool.eq_iff_iff, beq_iff_eq, beq_iff_eq]; exact h3.symm
set_option linter.unusedVariables false in
set_option maxRecDepth 100000 in
set_option maxHeartbeats 8000000 in
theorem top_walk (s : ByteArray) (hs : s.size ≤ maxLen) (w : World) (hf : TopFix w) :
    Calls Tryz.prog 3 #[.string s] w fun e w' => e = .returned (.bool true) ∧ Below w.heap.size w w' := by
  have AL := Lib.hid (alive06_any w hf)
  have A := Lib.hid (fun (W : World) (h : Below w.heap.size w W) => all_is s hs W (hf.below h).1.1)
  have F := Lib.hid hf
  have SM := all_small s.data.toList
  have AV := all_valid s.data.toList
  have PS := parse_small (allV s.data.toList).1 0
  have PO := fun x n => parsed_ok (ts := (allV s.data.toList).1) (x := x) (n := n)
  have E4 : 400 < s.data.toList.length → allV s.data.toList = ([], 0, 4) := fun h => by unfold allV; rw [if_pos h]
  have hsz : s.data.toList.length = s.size := by simp
  rw [hsz] at SM E4
  obtain ⟨ts, at0, e0, ha⟩ : ∃ ts at0 e0, allV s.data.toList = (ts, at0, e0) := ⟨_, _, _, rfl⟩
  rw [ha] at A SM AV PS PO E4
  simp only at A SM AV PS PO E4
  clear hf hsz ha
  by_cases hbig : 400 < s.size
  · have hbi : decide ((400 : Int) < s.size) = true := decide_eq_true (by omega)
    clear SM AV PS PO E4 hbig
    go_enter Tryz.func3, Tryz.ntmps3
    go_wp2_with fail
    refine AL.out.mono ?_
    rintro e w1 ⟨rfl, hb⟩
    have HB1 := Lib.hid hb
    clear hb
    go_wp2_with fail
    refine (A.out _ HB1.out).mono ?_
    rintro e w2 ⟨v, rfl, hr, hb⟩
    obtain ⟨ad, cap, rfl⟩ := hr.shape
    have HB2 := Lib.hid (below_step HB1.out hb)
    clear hb hr
    go_wp2_with fail
    go_ret
    exact ⟨rfl, HB2.out⟩
  have hbi : decide ((400 : Int) < s.size) = false := decide_eq_false (by omega)
  obtain ⟨hts, htx⟩ := SM (by omega)
  clear SM E4
  cases he : (e0 != 0)
  rotate_left
  · clear AV PS PO
    go_enter Tryz.func3, Tryz.ntmps3
    go_wp2_with fail
    refine AL.out.mono ?_
    rintro e w1 ⟨rfl, hb⟩
    have HB1 := Lib.hid hb
    clear hb
    go_wp2_with fail
    refine (A.out _ HB1.out).mono ?_
    rintro e w2 ⟨v, rfl, hr, hb⟩
    obtain ⟨ad, cap, rfl⟩ := hr.shape
    have HB2 := Lib.hid (below_step HB1.out hb)
    clear hb hr
    go_wp2_with fail
    go_ret
    exact ⟨rfl, HB2.out⟩
  by_cases hn0 : ts.length = 0
  · have hz : ((ts.length : Int) == 0) = true := by rw [beq_iff_eq]; omega
    clear AV PS PO hn0
    go_enter Tryz.func3, Tryz.ntmps3
    go_wp2_with fail
    refine AL.out.mono ?_
    rintro e w1 ⟨rfl, hb⟩
    have HB1 := Lib.hid hb
    clear hb
    go_wp2_with fail
    refine (A.out _ HB1.out).mono ?_
    rintro e w2 ⟨v, rfl, hr, hb⟩
    obtain ⟨ad, cap, rfl⟩ := hr.shape
    have HB2 := Lib.hid (below_step HB1.out hb)
    clear hb hr
    go_wp2_with fail
    go_ret
    exact ⟨rfl, HB2.out⟩
  have hz : ((ts.length : Int) == 0) = false := by rw [beq_eq_false_iff_ne]; omega
  have HTX := Lib.hid htx
  have HAV := Lib.hid AV
  have HPS := Lib.hid PS
  have HPO := Lib.hid PO
  clear AV PS PO htx hn0
  go_enter Tryz.func3, Tryz.ntmps3
  go_wp2_with fail
  refine AL.out.mono ?_
  rintro e w1 ⟨rfl, hb⟩
  have HB1 := Lib.hid hb
  clear hb
  go_wp2_with fail
  refine (A.out _ HB1.out).mono ?_
  rintro e w2 ⟨v, rfl, hr, hb⟩
  have HR := Lib.hid hr
  obtain ⟨ad, cap, rfl⟩ := hr.shape
  have HB2 := Lib.hid (below_step HB1.out hb)
  have F2 := Lib.hid (F.out.below HB2.out)
  clear hb hr
  go_wp2_with fail
  go_loopg [7] ts.length (fun g s7 wx => ∃ i : Nat, i + g = ts.length ∧ s7 = .int .i64 i ∧ Hid (Below w2.heap.size w2 wx))
  case atStart => exact ⟨0, by omega, rfl, Lib.hid (Below.refl _ _)⟩
  case round =>
    obtain ⟨i, hig, rfl, HX⟩ := hrel
    cases gk with
    | succ g =>
      have hlt : i < ts.length := by omega
      have hval := HAV.out _ (List.getElem_mem hlt)
      obtain ⟨b, o, cap', x, hv, hx, hbs, c0, c1, c2⟩ := HR.out.tok i hlt
      cases hv
      have hxl : x.size ≤ 400 := by
        have h1 := HTX.out _ (List.getElem_mem hlt)
        have : x.size = ts[i].text.length := by rw [← hx]; simp
        omega
      have CE : Hid (∀ W, Below w2.heap.size w2 W → W.cell? ⟨b, o + i * 3, none⟩ = some (.int .u8 ts[i].kind) ∧ W.cell? ⟨b, o + i * 3 + 1, none⟩ = some (.string x)) := Lib.hid fun W h => ⟨(h.cell (p := ⟨b, _, none⟩) hbs).trans c0, (h.cell (p := ⟨b, _, none⟩) hbs).trans c1⟩
      have BF := Lib.hid (fun k hk => byte_facts hval hx k hk)
      obtain ⟨tk, htk⟩ : ∃ tk, ts[i].kind = tk := ⟨_, rfl⟩
      rw [htk] at CE BF
      have hi' : (i : Int) < ts.length := by omega
      clear c0 c1 c2 hval hx htk
      go_wp2_with fail
      go_loopg [8] x.size (fun g2 s8 wy => ∃ k : Nat, k + g2 = x.size ∧ s8 = .int .i64 k ∧ Hid (Below w2.heap.size w2 wy))
      case atStart => exact ⟨0, by omega, rfl, HX⟩
      case round =>
        obtain ⟨k, hkg, rfl, HX⟩ := hrel
        obtain ⟨d0, d1⟩ := CE.out _ HX.out
        cases gk with
        | zero =>
          obtain rfl : k = x.size := by omega
          clear hkg
          go_wp2_with fail
          go_roundg g
          case measure => omega
          case rel => exact ⟨i + 1, by omega, by go_num, HX⟩
        | succ g2 =>
          have hk : k < x.size := by omega
          obtain ⟨kv, bb, bc, hkv, q0, q1, q2, q3, q4, q5⟩ := BF.out k hk
          have K := Lib.hid (kind_any (x[k].toNat : Int) (by omega) (by have := x[k].toNat_lt; omega) wr)
          rw [hkv] at K
          have qb : (bb == bb) = true := by simp
          have qc : (bc == bc) = true := by simp
          clear hkv
          go_wp2_with fail
          refine K.out.mono ?_
          rintro e w4 ⟨rfl, hb⟩
          have HX2 := Lib.hid (HX.out.trans (hb.mono HX.out.size))
          obtain ⟨f0, f1⟩ := CE.out _ HX2.out
          clear hb d0 d1
          go_wp2_with fail
          go_roundg g2
          case measure => omega
          case rel => exact ⟨k + 1, by omega, by go_num, HX2⟩
    | zero =>
      obtain rfl : i = ts.length := by omega
      have HB3 := Lib.hid (below_step HB2.out HX.out)
      have HR3 := Lib.hid (HR.out.below HX.out)
      obtain ⟨x, n, f, hp⟩ : ∃ x n f, parseV ts 0 = (x, n, f) := ⟨_, _, _, rfl⟩
      have P := Lib.hid (exprsParse_any _ ts 0 wr (F.out.below HB3.out).1 HR3.out (by omega) (fun t ht => by have := HTX.out t ht; omega))
      unfold ParseEnds at P
      have PS2 := HPS.out
      rw [hp] at P PS2
      simp only at P PS2
      obtain ⟨hx60, hwide⟩ := PS2
      clear hig
      go_wp2_with fail
      refine P.out.mono ?_
      rintro e w4 ⟨vx, rfl, ho, hb⟩
      have HB4 := Lib.hid (below_step HB3.out hb)
      have HR4 := Lib.hid (HR3.out.below hb)
      have HX4 := Lib.hid (own_readsN ho)
      obtain ⟨adx, capx, rfl⟩ := Nodes.own_shape ho
      clear hb ho P
      cases q1 : (f != 0)
      · have hf0 : f = 0 := by rw [bne_eq_false_iff_eq] at q1; exact q1
        subst hf0
        cases q2 : (n != (ts.length : Int))
        · have hn : n = (ts.length : Int) := by rw [bne_eq_false_iff_eq] at q2; exact q2
          have G := Lib.hid (Go.Proofs.YtgmfelikmjclbaaGreatDoor.great_any _ ts w4 HR4.out (by omega))
          cases hg : greatB ts
          · rw [hg] at G
            obtain ⟨hok, hc, hnum⟩ := HPO.out x n hp
            have HC := Lib.hid hc
            have HOK := Lib.hid hok
            have HN0 : Hid (numN (x.drop 0) = numT (ts.drop 0)) := Lib.hid (by rw [List.drop_zero, List.drop_zero]; exact hnum hn)
            have HWI := Lib.hid hwide
            clear hg hp hn hok hc hnum hwide
            go_wp2_with fail
            refine G.out.mono ?_
            rintro e w5 ⟨rfl, rfl⟩
            go_wp2_with fail
            go_loopg [13, 14] ts.length (fun g s13 s14 wx => ∃ (i a : Nat), i + g = ts.length ∧ s13 = .int .i64 a ∧ s14 = .int .i64 i ∧ Hid (numN (x.drop a) = numT (ts.drop i)) ∧ Hid (a ≤ x.length) ∧ Hid (Below w4.heap.size w4 wx))
            case atStart => exact ⟨0, 0, by omega, rfl, rfl, HN0, Lib.hid (Nat.zero_le _), Lib.hid (Below.refl _ _)⟩
            case round =>
              obtain ⟨i, a, hig, rfl, rfl, HN, HA, HY⟩ := hrel
              cases gk with
              | succ g =>
                have hlt : i < ts.length := by omega
                obtain ⟨b, o, cap', xt, hv, hxt, hbs, c0, c1, c2⟩ := (HR4.out.below HY.out).tok i hlt
                cases hv
                have hi' : (i : Int) < ts.length := by omega
                by_cases hk1 : ts[i].kind = 1
                · have hq : (ts[i].kind != 1) = false := by rw [hk1]; rfl
                  have hxl : xt.size ≤ 281474976710656 := by
                    have h1 := HTX.out _ (List.getElem_mem hlt)
                    have : xt.size = ts[i].text.length := by rw [← hxt]; simp
                    omega
                  have hrd : rdE xt.data.toList = 0 := by rw [hxt]; exact (num_valid (HOK.out.tok hlt).1).1 hk1
                  have HRD := Lib.hid (fun (W : World) (h : ErrFix W) => read_any xt hxl W h)
                  unfold ReadEnds at HRD
                  rw [hrd] at HRD
                  obtain ⟨rv, hrv⟩ : ∃ rv, rdV xt.data.toList = rv := ⟨_, rfl⟩
                  have HNH : Hid (numT (ts.drop i) = (rv, ts[i].at_) :: numT (ts.drop (i + 1))) := Lib.hid (by rw [numT_here hlt hk1, ← hrv, hxt])
                  rw [hrv] at HRD
                  have CT : Hid (∀ W, Below wr.heap.size wr W → W.cell? ⟨b, o + i * 3, none⟩ = some (.int .u8 ts[i].kind) ∧ W.cell? ⟨b, o + i * 3 + 1, none⟩ = some (.string xt) ∧ W.cell? ⟨b, o + i * 3 + 2, none⟩ = some (.int .i64 ts[i].at_)) := Lib.hid fun W h => ⟨(h.cell (p := ⟨b, _, none⟩) hbs).trans c0, (h.cell (p := ⟨b, _, none⟩) hbs).trans c1, (h.cell (p := ⟨b, _, none⟩) hbs).trans c2⟩
                  obtain ⟨W0, hW0⟩ : ∃ W0, wr = W0 := ⟨_, rfl⟩
                  obtain ⟨p0, hp0⟩ : ∃ p0, ts[i].at_ = p0 := ⟨_, rfl⟩
                  rw [hp0] at c2 CT HNH
                  rw [hk1] at c0 CT hq
                  have HYW := Lib.hid hW0
                  clear hrd hrv hxt hk1 hp0 hW0
                  go_wp2_with fail
                  go_loopg [13] (x.length - a) (fun g2 s13 wy => ∃ a2 : Nat, a2 + g2 = x.length ∧ s13 = .int .i64 a2 ∧ Hid (numN (x.drop a2) = numT (ts.drop i)) ∧ Hid (Below W0.heap.size W0 wy))
                  case atStart => exact ⟨a, by have := HA.out; omega, rfl, HN, Lib.hid (by rw [← HYW.out]; exact Below.refl _ _)⟩
                  case round =>
                    obtain ⟨a2, hag, rfl, HN2, HZ⟩ := hrel
                    rw [HYW.out] at HY CT
                    cases gk with
                    | zero =>
                      exfalso
                      have h1 := HN2.out
                      rw [show a2 = x.length by omega, List.drop_length, HNH.out] at h1
                      cases h1
                    | succ g2 =>
                      have ha2 : a2 < x.length := by omega
                      obtain ⟨bn, on, capn, hvn, hbn, n0, n1, n2, n3, n4⟩ := ((HX4.out.below HY.out).below HZ.out).nd a2 ha2
                      cases hvn
                      obtain ⟨t0, t1, t2⟩ := CT.out _ HZ.out
                      have ha2' : (a2 : Int) < x.length := by omega
                      have hdl : decide ((a2 : Int) < x.length) = true := decide_eq_true ha2'
                      have hdg : decide ((x.length : Int) ≤ a2) = false := decide_eq_false (by omega)
                      have hdl2 : decide (a2 < x.length) = true := decide_eq_true ha2
                      have hdg2 : decide (x.length ≤ a2) = false := decide_eq_false (by omega)
                      by_cases hnk : x[a2].kind = 1
                      · have hq2 : (x[a2].kind != 1) = false := by rw [hnk]; rfl
                        have hh := HN2.out
                        rw [numN_here ha2 hnk, HNH.out] at hh
                        simp only [List.cons.injEq, Prod.mk.injEq] at hh
                        obtain ⟨⟨hv1, hv2⟩, hv3⟩ := hh
                        rw [hv1] at n1
                        rw [hv2] at n4
                        rw [hnk] at n0
                        have HN3 := Lib.hid hv3
                        have FE := Lib.hid (HRD.out wr ((F.out.below HB4.out).below (HY.out.trans (HZ.out.mono HY.out.size))).1.1.1)
                        have CX : Hid (∀ W, Below wr.heap.size wr W → W.cell? ⟨bn, on + a2 * 5 + 1, none⟩ = some (.int .i64 rv) ∧ W.cell? ⟨bn, on + a2 * 5 + 4, none⟩ = some (.int .i64 p0)) := Lib.hid fun W h => ⟨(h.cell (p := ⟨bn, _, none⟩) hbn).trans n1, (h.cell (p := ⟨bn, _, none⟩) hbn).trans n4⟩
                        have qv : (rv == rv) = true := by simp
                        have qp : (p0 == p0) = true := by simp
                        clear hv1 hv2 hv3 hnk
                        go_wp2_with fail
                        refine FE.out.mono ?_
                        rintro e w6 ⟨rfl, hb⟩
                        have HZ6 := Lib.hid (HZ.out.trans (hb.mono HZ.out.size))
                        obtain ⟨u0, u1, u2⟩ := CT.out _ HZ6.out
                        obtain ⟨m1, m4⟩ := CX.out _ hb
                        have HY6 : Hid (Below w4.heap.size w4 w6) := Lib.hid (HY.out.trans (HZ6.out.mono HY.out.size))
                        clear hb t0 t1 t2 n0 n1 n2 n3 n4
                        go_wp2_with fail
                        go_quiet (fail)
                        go_wp2_with fail
                        go_roundg g
                        case measure => omega
                        case rel => exact ⟨i + 1, a2 + 1, by omega, by go_num, by go_num, HN3, Lib.hid (by omega), Lib.hid (below_drewN HY6.out _)⟩
                      · have hq2 : (x[a2].kind != 1) = true := by rw [bne_iff_ne]; exact hnk
                        have HN3 := Lib.hid (numN_step ha2 hnk ▸ HN2.out)
                        clear hnk
                        go_wp2_with fail
                        go_roundg g2
                        case measure => omega
                        case rel => exact ⟨a2 + 1, by omega, by go_num, HN3, HZ⟩
                · have hq : (ts[i].kind != 1) = true := by rw [bne_iff_ne]; exact hk1
                  have HN3 := Lib.hid (numT_skip hlt hk1 ▸ HN.out)
                  clear hk1
                  go_wp2_with fail
                  go_roundg g
                  case measure => omega
                  case rel => exact ⟨i + 1, a, by omega, rfl, by go_num, HN3, HA, HY⟩
              | zero =>
                obtain rfl : i = ts.length := by omega
                have HYa := Lib.hid HY.out
                have CK := Lib.hid (refCheck_any _ x wr (HX4.out.below HY.out) (by omega))
                rw [HC.out] at CK
                have hpos := (check_acc HC.out).2.1
                obtain ⟨m, hm⟩ : ∃ m, x.length - 1 = m := ⟨_, rfl⟩
                have hm1 : (x.length : Int) - 1 = m := by omega
                clear hig HN HA
                go_wp2_with fail
                refine CK.out.mono ?_
                rintro e w6 ⟨rfl, hb⟩
                have HY6 := Lib.hid (below_then HYa.out hb)
                clear hb CK
                have OF := Lib.hid (kindsOf_any _ x w6 ((F.out.below HB4.out).below HY6.out).2 (HX4.out.below HY6.out) (by omega))
                by_cases hw : wrongV x < x.length
                · rw [of_wrong HC.out hw] at OF
                  obtain ⟨u, hu⟩ : ∃ u, wrongV x = u := ⟨_, rfl⟩
                  rw [hu] at OF hw
                  have HU := Lib.hid hu
                  clear hu
                  go_wp2_with fail
                  refine OF.out.mono ?_
                  rintro e w7 ⟨rfl, hb⟩
                  have HY7 := Lib.hid (below_then HY6.out hb)
                  clear hb OF
                  go_wp2_with fail
                  go_loopg [20] x.length (fun g s20 wx => ∃ i : Nat, i + g = x.length ∧ s20 = .int .i64 i ∧ Hid (Below w4.heap.size w4 wx))
                  case atStart => exact ⟨0, by omega, rfl, HY7⟩
                  case round =>
                    obtain ⟨i, hig, rfl, HY⟩ := hrel
                    cases gk with
                    | zero =>
                      obtain rfl : i = x.length := by omega
                      have HXr := Lib.hid (HX4.out.below HY.out)
                      have TX := Lib.hid (exprsText_any _ x wr ((F.out.below HB4.out).below HY.out).1 HXr.out (by omega) HWI.out)
                      unfold TextEnds at TX
                      rw [textV_wt HC.out (by omega), hm] at TX
                      have RW := Lib.hid (fun (W : World) (h : Below w4.heap.size w4 W) => refWritten_any (.slice adx x.length capx) x m W (HX4.out.below h) HC.out HWI.out (by omega))
                      obtain ⟨st, hst⟩ : ∃ st : ByteArray, (⟨(WT x m).toArray⟩ : ByteArray) = st := ⟨_, rfl⟩
                      simp only at TX
                      rw [hst] at TX
                      simp only [hst] at RW
                      have qs : (st.toList == st.toList) = true := by simp
                      clear hig hst
                      go_wp2_with fail
                      refine TX.out.mono ?_
                      rintro e w8 ⟨rfl, hb⟩
                      have HY8 := Lib.hid (below_then HY.out hb)
                      clear hb
                      go_wp2_with fail
                      refine (RW.out _ HY8.out).mono ?_
                      rintro e w9 ⟨rfl, hb⟩
                      have HB9 := Lib.hid (below_step HB4.out (below_then HY8.out hb))
                      clear hb
                      go_wp2_with fail
                      go_ret
                      exact ⟨rfl, HB9.out⟩
                    | succ g =>
                      have hlt : i < x.length := by omega
                      have PA := Lib.hid (nodesPart_any _ x (i : Int) wr (HX4.out.below HY.out) (by omega))
                      rw [part_ok HC.out hlt] at PA
                      obtain ⟨c1, c2, _⟩ := cut_ok HC.out hlt
                      have hsz := (good_sz (check_acc HC.out).1 i hlt).2.1
                      have OC := Lib.hid (fun vo (W : World) (h : Below w4.heap.size w4 W) (hr : ReadsN W vo (cutL x (sz (accV x) i) i)) => kindsOf_any vo _ W ((F.out.below HB4.out).below h).2 hr (by rw [c2]; omega))
                      by_cases hiu : i < u
                      · have pt := part_typed HC.out hlt (by rw [HU.out]; exact hiu)
                        rw [pt] at OC
                        have hd : decide ((i : Int) < u) = true := decide_eq_true (by omega)
                        have hd2 : decide (i < u) = true := decide_eq_true hiu
                        clear pt hiu
                        clear c1 c2
                        go_wp2_with fail
                        refine PA.out.mono ?_
                        rintro e w8 ⟨vo, rfl, hoo, hb⟩
                        have HY8 := Lib.hid (below_then HY.out hb)
                        have OC2 := Lib.hid (OC.out vo _ HY8.out (own_readsN hoo))
                        clear hb hoo
                        go_wp2_with fail
                        refine OC2.out.mono ?_
                        rintro e w9 ⟨rfl, hb⟩
                        have HY9 := Lib.hid (below_then HY8.out hb)
                        clear hb
                        go_wp2_with fail
                        go_roundg g
                        case measure => omega
                        case rel => exact ⟨i + 1, by omega, by go_num, HY9⟩
                      · obtain ⟨ka, kb, kc, hkk⟩ : ∃ ka kb kc, ofV (cutL x (sz (accV x) i) i) = (ka, kb, kc) := ⟨_, _, _, rfl⟩
                        rw [hkk] at OC
                        have hd : decide ((i : Int) < u) = false := decide_eq_false (by omega)
                        have hd2 : decide (i < u) = false := decide_eq_false hiu
                        clear hkk hiu
                        cases qk : (kc != 0)
                        · clear c1 c2
                          go_wp2_with fail
                          refine PA.out.mono ?_
                          rintro e w8 ⟨vo, rfl, hoo, hb⟩
                          have HY8 := Lib.hid (below_then HY.out hb)
                          have OC2 := Lib.hid (OC.out vo _ HY8.out (own_readsN hoo))
                          clear hb hoo
                          go_wp2_with fail
                          refine OC2.out.mono ?_
                          rintro e w9 ⟨rfl, hb⟩
                          have HY9 := Lib.hid (below_then HY8.out hb)
                          clear hb
                          go_wp2_with fail
                          go_roundg g
                          case measure => omega
                          case rel => exact ⟨i + 1, by omega, by go_num, HY9⟩
                        · clear c1 c2
                          go_wp2_with fail
                          refine PA.out.mono ?_
                          rintro e w8 ⟨vo, rfl, hoo, hb⟩
                          have HY8 := Lib.hid (below_then HY.out hb)
                          have OC2 := Lib.hid (OC.out vo _ HY8.out (own_readsN hoo))
                          clear hb hoo
                          go_wp2_with fail
                          refine OC2.out.mono ?_
                          rintro e w9 ⟨rfl, hb⟩
                          have HY9 := Lib.hid (below_then HY8.out hb)
                          clear hb
                          go_wp2_with fail
                          go_roundg g
                          case measure => omega
                          case rel => exact ⟨i + 1, by omega, by go_num, HY9⟩
                · have hwl : wrongV x = x.length := by have := wrong_le x; omega
                  rw [of_typed HC.out hwl] at OF
                  have HWL := Lib.hid hwl
                  clear hw hwl
                  go_wp2_with fail
                  refine OF.out.mono ?_
                  rintro e w7 ⟨rfl, hb⟩
                  have HY7 := Lib.hid (below_then HY6.out hb)
                  clear hb OF
                  go_wp2_with fail
                  go_loopg [20] x.length (fun g s20 wx => ∃ i : Nat, i + g = x.length ∧ s20 = .int .i64 i ∧ Hid (Below w4.heap.size w4 wx))
                  case atStart => exact ⟨0, by omega, rfl, HY7⟩
                  case round =>
                    obtain ⟨i, hig, rfl, HY⟩ := hrel
                    cases gk with
                    | zero =>
                      obtain rfl : i = x.length := by omega
                      have HXr := Lib.hid (HX4.out.below HY.out)
                      have TX := Lib.hid (exprsText_any _ x wr ((F.out.below HB4.out).below HY.out).1 HXr.out (by omega) HWI.out)
                      unfold TextEnds at TX
                      rw [textV_wt HC.out (by omega), hm] at TX
                      have RW := Lib.hid (fun (W : World) (h : Below w4.heap.size w4 W) => refWritten_any (.slice adx x.length capx) x m W (HX4.out.below h) HC.out HWI.out (by omega))
                      obtain ⟨st, hst⟩ : ∃ st : ByteArray, (⟨(WT x m).toArray⟩ : ByteArray) = st := ⟨_, rfl⟩
                      simp only at TX
                      rw [hst] at TX
                      simp only [hst] at RW
                      have qs : (st.toList == st.toList) = true := by simp
                      clear hig hst
                      go_wp2_with fail
                      refine TX.out.mono ?_
                      rintro e w8 ⟨rfl, hb⟩
                      have HY8 := Lib.hid (below_then HY.out hb)
                      clear hb
                      go_wp2_with fail
                      refine (RW.out _ HY8.out).mono ?_
                      rintro e w9 ⟨rfl, hb⟩
                      have HB9 := Lib.hid (below_step HB4.out (below_then HY8.out hb))
                      clear hb
                      go_wp2_with fail
                      go_ret
                      exact ⟨rfl, HB9.out⟩
                    | succ g =>
                      have hlt : i < x.length := by omega
                      have PA := Lib.hid (nodesPart_any _ x (i : Int) wr (HX4.out.below HY.out) (by omega))
                      rw [part_ok HC.out hlt] at PA
                      obtain ⟨c1, c2, _⟩ := cut_ok HC.out hlt
                      have hsz := (good_sz (check_acc HC.out).1 i hlt).2.1
                      have OC := Lib.hid (fun vo (W : World) (h : Below w4.heap.size w4 W) (hr : ReadsN W vo (cutL x (sz (accV x) i) i)) => kindsOf_any vo _ W ((F.out.below HB4.out).below h).2 hr (by rw [c2]; omega))
                      have pt := part_typed HC.out hlt (by rw [HWL.out]; exact hlt)
                      rw [pt] at OC
                      clear pt
                      clear c1 c2
                      go_wp2_with fail
                      refine PA.out.mono ?_
                      rintro e w8 ⟨vo, rfl, hoo, hb⟩
                      have HY8 := Lib.hid (below_then HY.out hb)
                      have OC2 := Lib.hid (OC.out vo _ HY8.out (own_readsN hoo))
                      clear hb hoo
                      go_wp2_with fail
                      refine OC2.out.mono ?_
                      rintro e w9 ⟨rfl, hb⟩
                      have HY9 := Lib.hid (below_then HY8.out hb)
                      clear hb
                      go_wp2_with fail
                      go_roundg g
                      case measure => omega
                      case rel => exact ⟨i + 1, by omega, by go_num, HY9⟩
          · rw [hg] at G
            clear hg hp hn
            go_wp2_with fail
            refine G.out.mono ?_
            rintro e w5 ⟨rfl, rfl⟩
            go_wp2_with fail
            go_ret
            exact ⟨rfl, HB4.out⟩
        · clear hp
          go_wp2_with fail
          go_ret
          exact ⟨rfl, HB4.out⟩
      · clear hp
        go_wp2_with fail
        go_ret
        exact ⟨rfl, HB4.out⟩
end Go.Proofs.YtgmfelikmjclbaaGreatDoor.ExprW

/-
  Contracts of package kinds at the landed code (layer 6): typed, Of, Number, Truth, All.
-/
import Derived.Test.YtgmfelikmjclbaaDoorKindMisfit
import Derived.Test.YtgmfelikmjclbaaDoorNodeRows
import Derived.Maps.AppendAt
import Derived.Outline
namespace Go.Proofs.YtgmfelikmjclbaaDoor.Nodes
open Go.ChangeShapes Go.WideShapes Go.ChangeAt Go.RowKit

set_option maxRecDepth 100000 in
set_option maxHeartbeats 1000000 in
theorem kindsTyped_any (v : Value) (l : List Nd) (w : World) (hf : KindFix w) (hR : ReadsN w v l) (hn : l.length ≤ 1000000) :
    Calls Tryd.prog 27 #[v] w fun e w' => e = .returned (.tuple #[.int .i64 (ofV l).2.1, .int .i64 (ofV l).2.2]) ∧ Below w.heap.size w w' := by
  obtain ⟨ad, cap, rfl⟩ := hR.shape
  have C := Lib.hid (fun (W : World) h => nodesCheck_any (.slice ad l.length cap) l W h hn)
  have HR := Lib.hid hR
  have F := Lib.hid hf
  clear hR hf
  by_cases hc : checkV l = 0
  · have q : (checkV l != 0) = false := by rw [hc]; rfl
    have hpos := (check_acc hc).2.1
    obtain ⟨m, hm⟩ : ∃ m, l.length - 1 = m := ⟨_, rfl⟩
    have hm1 : (l.length : Int) - 1 = m := by omega
    have W := Lib.hid (fun (W : World) hf h => misfit_any (.slice ad l.length cap) l W hf h hc)
    by_cases hw : wrongV l < l.length
    · have HV := Lib.hid (of_wrong hc hw)
      have hw' : (wrongV l : Int) < l.length := by omega
      obtain ⟨u, hu⟩ : ∃ u, wrongV l = u := ⟨_, rfl⟩
      rw [hu] at W HV hw'
      clear hc hw hu hpos
      go_enter Tryd.func27, Tryd.ntmps27
      go_wp2_with fail
      refine (C.out _ HR.out).mono ?_
      rintro e w1 ⟨rfl, hb⟩
      have HB := Lib.hid hb
      have HR1 := Lib.hid (HR.out.below hb)
      have F1 := Lib.hid (F.out.below hb)
      clear hb
      go_wp2_with fail
      refine (W.out _ F1.out HR1.out).mono ?_
      rintro e w2 ⟨rfl, hb⟩
      have HB2 := Lib.hid (below_then HB.out hb)
      clear hb
      go_wp2_with fail
      go_ret2
      exact ⟨by rw [HV.out]; rfl, HB2.out⟩
    · have he : wrongV l = l.length := by have := wrong_le l; omega
      have HV := Lib.hid (of_typed hc he)
      rw [hm] at HV
      rw [he] at W
      clear hc hw hpos he
      go_enter Tryd.func27, Tryd.ntmps27
      go_wp2_with fail
      refine (C.out _ HR.out).mono ?_
      rintro e w1 ⟨rfl, hb⟩
      have HB := Lib.hid hb
      have HR1 := Lib.hid (HR.out.below hb)
      have F1 := Lib.hid (F.out.below hb)
      clear hb
      go_wp2_with fail
      refine (W.out _ F1.out HR1.out).mono ?_
      rintro e w2 ⟨rfl, hb⟩
      have HB2 := Lib.hid (below_then HB.out hb)
      clear hb
      go_wp2_with fail
      go_ret2
      exact ⟨by rw [HV.out]; rfl, HB2.out⟩
  · have q : (checkV l != 0) = true := by rw [bne_iff_ne]; exact hc
    have HV := Lib.hid (of_bad hc)
    clear hc
    go_enter Tryd.func27, Tryd.ntmps27
    go_wp2_with fail
    refine (C.out _ HR.out).mono ?_
    rintro e w1 ⟨rfl, hb⟩
    have HB := Lib.hid hb
    clear hb
    go_wp2_with fail
    go_ret2
    exact ⟨by rw [HV.out]; rfl, HB.out⟩
theorem of_err {l : List Nd} (h : (ofV l).2.2 ≠ 0) : (ofV l).1 = false := by
  unfold ofV at h ⊢
  split
  · split
    · rfl
    · rename_i h1 h2; rw [if_pos h1, if_neg h2] at h; exact absurd rfl h
  · rfl
set_option maxRecDepth 100000 in
set_option maxHeartbeats 1000000 in
theorem kindsOf_any (v : Value) (l : List Nd) (w : World) (hf : KindFix w) (hR : ReadsN w v l) (hn : l.length ≤ 1000000) :
    Calls Tryd.prog 11 #[v] w fun e w' => e = .returned (.tuple #[.bool (ofV l).1, .int .i64 (ofV l).2.1, .int .i64 (ofV l).2.2]) ∧ Below w.heap.size w w' := by
  have C := Lib.hid (kindsTyped_any v l w hf hR hn)
  have HR := Lib.hid hR
  have F := Lib.hid hf
  clear hR hf
  by_cases h0 : (ofV l).2.2 = 0
  · obtain ⟨hc, he⟩ := of_ok h0
    have HV := of_typed hc he
    have hpos := (check_acc hc).2.1
    have hm2 : l.length - 1 < l.length := by omega
    obtain ⟨n, hkn, n1, n2⟩ := kind_nat hc hm2
    rw [kindAt_get hm2, hkn] at HV
    obtain ⟨m, hm⟩ : ∃ m, l.length - 1 = m := ⟨_, rfl⟩
    rw [hm] at HV
    rw [HV] at C ⊢
    have hm3 : (m : Int) < l.length := by omega
    have hn0 : (0 : Int) ≤ n := by omega
    have hn1 : (n : Int) < 20 := by omega
    have HK : Hid (∃ h : m < l.length, l[m].kind = n) := Lib.hid (by subst hm; exact ⟨hm2, hkn⟩)
    clear HV hc he h0 hkn
    go_enter Tryd.func11, Tryd.ntmps11
    go_wp2_with fail
    refine C.out.mono ?_
    rintro e w1 ⟨rfl, hb⟩
    have HB := Lib.hid hb
    obtain ⟨hml, hkn⟩ := HK.out
    obtain ⟨b, o, cap', rfl, _, c0, _⟩ := (HR.out.below hb).nd m hml
    rw [hkn] at c0
    have g := gives_cell (F.out.below hb) n n2
    clear hb hkn
    go_wp2_with fail
    go_ret3
    exact ⟨rfl, HB.out⟩
  · have HF := of_err h0
    obtain ⟨is, at_, e0, ho⟩ : ∃ is at_ e0, ofV l = (is, at_, e0) := ⟨_, _, _, rfl⟩
    rw [ho] at HF h0 C ⊢
    simp only at HF h0 C ⊢
    subst HF
    have q : (e0 != 0) = true := by rw [bne_iff_ne]; exact h0
    clear h0 ho
    go_enter Tryd.func11, Tryd.ntmps11
    go_wp2_with fail
    refine C.out.mono ?_
    rintro e w1 ⟨rfl, hb⟩
    have HB := Lib.hid hb
    clear hb
    go_wp2_with fail
    go_ret3
    exact ⟨rfl, HB.out⟩
theorem wants_yes {l : List Nd} {t : Bool} (h2 : (ofV l).1 = t) : wantV l t = (ofV l).2 := by unfold wantV; rw [if_neg (fun h3 => h3.2 h2)]
theorem wants_other {l : List Nd} {t : Bool} (h : (ofV l).2.2 = 0) (h2 : (ofV l).1 ≠ t) : wantV l t = ((ofV l).2.1, 42) := by unfold wantV; rw [if_pos ⟨h, h2⟩]
theorem wants_err {l : List Nd} {t : Bool} (h : (ofV l).2.2 ≠ 0) : wantV l t = (ofV l).2 := by unfold wantV; rw [if_neg (fun h3 => h h3.1)]
set_option maxRecDepth 100000 in
theorem kindsAsked_any (v : Value) (l : List Nd) (t : Bool) (w : World) (hf : KindFix w) (hR : ReadsN w v l) (hn : l.length ≤ 1000000) :
    Calls Tryd.prog 29 #[v, .bool t] w fun e w' => e = .returned (.tuple #[.int .i64 (wantV l t).1, .int .i64 (wantV l t).2]) ∧ Below w.heap.size w w' := by
  have O := Lib.hid (kindsOf_any v l w hf hR hn)
  obtain ⟨is, at_, e0, ho⟩ : ∃ is at_ e0, ofV l = (is, at_, e0) := ⟨_, _, _, rfl⟩
  have W1 := @wants_yes l t
  have W2 := @wants_other l t
  have W3 := @wants_err l t
  rw [ho] at O W1 W2 W3
  simp only at O W1 W2 W3
  clear hR ho hf
  cases q : (e0 == 0)
  · have HV := Lib.hid (W3 (by rw [beq_eq_false_iff_ne] at q; exact q))
    clear W1 W2 W3
    go_enter Tryd.func29, Tryd.ntmps29
    go_wp2_with fail
    refine O.out.mono ?_
    rintro e w1 ⟨rfl, hb⟩
    have HB := Lib.hid hb
    clear hb
    go_wp2_with fail
    go_ret2
    exact ⟨by rw [HV.out]; rfl, HB.out⟩
  · have h0 : e0 = 0 := by rw [beq_iff_eq] at q; exact q
    subst h0
    cases q2 : (is == t)
    · have HV := Lib.hid (W2 rfl (by simpa using q2))
      clear W1 W2 W3
      go_enter Tryd.func29, Tryd.ntmps29
      go_wp2_with fail
      refine O.out.mono ?_
      rintro e w1 ⟨rfl, hb⟩
      have HB := Lib.hid hb
      clear hb
      go_wp2_with fail
      go_ret2
      exact ⟨by rw [HV.out]; rfl, HB.out⟩
    · have HV := Lib.hid (W1 (by simpa using q2))
      clear W1 W2 W3
      go_enter Tryd.func29, Tryd.ntmps29
      go_wp2_with fail
      refine O.out.mono ?_
      rintro e w1 ⟨rfl, hb⟩
      have HB := Lib.hid hb
      clear hb
      go_wp2_with fail
      go_ret2
      exact ⟨by rw [HV.out]; rfl, HB.out⟩
theorem kindsNumber_any (v : Value) (l : List Nd) (w : World) (hf : KindFix w) (hR : ReadsN w v l) (hn : l.length ≤ 1000000) :
    Calls Tryd.prog 13 #[v] w fun e w' => e = .returned (.tuple #[.int .i64 (wantV l false).1, .int .i64 (wantV l false).2]) ∧ Below w.heap.size w w' := by
  have O := Lib.hid (kindsAsked_any v l false w hf hR hn)
  clear hf hR
  go_enter Tryd.func13, Tryd.ntmps13
  go_wp2_with fail
  refine O.out.mono ?_
  rintro e w1 ⟨rfl, hb⟩
  have HB := Lib.hid hb
  clear hb
  go_wp2_with fail
  go_ret2
  exact ⟨rfl, HB.out⟩
theorem kindsTruth_any (v : Value) (l : List Nd) (w : World) (hf : KindFix w) (hR : ReadsN w v l) (hn : l.length ≤ 1000000) :
    Calls Tryd.prog 14 #[v] w fun e w' => e = .returned (.tuple #[.int .i64 (wantV l true).1, .int .i64 (wantV l true).2]) ∧ Below w.heap.size w w' := by
  have O := Lib.hid (kindsAsked_any v l true w hf hR hn)
  clear hf hR
  go_enter Tryd.func14, Tryd.ntmps14
  go_wp2_with fail
  refine O.out.mono ?_
  rintro e w1 ⟨rfl, hb⟩
  have HB := Lib.hid hb
  clear hb
  go_wp2_with fail
  go_ret2
  exact ⟨rfl, HB.out⟩
/-! ### All -/
theorem info_bool : (Tryd.prog.info? 4).map (fun i => (i.zero, i.size, i.bytes)) = some (some (.bool false), 1, 1) := by kernel_rfl
def boolL (l : List Nd) : List Value := l.map fun x => .bool (givesB x.kind)
theorem boolL_next (l : List Nd) {i : Nat} (hi : i < l.length) : boolL (l.take (i + 1)) = boolL (l.take i) ++ [.bool (givesB l[i].kind)] := by
  unfold boolL; rw [List.take_succ_eq_append_getElem hi, List.map_append]; rfl
/-- What All returns. -/
def AllKinds (l : List Nd) (w : World) (e : Ending) (w' : World) : Prop :=
  ∃ v, e = .returned (.tuple #[v, .int .i64 (ofV l).2.2]) ∧ w'.ownsRow w.heap.size 4 1 v (allOfV l).1.length ((allOfV l).1.map Value.bool) ∧ Below w.heap.size w w'
theorem all_vals {l : List Nd} (h : (ofV l).2.2 = 0) : (allOfV l).1.length = l.length ∧ (allOfV l).1.map Value.bool = boolL l := by
  unfold allOfV
  rw [if_pos h]
  exact ⟨List.length_map .., by rw [List.map_map]; rfl⟩
theorem all_none {l : List Nd} (h : (ofV l).2.2 ≠ 0) : (allOfV l).1 = [] := by unfold allOfV; rw [if_neg h]
set_option maxRecDepth 100000 in
set_option maxHeartbeats 1000000 in
theorem kindsAll_any (v : Value) (l : List Nd) (w : World) (hf : KindFix w) (hR : ReadsN w v l) (hn : l.length ≤ 1000000) :
    Calls Tryd.prog 15 #[v] w (AllKinds l w) := by
  obtain ⟨i0, hi, hz0, hz1, hz2⟩ := info_parts info_bool
  have HI := Lib.hid (And.intro hi (And.intro hz0 (And.intro hz1 hz2)))
  have C := Lib.hid (kindsTyped_any v l w hf hR hn)
  obtain ⟨ad, cap, rfl⟩ := hR.shape
  have HR := Lib.hid hR
  have F := Lib.hid hf
  clear hR hf hi hz0 hz1 hz2
  by_cases h0 : (ofV l).2.2 = 0
  · obtain ⟨hc, he⟩ := of_ok h0
    obtain ⟨a1, a2⟩ := all_vals h0
    have HV : Hid (∀ vv W, W.ownsRow w.heap.size 4 1 vv l.length (boolL l) → Below w.heap.size w W → AllKinds l w (.returned (.tuple #[vv, .int .i64 0])) W) := Lib.hid fun vv W h1 h2 => ⟨vv, by rw [h0], by rw [a1, a2]; exact h1, h2⟩
    have HC := Lib.hid hc
    obtain ⟨at_, ha⟩ : ∃ at_, (ofV l).2.1 = at_ := ⟨_, rfl⟩
    rw [h0, ha] at C
    have h60 := (check_acc hc).2.2.1
    clear hc he a1 a2 h0 ha
    go_enter Tryd.func15, Tryd.ntmps15
    go_wp2_with fail
    refine C.out.mono ?_
    rintro e w1 ⟨rfl, hb⟩
    have HB := Lib.hid hb
    clear hb
    go_wp2_with fail
    go_loopg [6, 19] l.length (fun g s6 s19 wx => ∃ i : Nat, i + g = l.length ∧ s19 = .int .i64 i ∧ Hid (wx.ownsRow w.heap.size 4 1 s6 i (boolL (l.take i))) ∧ Hid (Below w.heap.size w wx))
    case atStart => exact ⟨0, by omega, rfl, Lib.hid (World.ownsRow_nil _ _ _ _), HB⟩
    case round =>
      obtain ⟨i, hig, rfl, HO, HB⟩ := hrel
      obtain ⟨adS, capS, rfl⟩ := own_shape HO.out
      cases gk with
      | zero =>
        obtain rfl : i = l.length := by omega
        have HO2 := HO.out
        rw [List.take_length] at HO2
        have HE := Lib.hid (HV.out _ _ HO2 HB.out)
        clear hig HO2
        go_wp2_with fail
        go_ret2
        exact HE.out
      | succ g =>
        have hlt : i < l.length := by omega
        obtain ⟨n, hkn, n1, n2⟩ := kind_nat HC.out hlt
        obtain ⟨bb, o, cap', hv, hbw, c0, c1, c2, c3, c4⟩ := (HR.out.below HB.out).nd i hlt
        cases hv
        rw [hkn] at c0
        have t := gives_cell (F.out.below HB.out) n n2
        have tl := World.block_lt_of_cell? _ _ t
        simp only at tl
        have t1 : ∀ ob : Obj, (wr.alloc ob).cell? ⟨0, n, none⟩ = some (.bool (givesB n)) := fun ob => (((Below.refl wr.heap.size wr).alloc (Nat.le_refl _) ob).cell (p := ⟨_, _, none⟩) tl).trans t
        have HN : Hid (boolL (l.take (i + 1)) = boolL (l.take i) ++ [.bool (givesB n)]) := Lib.hid (by rw [boolL_next l hlt, hkn])
        have hn0 : (0 : Int) ≤ n := by omega
        have hn1 : (n : Int) < 20 := by omega
        have HS3 : Hid ((wr.alloc (Obj.cells #[.int .u8 n, .int .i64 l[i].n, .int .i64 l[i].a, .int .i64 l[i].b, .int .i64 l[i].at_] 29)).ownsRow w.heap.size 4 1 (.slice adS i capS) i (boolL (l.take i))) := Lib.hid (HO.out.alloc _)
        have HB3 : Hid (Below w.heap.size w (wr.alloc (Obj.cells #[.int .u8 n, .int .i64 l[i].n, .int .i64 l[i].a, .int .i64 l[i].b, .int .i64 l[i].at_] 29))) := Lib.hid (HB.out.alloc HB.out.size _)
        clear hkn
        go_wp2_with (at_builtin; refine wpList_append_own _ rfl _ _ 34 rfl w.heap.size 4 i0 (.bool false) 1 1 Tryd.underlying34 HI.out.1 HI.out.2.1 HI.out.2.2.1 HI.out.2.2.2 rfl (by decide) _ _ _ rfl (HS3.out.alloc _) ⟨wr.heap.size + 1, 0, none⟩ 1 1 [.bool (givesB n)] rfl rfl ?c1 ?c2 ?c3 ?c4 ?c5 ?_)
        case c1 =>
          intro q u hq
          match q with
          | 0 => simp at hq; subst hq; simp [go_sem, Addr.add]
          | q + 1 => simp at hq
        case c2 => intro u hu; simp at hu; subst hu; rfl
        case c3 => unfold maxLen; omega
        case c4 => omega
        case c5 => have := HB.out.size; simp at this ⊢; omega
        intro v1 w4 hown hgrow _
        have HB4 := Lib.hid (grown_below HS3.out (HB3.out.alloc HB3.out.size _) hgrow)
        have HO4 : Hid (w4.ownsRow w.heap.size 4 1 v1 (i + 1) (boolL (l.take (i + 1)))) := Lib.hid (by
          rw [HN.out]
          exact hown)
        clear hown hgrow
        go_wp2_with fail
        go_roundg g
        case measure => omega
        case rel => exact ⟨i + 1, by omega, by go_num, HO4, HB4⟩
  · have HA := all_none h0
    have HV : Hid (∀ W, Below w.heap.size w W → AllKinds l w (.returned (.tuple #[.slice none 0 0, .int .i64 (ofV l).2.2])) W) := Lib.hid fun W h2 => ⟨_, rfl, by rw [HA]; exact World.ownsRow_nil _ _ _ _, h2⟩
    obtain ⟨at_, ha⟩ : ∃ at_, (ofV l).2.1 = at_ := ⟨_, rfl⟩
    obtain ⟨e0, he⟩ : ∃ e0, (ofV l).2.2 = e0 := ⟨_, rfl⟩
    rw [ha] at C
    rw [he] at C h0 HV
    have q : (e0 != 0) = true := by rw [bne_iff_ne]; exact h0
    clear HA h0 ha he
    go_enter Tryd.func15, Tryd.ntmps15
    go_wp2_with fail
    refine C.out.mono ?_
    rintro e w1 ⟨rfl, hb⟩
    have HB := Lib.hid hb
    clear hb
    go_wp2_with fail
    go_ret2
    exact HV.out _ HB.out
end Go.Proofs.YtgmfelikmjclbaaDoor.Nodes

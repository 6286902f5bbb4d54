/-
  Contracts of the reference of layer 7: Of, All, Same.
-/
import Derived.Test.YtflmpjejlkhpcaaDoorEvalCalls
import Derived.Test.YtflmpjejlkhpcaaDoorRefVal
import Derived.Test.YtflmpjejlkhpcaaDoorRefKind
import Derived.Outline
namespace Go.Proofs.YtflmpjejlkhpcaaDoor.Nodes
open Go.ChangeShapes Go.WideShapes Go.ChangeAt Go.RowKit

set_option maxRecDepth 100000 in
set_option maxHeartbeats 2000000 in
theorem refAllVals_any (r : Rec) (hr : RecOk r) (v : Value) (l : List Nd) (hw : WideN l) (w : World) (hR : ReadsN w v l) (hn : l.length ≤ 1000000) :
    Calls Tryd.prog 20 #[v, recVal r] w (AllVals r l w) := by
  obtain ⟨i0, hi, hz0, hz1, hz2⟩ := info_parts info_i64
  have HI := Lib.hid (And.intro hi (And.intro hz0 (And.intro hz1 hz2)))
  obtain ⟨W0, hW0⟩ : ∃ W0, w.alloc (recBox r) = W0 := ⟨_, rfl⟩
  have hb0 : Below w.heap.size w W0 := by rw [← hW0]; exact (Below.refl _ w).alloc (Nat.le_refl _) _
  have hsz : W0.heap.size = w.heap.size + 1 := by rw [← hW0]; simp
  have C : Hid (Calls Tryd.prog 23 #[v] (w.alloc (recBox r)) fun e w' => e = .returned (.tuple #[.bool (ofV l).1, .int .i64 (ofV l).2.1, .int .i64 (ofV l).2.2]) ∧ Below W0.heap.size W0 w') := Lib.hid (by rw [hW0]; exact refOf_any v l W0 (hR.below hb0) hn)
  have HR := Lib.hid (hR.below hb0)
  have HC0 : Hid (RecAt W0 w.heap.size r) := Lib.hid (by rw [← hW0]; exact rec_at w r)
  have FIN : Hid (∀ wx, Below W0.heap.size W0 wx → Below w.heap.size w wx) := Lib.hid fun wx h => by
    rw [← hW0] at h
    exact below_box (Below.refl _ w) h
  have HSZ := Lib.hid hsz
  obtain ⟨ad, cap, rfl⟩ := hR.shape
  clear hR hi hz0 hz1 hz2 hW0 hb0 hsz
  obtain ⟨is, hs⟩ : ∃ is, (ofV l).1 = is := ⟨_, rfl⟩
  obtain ⟨at_, ha⟩ : ∃ at_, (ofV l).2.1 = at_ := ⟨_, rfl⟩
  rw [hs, ha] at C
  unfold recBox at C
  by_cases h0 : (ofV l).2.2 = 0
  · obtain ⟨hc, he⟩ := of_ok h0
    have hall : allE r l = valsV r l := by unfold allE; rw [if_pos h0]
    have HV : Hid (∀ vv W, W.ownsRow W0.heap.size 2 1 vv l.length (intL (valsV r l)) → Below W0.heap.size W0 W → AllVals r l w (.returned (.tuple #[vv, .int .i64 0])) W) := Lib.hid fun vv W h1 h2 => ⟨vv, by rw [h0], by rw [hall, vals_len]; exact own_mono h1 (by have := HSZ.out; omega), FIN.out _ h2⟩
    have VA := Lib.hid (fun (i : Nat) (W : World) (h : Below W0.heap.size W0 W) (hi : i < l.length) => refValue_any r hr l hc hw (.slice ad l.length cap) i W (HR.out.below h) hi)
    have HNT := Lib.hid (fun (i : Nat) (hi : i < l.length) => val_ok (r := r) hc hi)
    have HC := Lib.hid hc
    rw [h0] at C
    have h60 := (check_acc hc).2.2.1
    clear hc he h0 hall hs ha
    unfold recVal at VA ⊢
    go_enter Tryd.func20, Tryd.ntmps20
    go_wp2_with fail
    refine C.out.mono ?_
    rintro e w1 ⟨rfl, hb⟩
    have HB := Lib.hid hb
    clear hb
    go_wp2_with fail
    go_loopg [9, 10] l.length (fun g s9 s10 wx => ∃ i : Nat, i + g = l.length ∧ s10 = .int .i64 i ∧ Hid (wx.ownsRow W0.heap.size 2 1 s9 i (intL (valsV r (l.take i)))) ∧ Hid (Below W0.heap.size W0 wx))
    case atStart => exact ⟨0, by omega, rfl, Lib.hid (World.ownsRow_nil _ _ _ _), HB⟩
    case round =>
      obtain ⟨i, hig, rfl, HO, HB⟩ := hrel
      obtain ⟨adS, capS, hO⟩ := own_shape HO.out
      subst hO
      cases gk with
      | zero =>
        obtain rfl : i = l.length := by omega
        have HO2 := HO.out
        rw [List.take_length] at HO2
        have HE := Lib.hid (HV.out _ _ HO2 HB.out)
        clear hig HO2
        go_wp2_with fail
        go_ret2
        exact HE.out
      | succ g =>
        have hlt : i < l.length := by omega
        have hfr := front_of HC.out hlt
        have hvl := vals_take_len r (l := l) (i := i) (by omega)
        have hnx := vals_next r hlt
        have hv2 : nth (valsV r l) (i : Int) = valV r (valsV r (l.take i)) l[i] := by
          have hp := vals_take r l (i + 1)
          rw [hnx] at hp
          rw [nth_pre hp (by rw [List.length_append, hvl]; simp)]
          unfold nth
          rw [Int.toNat_natCast, List.getElem?_append_right (by omega), hvl, Nat.sub_self]
          rfl
        rw [← hv2] at hnx
        have VA1 := Lib.hid (fun W h => VA.out i W h hlt)
        obtain ⟨VS, hVS⟩ : ∃ VS, valsV r (l.take i) = VS := ⟨_, rfl⟩
        rw [hVS] at HO hvl hnx
        obtain ⟨y, hy⟩ : ∃ y, nth (valsV r l) (i : Int) = y := ⟨_, rfl⟩
        rw [hy] at VA1 hnx
        have HN := Lib.hid hnx
        obtain ⟨t0, t1, t2⟩ := HC0.out.below (by have := HSZ.out; omega) HB.out
        clear hvl hnx hVS hy hfr hv2
        go_wp2_with fail
        refine (VA1.out _ HB.out).mono ?_
        rintro e w3 ⟨rfl, hb⟩
        have HB3 : Hid (Below W0.heap.size W0 w3) := Lib.hid (below_then HB.out hb)
        have HO3 := Lib.hid (own_below HO.out hb)
        clear hb t0 t1 t2
        go_wp2_with (at_builtin; refine wpList_append_own _ rfl _ _ 27 rfl W0.heap.size 2 i0 (.int .i64 0) 1 8 Tryd.underlying27 HI.out.1 HI.out.2.1 HI.out.2.2.1 HI.out.2.2.2 rfl (by decide) _ _ _ rfl (HO3.out.alloc _) ⟨w3.heap.size, 0, none⟩ 1 1 [.int .i64 y] rfl rfl ?c1 ?c2 ?c3 ?c4 ?c5 ?_)
        case c1 =>
          intro q u hq
          match q with
          | 0 => simp at hq; subst hq; simp [go_sem, Addr.add]
          | q + 1 => simp at hq
        case c2 => intro u hu; simp at hu; subst hu; rfl
        case c3 => unfold maxLen; omega
        case c4 => omega
        case c5 => have := HB3.out.size; simp at this ⊢; omega
        intro v1 w4 hown hgrow _
        have HB4 := Lib.hid (grown_below HO3.out (HB3.out.alloc HB3.out.size _) hgrow)
        have HO4 : Hid (w4.ownsRow W0.heap.size 2 1 v1 (i + 1) (intL (valsV r (l.take (i + 1))))) := Lib.hid (by
          rw [HN.out, intL_add]
          exact hown)
        clear hown hgrow
        go_wp2_with fail
        go_roundg g
        case measure => omega
        case rel => exact ⟨i + 1, by omega, by go_num, HO4, HB4⟩
  · have hall : allE r l = [] := by unfold allE; rw [if_neg h0]
    have HV : Hid (∀ W, Below W0.heap.size W0 W → AllVals r l w (.returned (.tuple #[.slice none 0 0, .int .i64 (ofV l).2.2])) W) := Lib.hid fun W h2 => ⟨_, rfl, by rw [hall]; exact World.ownsRow_nil _ _ _ _, FIN.out _ h2⟩
    obtain ⟨e0, he⟩ : ∃ e0, (ofV l).2.2 = e0 := ⟨_, rfl⟩
    rw [he] at C h0 HV
    have q : (e0 != 0) = true := by rw [bne_iff_ne]; exact h0
    clear hall h0 ha he hs
    unfold recVal
    go_enter Tryd.func20, Tryd.ntmps20
    go_wp2_with fail
    refine C.out.mono ?_
    rintro e w1 ⟨rfl, hb⟩
    have HB := Lib.hid hb
    clear hb
    go_wp2_with fail
    go_ret2
    exact HV.out _ HB.out
set_option maxRecDepth 100000 in
set_option maxHeartbeats 1000000 in
theorem refOfVal_any (r : Rec) (hr : RecOk r) (v : Value) (l : List Nd) (hw : WideN l) (w : World) (hR : ReadsN w v l) (hn : l.length ≤ 1000000) :
    Calls Tryd.prog 19 #[v, recVal r] w fun e w' => e = .returned (.tuple #[.int .i64 (ofE r l), .int .i64 (ofV l).2.2]) ∧ Below w.heap.size w w' := by
  obtain ⟨W0, hW0⟩ : ∃ W0, w.alloc (recBox r) = W0 := ⟨_, rfl⟩
  have hb0 : Below w.heap.size w W0 := by rw [← hW0]; exact (Below.refl _ w).alloc (Nat.le_refl _) _
  have hsz : W0.heap.size = w.heap.size + 1 := by rw [← hW0]; simp
  have C : Hid (Calls Tryd.prog 23 #[v] (w.alloc (recBox r)) fun e w' => e = .returned (.tuple #[.bool (ofV l).1, .int .i64 (ofV l).2.1, .int .i64 (ofV l).2.2]) ∧ Below W0.heap.size W0 w') := Lib.hid (by rw [hW0]; exact refOf_any v l W0 (hR.below hb0) hn)
  have HR := Lib.hid (hR.below hb0)
  have HC0 : Hid (RecAt W0 w.heap.size r) := Lib.hid (by rw [← hW0]; exact rec_at w r)
  have FIN : Hid (∀ wx, Below W0.heap.size W0 wx → Below w.heap.size w wx) := Lib.hid fun wx h => by
    rw [← hW0] at h
    exact below_box (Below.refl _ w) h
  have HSZ := Lib.hid hsz
  obtain ⟨ad, cap, rfl⟩ := hR.shape
  clear hR hW0 hb0 hsz
  obtain ⟨is, hs⟩ : ∃ is, (ofV l).1 = is := ⟨_, rfl⟩
  obtain ⟨at_, ha⟩ : ∃ at_, (ofV l).2.1 = at_ := ⟨_, rfl⟩
  rw [hs, ha] at C
  unfold recBox at C
  by_cases h0 : (ofV l).2.2 = 0
  · obtain ⟨hc, he⟩ := of_ok h0
    have hpos := of_pos h0
    have hV : ofE r l = nth (valsV r l) ((l.length - 1 : Nat) : Int) := by unfold ofE; rw [if_pos h0, eval_get hpos]
    obtain ⟨m, hm⟩ : ∃ m, l.length - 1 = m := ⟨_, rfl⟩
    rw [hm] at hV
    have hml : m < l.length := by omega
    have hm1 : (l.length : Int) - 1 = m := by omega
    have VA := Lib.hid (fun (W : World) (h : Below W0.heap.size W0 W) => refValue_any r hr l hc hw (.slice ad l.length cap) m W (HR.out.below h) hml)
    rw [← hV] at VA
    rw [h0] at C
    rw [h0]
    clear hc he h0 hs ha hV hm hpos
    unfold recVal at VA ⊢
    go_enter Tryd.func19, Tryd.ntmps19
    go_wp2_with fail
    refine C.out.mono ?_
    rintro e w1 ⟨rfl, hb⟩
    have HB := Lib.hid hb
    obtain ⟨t0, t1, t2⟩ := HC0.out.below (by have := HSZ.out; omega) HB.out
    clear hb
    go_wp2_with fail
    refine (VA.out _ HB.out).mono ?_
    rintro e w2 ⟨rfl, hb⟩
    have HB2 := Lib.hid (below_then HB.out hb)
    clear hb
    go_wp2_with fail
    go_ret2
    exact ⟨rfl, FIN.out _ HB2.out⟩
  · have hV : ofE r l = 0 := by unfold ofE; rw [if_neg h0]
    rw [hV]
    obtain ⟨e0, he⟩ : ∃ e0, (ofV l).2.2 = e0 := ⟨_, rfl⟩
    rw [he] at C h0 ⊢
    have q : (e0 != 0) = true := by rw [bne_iff_ne]; exact h0
    clear h0 ha he hs hV
    unfold recVal
    go_enter Tryd.func19, Tryd.ntmps19
    go_wp2_with fail
    refine C.out.mono ?_
    rintro e w1 ⟨rfl, hb⟩
    have HB := Lib.hid hb
    clear hb
    go_wp2_with fail
    go_ret2
    exact ⟨rfl, FIN.out _ HB.out⟩
set_option maxRecDepth 100000 in
set_option maxHeartbeats 1000000 in
theorem sameVals_any (va vb : Value) (base base2 : Nat) (l : List Int) (w : World) (ha : w.ownsRow base 2 1 va l.length (intL l)) (hb : w.ownsRow base2 2 1 vb l.length (intL l)) (hn : l.length ≤ 1000000) :
    Calls Tryd.prog 16 #[va, vb] w fun e w' => e = .returned (.bool true) ∧ Draws w w' := by
  obtain ⟨ad, cap, rfl⟩ := own_shape ha
  obtain ⟨ad2, cap2, rfl⟩ := own_shape hb
  have HA := Lib.hid ha
  have HB := Lib.hid hb
  have q : ((l.length : Int) != l.length) = false := by simp
  clear ha hb
  go_enter Tryd.func16, Tryd.ntmps16
  go_wp2_with fail
  go_loopg [5] l.length (fun g s5 wx => ∃ i : Nat, i + g = l.length ∧ s5 = .int .i64 i ∧ Hid (Draws w wx))
  case atStart => exact ⟨0, by omega, rfl, Lib.hid (Draws.refl _)⟩
  case round =>
    obtain ⟨i, hig, rfl, HD⟩ := hrel
    cases gk with
    | zero =>
      obtain rfl : i = l.length := by omega
      clear hig
      go_wp2_with fail
      go_ret
      exact ⟨rfl, HD.out⟩
    | succ g =>
      have hlt : i < l.length := by omega
      obtain ⟨b1, cp1, e1, _, c1⟩ := int_cell HA.out (HD.out.below w.heap.size) rfl hlt
      obtain ⟨b2, cp2, e2, _, c2⟩ := int_cell HB.out (HD.out.below w.heap.size) rfl hlt
      cases e1
      cases e2
      obtain ⟨x, hx⟩ : ∃ x, nth l (i : Int) = x := ⟨_, rfl⟩
      rw [hx] at c1 c2
      have hq : (x != x) = false := by simp
      clear hx
      go_wp2_with fail
      go_quiet (fail)
      go_wp2_with fail
      go_roundg g
      case measure => omega
      case rel => exact ⟨i + 1, by omega, by go_num, Lib.hid (HD.out.drewN _)⟩
end Go.Proofs.YtflmpjejlkhpcaaDoor.Nodes

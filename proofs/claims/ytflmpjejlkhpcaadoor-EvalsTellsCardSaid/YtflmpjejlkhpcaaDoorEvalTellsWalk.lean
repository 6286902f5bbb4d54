/-
  Walk of the statement EvalsTells: package evals returns what the reference does.
-/
import Derived.Test.YtflmpjejlkhpcaaDoorEvalHelp
import Derived.Test.YtflmpjejlkhpcaaDoorRefVals
import Derived.Test.YtflmpjejlkhpcaaDoorRefEqual
import Derived.Test.YtflmpjejlkhpcaaDoorNodeCells
import Derived.Test.YtflmpjejlkhpcaaDoorRefKindAll
import Derived.Outline
namespace Go.Proofs.YtflmpjejlkhpcaaDoor.Nodes
open Go.ChangeShapes Go.WideShapes Go.ChangeAt Go.RowKit

/-- The cells of the list, behind an empty block. -/
theorem cells_in {w : World} {ad : Option Addr} {cap : Nat} {l : List Nd} (h : ReadsN w (.slice ad l.length cap) l) (hpos : 0 < l.length) : ∃ a : Addr, ad = some a ∧ ∀ (W : World), Below w.heap.size w W → ∀ (j : Nat) (u : Value), (rowN l)[j]? = some u → (W.alloc (Obj.cells #[] 31)).cell? (a.add j) = some u := by
  rcases h with ⟨rfl, _⟩ | ⟨b, o, more, e, hb, hnds⟩
  · simp at hpos
  · cases e
    exact ⟨_, rfl, fun W hW => nds_cells (fun i x hx => (hnds i x hx).below hb (hW.alloc hW.size _))⟩
set_option maxRecDepth 100000 in
set_option maxHeartbeats 2000000 in
theorem etells_walk (r : Rec) (hr : RecOk r) (v : Value) (l : List Nd) (w : World) (hf : KindFix w) (hR : ReadsN w v l) (hw : WideN l) (hn : l.length ≤ 9223372036854775807) :
    Calls Tryd.prog 4 #[v, recVal r] w fun e w' => e = .returned (.bool true) ∧ Below w.heap.size w w' := by
  obtain ⟨W0, hW0⟩ : ∃ W0, w.alloc (recBox r) = W0 := ⟨_, rfl⟩
  have hb0 : Below w.heap.size w W0 := by rw [← hW0]; exact (Below.refl _ w).alloc (Nat.le_refl _) _
  have hsz : W0.heap.size = w.heap.size + 1 := by rw [← hW0]; simp
  have GG : Hid (Calls Tryd.prog 18 #[v] (w.alloc (recBox r)) fun e w' => e = .returned (.bool (decide (70 < l.length))) ∧ Below W0.heap.size W0 w') := Lib.hid (by rw [hW0]; exact (great_any v l W0 (hR.below hb0)).mono (by rintro e w' ⟨he, rfl⟩; exact ⟨he, Below.refl _ _⟩))
  have HR := Lib.hid (hR.below hb0)
  have F := Lib.hid (hf.below hb0)
  have HC0 : Hid (RecAt W0 w.heap.size r) := Lib.hid (by rw [← hW0]; exact rec_at w r)
  have FIN : Hid (∀ wx, Below W0.heap.size W0 wx → Below w.heap.size w wx) := Lib.hid fun wx h => by
    rw [← hW0] at h
    exact below_box (Below.refl _ w) h
  have HSZ := Lib.hid hsz
  have AL := Lib.hid (fun (W : World) (h : Below W0.heap.size W0 W) => alive7_any W (F.out.below h))
  have EA := Lib.hid (fun (W : World) (h : Below W0.heap.size W0 W) (h70 : l.length ≤ 70) => evalsAll_any r v l W (F.out.below h) (HR.out.below h) (by omega))
  have EO := Lib.hid (fun (W : World) (h : Below W0.heap.size W0 W) (h70 : l.length ≤ 70) => evalsOf_any r v l W (F.out.below h) (HR.out.below h) (by omega))
  have RK := Lib.hid (fun (W : World) (h : Below W0.heap.size W0 W) (h70 : l.length ≤ 70) => refAllKinds_any v l W (HR.out.below h) (by omega))
  have RO := Lib.hid (fun (W : World) (h : Below W0.heap.size W0 W) (h70 : l.length ≤ 70) => refOf_any v l W (HR.out.below h) (by omega))
  unfold AllKinds at RK
  unfold AllVals at EA
  obtain ⟨ad, cap, rfl⟩ := hR.shape
  clear hb0 hsz hW0 hf hR
  unfold recBox at GG
  unfold recVal at EA EO ⊢
  clear EA EO RK RO AL
  cases hg : decide (70 < l.length)
  · have h70 : l.length ≤ 70 := by rw [decide_eq_false_iff_not] at hg; omega
    rw [hg] at GG
    clear hg
    obtain ⟨i0, hi, hz0, hz1, hz2⟩ := info_parts info_nd
    have HI := Lib.hid (And.intro hi (And.intro hz0 (And.intro hz1 hz2)))
    have EO := Lib.hid (fun vo (W : World) (h : Below W0.heap.size W0 W) (hr2 : ReadsN W vo l) => evalsOf_any r vo l W (F.out.below h) hr2 (by omega))
    have RO := Lib.hid (fun (W : World) (h : Below W0.heap.size W0 W) => refOfVal_any r hr (.slice ad l.length cap) l hw W (HR.out.below h) (by omega))
    have EA := Lib.hid (fun vo (W : World) (h : Below W0.heap.size W0 W) (hr2 : ReadsN W vo l) => evalsAll_any r vo l W (F.out.below h) hr2 (by omega))
    have RA := Lib.hid (fun (W : World) (h : Below W0.heap.size W0 W) => refAllVals_any r hr (.slice ad l.length cap) l hw W (HR.out.below h) (by omega))
    have EU := Lib.hid (fun vo (W : World) (h : Below W0.heap.size W0 W) (hr2 : ReadsN W vo l) => evalsUses_any vo l W (F.out.below h) hr2 (by omega))
    have RU := Lib.hid (fun (W : World) (h : Below W0.heap.size W0 W) => refUses_any (.slice ad l.length cap) l W (HR.out.below h) (by omega))
    have EQ := Lib.hid (fun vo (W : World) (h : Below W0.heap.size W0 W) (hr2 : ReadsN W vo l) => refEqual_any vo (.slice ad l.length cap) l l W hr2 (HR.out.below h) (by omega))
    unfold AllVals at EA RA
    unfold UsesIs at EU RU
    unfold recVal at EO RO EA RA
    obtain ⟨e0, he⟩ : ∃ e0, (ofV l).2.2 = e0 := ⟨_, rfl⟩
    obtain ⟨x0, hx0⟩ : ∃ e0, ofE r l = e0 := ⟨_, rfl⟩
    obtain ⟨K1, hK1⟩ : ∃ e0, useE 2 l = e0 := ⟨_, rfl⟩
    obtain ⟨K2, hK2⟩ : ∃ e0, useE 3 l = e0 := ⟨_, rfl⟩
    obtain ⟨K3, hK3⟩ : ∃ e0, useE 4 l = e0 := ⟨_, rfl⟩
    obtain ⟨al, hal⟩ : ∃ al, allE r l = al := ⟨_, rfl⟩
    have hall : al.length ≤ 1000000 := by
      rw [← hal]
      unfold allE
      split
      · rw [vals_len]; omega
      · exact Nat.zero_le _
    rw [he, hx0] at EO RO
    rw [he, hal] at EA RA
    rw [he, hK1, hK2, hK3] at EU RU
    have q1 : (K1 == K1) = true := by simp
    have q2 : (K2 == K2) = true := by simp
    have q3 : (K3 == K3) = true := by simp
    have q4 : (e0 == e0) = true := by simp
    have q5 : (x0 == x0) = true := by simp
    clear he hx0 hK1 hK2 hK3 hal hi hz0 hz1 hz2 hr hw
    by_cases hpos : 0 < l.length
    · obtain ⟨a, rfl, hnd⟩ := cells_in HR.out hpos
      have HND := Lib.hid hnd
      clear hnd
      go_enter Tryd.func4, Tryd.ntmps4
      go_wp2_with fail
      refine (GG.out).mono ?_
      rintro e w1 ⟨rfl, hb⟩
      have HB1 := Lib.hid hb
      clear hb
      have HN1 := Lib.hid (HND.out _ HB1.out)
      go_wp2_with (at_builtin; refine wpList_append_own _ rfl _ _ 32 rfl w1.heap.size 31 i0 (.agg #[.int .u8 0, .int .i64 0, .int .i64 0, .int .i64 0, .int .i64 0]) 5 40 Tryd.underlying32 HI.out.1 HI.out.2.1 HI.out.2.2.1 HI.out.2.2.2 rfl (by decide) _ _ _ rfl (World.ownsRow_made w1 #[] 0 (Nat.le_refl _) (Nat.zero_le _) rfl) a l.length cap (rowN l) rfl (rowN_len l) HN1.out (rowN_one l) ?c3 ?c4 ?c5 ?_)
      case c3 => unfold maxLen; omega
      case c4 => omega
      case c5 => simp
      intro v1 w5 hown hgrow _
      have hb5 : Below w1.heap.size w1 w5 := ((Below.refl _ w1).alloc (Nat.le_refl _) _).grown hgrow (by simp) (fun k hk => by simp [Value.ownBlock] at hk; omega)
      have HB2 := Lib.hid (below_then HB1.out hb5)
      have HO0 : Hid (w5.ownsRow w1.heap.size 31 5 v1 l.length (rowN l)) := Lib.hid (by simpa using hown)
      obtain ⟨ad1, cap1, hv1⟩ := own_shape HO0.out
      subst hv1
      have HO2 : Hid (ReadsN w5 (.slice ad1 l.length cap1) l) := Lib.hid (own_readsN HO0.out)
      clear hown hgrow hb5
      obtain ⟨t0, t1, t2⟩ := HC0.out.below (by have := HSZ.out; omega) HB2.out
      go_wp2_with fail
      refine (EO.out _ _ HB2.out HO2.out).mono ?_
      rintro e w3 ⟨rfl, hb⟩
      have HB3 := Lib.hid (below_then HB2.out hb)
      have HO3 := Lib.hid (HO2.out.below hb)
      clear hb t0 t1 t2
      obtain ⟨t0, t1, t2⟩ := HC0.out.below (by have := HSZ.out; omega) HB3.out
      go_wp2_with fail
      refine (RO.out _ HB3.out).mono ?_
      rintro e w4 ⟨rfl, hb⟩
      have HB4 := Lib.hid (below_then HB3.out hb)
      have HO4 := Lib.hid (HO3.out.below hb)
      clear hb t0 t1 t2
      obtain ⟨t0, t1, t2⟩ := HC0.out.below (by have := HSZ.out; omega) HB4.out
      go_wp2_with fail
      refine (EA.out _ _ HB4.out HO4.out).mono ?_
      rintro e w5 ⟨va, rfl, ho, hb⟩
      have HB5 := Lib.hid (below_then HB4.out hb)
      have HO5 := Lib.hid (HO4.out.below hb)
      have QA5 := Lib.hid ho
      obtain ⟨ada, capa, hva⟩ := own_shape ho
      subst hva
      clear hb ho t0 t1 t2
      obtain ⟨t0, t1, t2⟩ := HC0.out.below (by have := HSZ.out; omega) HB5.out
      go_wp2_with fail
      refine (RA.out _ HB5.out).mono ?_
      rintro e w6 ⟨vb, rfl, ho, hb⟩
      have HB6 := Lib.hid (below_then HB5.out hb)
      have HO6 := Lib.hid (HO5.out.below hb)
      have QA6 := Lib.hid (own_below QA5.out hb)
      have QB6 := Lib.hid ho
      obtain ⟨adb, capb, hvb⟩ := own_shape ho
      subst hvb
      clear hb ho t0 t1 t2
      go_wp2_with fail
      refine (EU.out _ _ HB6.out HO6.out).mono ?_
      rintro e w7 ⟨rfl, hb⟩
      have HB7 := Lib.hid (below_then HB6.out hb)
      have HO7 := Lib.hid (HO6.out.below hb)
      have QA7 := Lib.hid (own_below QA6.out hb)
      have QB7 := Lib.hid (own_below QB6.out hb)
      clear hb
      go_wp2_with fail
      refine (RU.out _ HB7.out).mono ?_
      rintro e w8 ⟨rfl, hb⟩
      have HB8 := Lib.hid (below_then HB7.out hb)
      have HO8 := Lib.hid (HO7.out.below hb)
      have QA8 := Lib.hid (own_below QA7.out hb)
      have QB8 := Lib.hid (own_below QB7.out hb)
      clear hb
      go_wp2_with fail
      refine (sameVals_any _ _ _ _ al _ QA8.out QB8.out hall).mono ?_
      rintro e w9 ⟨rfl, hd⟩
      have HB9 := Lib.hid (HB8.out.trans (hd.below _))
      have HO9 := Lib.hid (HO8.out.below (hd.below _))
      clear hd
      go_wp2_with fail
      refine (EQ.out _ _ HB9.out HO9.out).mono ?_
      rintro e w10 ⟨rfl, hd⟩
      rw [equal_refl]
      have HB10 := Lib.hid (HB9.out.trans (hd.below _))
      clear hd
      go_wp2_with fail
      go_ret
      exact ⟨rfl, FIN.out _ HB10.out⟩
    · obtain rfl : l = [] := List.length_eq_zero_iff.1 (by omega)
      cases ad with
      | some a0 =>
        go_enter Tryd.func4, Tryd.ntmps4
        go_wp2_with fail
        refine (GG.out).mono ?_
        rintro e w1 ⟨rfl, hb⟩
        have HB1 := Lib.hid hb
        clear hb
        go_wp2_with (at_builtin; refine wpList_append_own _ rfl _ _ 32 rfl w1.heap.size 31 i0 (.agg #[.int .u8 0, .int .i64 0, .int .i64 0, .int .i64 0, .int .i64 0]) 5 40 Tryd.underlying32 HI.out.1 HI.out.2.1 HI.out.2.2.1 HI.out.2.2.2 rfl (by decide) _ _ _ rfl (World.ownsRow_made w1 #[] 0 (Nat.le_refl _) (Nat.zero_le _) rfl) a0 0 cap [] rfl rfl (fun j u hu => by simp at hu) (fun u hu => by cases hu) ?c3 ?c4 ?c5 ?_)
        case c3 => unfold maxLen; omega
        case c4 => omega
        case c5 => simp
        intro v1 w5 hown hgrow _
        have hb5 : Below w1.heap.size w1 w5 := ((Below.refl _ w1).alloc (Nat.le_refl _) _).grown hgrow (by simp) (fun k hk => by simp [Value.ownBlock] at hk; omega)
        have HB2 := Lib.hid (below_then HB1.out hb5)
        have HO0 : Hid (w5.ownsRow w1.heap.size 31 5 v1 0 []) := Lib.hid (by simpa using hown)
        obtain ⟨ad1, cap1, hv1⟩ := own_shape HO0.out
        subst hv1
        have HO2 : Hid (ReadsN w5 (.slice ad1 0 cap1) []) := Lib.hid (own_readsN (l := []) HO0.out)
        clear hown hgrow hb5
        obtain ⟨t0, t1, t2⟩ := HC0.out.below (by have := HSZ.out; omega) HB2.out
        go_wp2_with fail
        refine (EO.out _ _ HB2.out HO2.out).mono ?_
        rintro e w3 ⟨rfl, hb⟩
        have HB3 := Lib.hid (below_then HB2.out hb)
        have HO3 := Lib.hid (HO2.out.below hb)
        clear hb t0 t1 t2
        obtain ⟨t0, t1, t2⟩ := HC0.out.below (by have := HSZ.out; omega) HB3.out
        go_wp2_with fail
        refine (RO.out _ HB3.out).mono ?_
        rintro e w4 ⟨rfl, hb⟩
        have HB4 := Lib.hid (below_then HB3.out hb)
        have HO4 := Lib.hid (HO3.out.below hb)
        clear hb t0 t1 t2
        obtain ⟨t0, t1, t2⟩ := HC0.out.below (by have := HSZ.out; omega) HB4.out
        go_wp2_with fail
        refine (EA.out _ _ HB4.out HO4.out).mono ?_
        rintro e w5 ⟨va, rfl, ho, hb⟩
        have HB5 := Lib.hid (below_then HB4.out hb)
        have HO5 := Lib.hid (HO4.out.below hb)
        have QA5 := Lib.hid ho
        obtain ⟨ada, capa, hva⟩ := own_shape ho
        subst hva
        clear hb ho t0 t1 t2
        obtain ⟨t0, t1, t2⟩ := HC0.out.below (by have := HSZ.out; omega) HB5.out
        go_wp2_with fail
        refine (RA.out _ HB5.out).mono ?_
        rintro e w6 ⟨vb, rfl, ho, hb⟩
        have HB6 := Lib.hid (below_then HB5.out hb)
        have HO6 := Lib.hid (HO5.out.below hb)
        have QA6 := Lib.hid (own_below QA5.out hb)
        have QB6 := Lib.hid ho
        obtain ⟨adb, capb, hvb⟩ := own_shape ho
        subst hvb
        clear hb ho t0 t1 t2
        go_wp2_with fail
        refine (EU.out _ _ HB6.out HO6.out).mono ?_
        rintro e w7 ⟨rfl, hb⟩
        have HB7 := Lib.hid (below_then HB6.out hb)
        have HO7 := Lib.hid (HO6.out.below hb)
        have QA7 := Lib.hid (own_below QA6.out hb)
        have QB7 := Lib.hid (own_below QB6.out hb)
        clear hb
        go_wp2_with fail
        refine (RU.out _ HB7.out).mono ?_
        rintro e w8 ⟨rfl, hb⟩
        have HB8 := Lib.hid (below_then HB7.out hb)
        have HO8 := Lib.hid (HO7.out.below hb)
        have QA8 := Lib.hid (own_below QA7.out hb)
        have QB8 := Lib.hid (own_below QB7.out hb)
        clear hb
        go_wp2_with fail
        refine (sameVals_any _ _ _ _ al _ QA8.out QB8.out hall).mono ?_
        rintro e w9 ⟨rfl, hd⟩
        have HB9 := Lib.hid (HB8.out.trans (hd.below _))
        have HO9 := Lib.hid (HO8.out.below (hd.below _))
        clear hd
        go_wp2_with fail
        refine (EQ.out _ _ HB9.out HO9.out).mono ?_
        rintro e w10 ⟨rfl, hd⟩
        rw [equal_refl]
        have HB10 := Lib.hid (HB9.out.trans (hd.below _))
        clear hd
        go_wp2_with fail
        go_ret
        exact ⟨rfl, FIN.out _ HB10.out⟩
      | none =>
        go_enter Tryd.func4, Tryd.ntmps4
        go_wp2_with fail
        refine (GG.out).mono ?_
        rintro e w1 ⟨rfl, hb⟩
        have HB1 := Lib.hid hb
        clear hb
        have HB2 := Lib.hid (HB1.out.alloc HB1.out.size (Obj.cells #[] 31))
        have HO2 : Hid (ReadsN (w1.alloc (Obj.cells #[] 31)) (.slice (some ⟨w1.heap.size, 0, none⟩) 0 0) []) := Lib.hid (.inl ⟨rfl, _, _, rfl⟩)
        obtain ⟨t0, t1, t2⟩ := HC0.out.below (by have := HSZ.out; omega) HB2.out
        go_wp2_with fail
        refine (EO.out _ _ HB2.out HO2.out).mono ?_
        rintro e w3 ⟨rfl, hb⟩
        have HB3 := Lib.hid (below_then HB2.out hb)
        have HO3 := Lib.hid (HO2.out.below hb)
        clear hb t0 t1 t2
        obtain ⟨t0, t1, t2⟩ := HC0.out.below (by have := HSZ.out; omega) HB3.out
        go_wp2_with fail
        refine (RO.out _ HB3.out).mono ?_
        rintro e w4 ⟨rfl, hb⟩
        have HB4 := Lib.hid (below_then HB3.out hb)
        have HO4 := Lib.hid (HO3.out.below hb)
        clear hb t0 t1 t2
        obtain ⟨t0, t1, t2⟩ := HC0.out.below (by have := HSZ.out; omega) HB4.out
        go_wp2_with fail
        refine (EA.out _ _ HB4.out HO4.out).mono ?_
        rintro e w5 ⟨va, rfl, ho, hb⟩
        have HB5 := Lib.hid (below_then HB4.out hb)
        have HO5 := Lib.hid (HO4.out.below hb)
        have QA5 := Lib.hid ho
        obtain ⟨ada, capa, hva⟩ := own_shape ho
        subst hva
        clear hb ho t0 t1 t2
        obtain ⟨t0, t1, t2⟩ := HC0.out.below (by have := HSZ.out; omega) HB5.out
        go_wp2_with fail
        refine (RA.out _ HB5.out).mono ?_
        rintro e w6 ⟨vb, rfl, ho, hb⟩
        have HB6 := Lib.hid (below_then HB5.out hb)
        have HO6 := Lib.hid (HO5.out.below hb)
        have QA6 := Lib.hid (own_below QA5.out hb)
        have QB6 := Lib.hid ho
        obtain ⟨adb, capb, hvb⟩ := own_shape ho
        subst hvb
        clear hb ho t0 t1 t2
        go_wp2_with fail
        refine (EU.out _ _ HB6.out HO6.out).mono ?_
        rintro e w7 ⟨rfl, hb⟩
        have HB7 := Lib.hid (below_then HB6.out hb)
        have HO7 := Lib.hid (HO6.out.below hb)
        have QA7 := Lib.hid (own_below QA6.out hb)
        have QB7 := Lib.hid (own_below QB6.out hb)
        clear hb
        go_wp2_with fail
        refine (RU.out _ HB7.out).mono ?_
        rintro e w8 ⟨rfl, hb⟩
        have HB8 := Lib.hid (below_then HB7.out hb)
        have HO8 := Lib.hid (HO7.out.below hb)
        have QA8 := Lib.hid (own_below QA7.out hb)
        have QB8 := Lib.hid (own_below QB7.out hb)
        clear hb
        go_wp2_with fail
        refine (sameVals_any _ _ _ _ al _ QA8.out QB8.out hall).mono ?_
        rintro e w9 ⟨rfl, hd⟩
        have HB9 := Lib.hid (HB8.out.trans (hd.below _))
        have HO9 := Lib.hid (HO8.out.below (hd.below _))
        clear hd
        go_wp2_with fail
        refine (EQ.out _ _ HB9.out HO9.out).mono ?_
        rintro e w10 ⟨rfl, hd⟩
        rw [equal_refl]
        have HB10 := Lib.hid (HB9.out.trans (hd.below _))
        clear hd
        go_wp2_with fail
        go_ret
        exact ⟨rfl, FIN.out _ HB10.out⟩
  · rw [hg] at GG
    clear hg hr hw
    go_enter Tryd.func4, Tryd.ntmps4
    go_wp2_with fail
    refine (GG.out).mono ?_
    rintro e w1 ⟨rfl, hb⟩
    have HB1 := Lib.hid hb
    clear hb
    go_wp2_with fail
    go_ret
    exact ⟨rfl, FIN.out _ HB1.out⟩
end Go.Proofs.YtflmpjejlkhpcaaDoor.Nodes

/-
  Contracts of the reference of layer 6: Gives, fits, Wrong, Of, Want.
-/
import Derived.Test.YtflmpjejlkhpcaaDoorKindMath
import Derived.Test.YtflmpjejlkhpcaaDoorRefCheck
import Derived.Deep.QuietTactic
import Derived.BigQuiet
import Derived.Outline
namespace Go.Proofs.YtflmpjejlkhpcaaDoor.Nodes
open Go.ChangeShapes Go.WideShapes Go.ChangeAt Go.RowKit

theorem refGives_any (k : Int) (w : World) : Calls Tryd.prog 36 #[.int .u8 k] w fun e w' => e = .returned (.bool (givesB k)) ∧ w = w' := by
  by_cases h6 : k = 6
  · subst h6
    have H : Hid (givesB 6 = true) := Lib.hid rfl
    go_enter Tryd.func36, Tryd.ntmps36
    go_wp2_with fail
    go_ret
    exact ⟨by rw [H.out]; rfl, rfl⟩
  · have q : (k == 6) = false := by rw [beq_eq_false_iff_ne]; exact h6
    by_cases h : 12 ≤ k
    · have H : Hid (givesB k = true) := Lib.hid (decide_eq_true (.inr h))
      have hd : decide (12 ≤ k) = true := decide_eq_true h
      clear h6
      go_enter Tryd.func36, Tryd.ntmps36
      go_wp2_with fail
      go_ret
      exact ⟨by rw [H.out]; rfl, rfl⟩
    · have H : Hid (givesB k = false) := Lib.hid (decide_eq_false (by omega))
      have hd : decide (12 ≤ k) = false := decide_eq_false h
      clear h6
      go_enter Tryd.func36, Tryd.ntmps36
      go_wp2_with fail
      go_ret
      exact ⟨by rw [H.out]; rfl, rfl⟩
theorem Calls.still_of {f : FuncId} {args : Array Value} {w : World} {n : Nat} {v : Value} (h : Calls Tryd.prog f args (w.drewN n) fun e w' => e = .returned v ∧ w.drewN n = w') :
    Calls Tryd.prog f args (w.drewN n) fun e w'' => e = .returned v ∧ ∃ m, w'' = w.drewN m := h.mono fun _ _ ⟨he, hm⟩ => ⟨he, n, hm.symm⟩
/-- The indices of a node's parts, be there parts or not, are those of nodes. -/
theorem parts_in {l : List Nd} (h : checkV l = 0) {i : Nat} (hi : i < l.length) : ∃ p q : Nat, l[i].a = p ∧ l[i].b = q ∧ p < l.length ∧ q < l.length := by
  obtain ⟨_, _, _, _, _, _, hf⟩ := node_facts h hi
  rcases hf with ⟨_, ha, hb, _⟩ | ⟨_, h1, ha, hb, _⟩ | ⟨_, h1, hz, ha, hb, _⟩
  · exact ⟨0, 0, ha, hb, by omega, by omega⟩
  · exact ⟨i - 1, 0, ha, hb, by omega, by omega⟩
  · exact ⟨_, _, ha, hb, by omega, by omega⟩
theorem gv_get {l : List Nd} {i : Nat} (h : i < l.length) : gv l (i : Int) = givesB l[i].kind := by
  unfold gv; rw [Int.toNat_natCast, kindAt_get h]
set_option maxRecDepth 100000 in
set_option maxHeartbeats 2000000 in
theorem refFits_any (v : Value) (l : List Nd) (i : Nat) (w : World) (hR : ReadsN w v l) (hc : checkV l = 0) (hi : i < l.length) :
    Calls Tryd.prog 47 #[v, .int .i64 i] w fun e w' => e = .returned (.bool (fitsN l l[i])) ∧ Below w.heap.size w w' := by
  obtain ⟨p, q, ha, hb, hp, hq⟩ := parts_in hc hi
  obtain ⟨k1, k2, _⟩ := node_facts hc hi
  obtain ⟨b, o, cap, rfl, hbw, c0, c1, c2, c3, c4⟩ := hR.nd i hi
  obtain ⟨b2, o2, cap2, hv2, _, d0, _⟩ := hR.nd p hp
  cases hv2
  obtain ⟨b3, o3, cap3, hv3, _, e0, _⟩ := hR.nd q hq
  cases hv3
  have hF : fitsN l l[i] = fitB l[i].kind (givesB l[p].kind) (givesB l[q].kind) := by
    unfold fitsN
    rw [ha, hb, gv_get hp, gv_get hq]
  rw [ha] at c2
  rw [hb] at c3
  rw [hF]
  obtain ⟨kd, hkd⟩ : ∃ kd, l[i].kind = kd := ⟨_, rfl⟩
  obtain ⟨kp, hkp⟩ : ∃ kd, l[p].kind = kd := ⟨_, rfl⟩
  obtain ⟨kq, hkq⟩ : ∃ kd, l[q].kind = kd := ⟨_, rfl⟩
  obtain ⟨A, hA⟩ : ∃ A, givesB kp = A := ⟨_, rfl⟩
  obtain ⟨B, hB⟩ : ∃ A, givesB kq = A := ⟨_, rfl⟩
  rw [hkd] at c0 k1 k2 ⊢
  rw [hkp] at d0 ⊢
  rw [hkq] at e0 ⊢
  have GP : Hid (∀ (W : World) n, Calls Tryd.prog 36 #[.int .u8 kp] (W.drewN n) fun e w'' => e = .returned (.bool A) ∧ ∃ m, w'' = W.drewN m) := Lib.hid fun W n => by
    have := Calls.still_of (refGives_any kp (W.drewN n))
    rwa [hA] at this
  have GQ : Hid (∀ (W : World) n, Calls Tryd.prog 36 #[.int .u8 kq] (W.drewN n) fun e w'' => e = .returned (.bool B) ∧ ∃ m, w'' = W.drewN m) := Lib.hid fun W n => by
    have := Calls.still_of (refGives_any kq (W.drewN n))
    rwa [hB] at this
  rw [hA, hB]
  have hp' : (p : Int) < l.length := by omega
  have hq' : (q : Int) < l.length := by omega
  have hi' : (i : Int) < l.length := by omega
  clear hF hA hB hkd hkp hkq ha hb hR hc
  rcases (show kd ≤ 4 ∨ kd = 5 ∨ kd = 6 ∨ (7 ≤ kd ∧ kd ≤ 15) ∨ kd = 16 ∨ kd = 17 ∨ 18 ≤ kd by omega) with h | rfl | rfl | h | rfl | rfl | h
  · have H : Hid (fitB kd A B = true) := Lib.hid (by unfold fitB; rw [if_pos h])
    go_enter Tryd.func47, Tryd.ntmps47
    go_wp2_with fail
    go_quiet (first | (go_at_call 36; with_reducible exact GP.out _ _) | (go_at_call 36; with_reducible exact GQ.out _ _))
    go_wp2_with fail
    go_ret
    exact ⟨by rw [H.out]; rfl, below_drewN ((Below.refl _ _).alloc (Nat.le_refl _) _) _⟩
  · have H : Hid (fitB 5 A B = !A) := Lib.hid rfl
    go_enter Tryd.func47, Tryd.ntmps47
    go_wp2_with fail
    go_quiet (first | (go_at_call 36; with_reducible exact GP.out _ _) | (go_at_call 36; with_reducible exact GQ.out _ _))
    go_wp2_with fail
    go_ret
    exact ⟨by rw [H.out]; rfl, below_drewN ((Below.refl _ _).alloc (Nat.le_refl _) _) _⟩
  · have H : Hid (fitB 6 A B = A) := Lib.hid rfl
    go_enter Tryd.func47, Tryd.ntmps47
    go_wp2_with fail
    go_quiet (first | (go_at_call 36; with_reducible exact GP.out _ _) | (go_at_call 36; with_reducible exact GQ.out _ _))
    go_wp2_with fail
    go_ret
    exact ⟨by rw [H.out]; rfl, below_drewN ((Below.refl _ _).alloc (Nat.le_refl _) _) _⟩
  · have H : Hid (fitB kd A B = (!A && !B)) := Lib.hid (by unfold fitB; rw [if_neg (by omega), if_neg (by omega), if_neg (by omega), if_neg (by omega), if_neg (by omega)])
    have t1 : (kd == 5) = false := by rw [beq_eq_false_iff_ne]; omega
    have t2 : (kd == 6) = false := by rw [beq_eq_false_iff_ne]; omega
    have t3 : (kd == 16) = false := by rw [beq_eq_false_iff_ne]; omega
    have t4 : (kd == 17) = false := by rw [beq_eq_false_iff_ne]; omega
    cases A <;> cases B <;>
    · go_enter Tryd.func47, Tryd.ntmps47
      go_wp2_with fail
      go_quiet (first | (go_at_call 36; with_reducible exact GP.out _ _) | (go_at_call 36; with_reducible exact GQ.out _ _))
      go_wp2_with fail
      go_ret
      exact ⟨by rw [H.out]; rfl, below_drewN ((Below.refl _ _).alloc (Nat.le_refl _) _) _⟩
  · have H : Hid (fitB 16 A B = (A == B)) := Lib.hid rfl
    go_enter Tryd.func47, Tryd.ntmps47
    go_wp2_with fail
    go_quiet (first | (go_at_call 36; with_reducible exact GP.out _ _) | (go_at_call 36; with_reducible exact GQ.out _ _))
    go_wp2_with fail
    go_ret
    exact ⟨by rw [H.out]; rfl, below_drewN ((Below.refl _ _).alloc (Nat.le_refl _) _) _⟩
  · have H : Hid (fitB 17 A B = (A == B)) := Lib.hid rfl
    go_enter Tryd.func47, Tryd.ntmps47
    go_wp2_with fail
    go_quiet (first | (go_at_call 36; with_reducible exact GP.out _ _) | (go_at_call 36; with_reducible exact GQ.out _ _))
    go_wp2_with fail
    go_ret
    exact ⟨by rw [H.out]; rfl, below_drewN ((Below.refl _ _).alloc (Nat.le_refl _) _) _⟩
  · have H : Hid (fitB kd A B = (A && B)) := Lib.hid (by unfold fitB; rw [if_neg (by omega), if_neg (by omega), if_neg (by omega), if_neg (by omega), if_pos h])
    have t1 : (kd == 5) = false := by rw [beq_eq_false_iff_ne]; omega
    have t2 : (kd == 6) = false := by rw [beq_eq_false_iff_ne]; omega
    have t3 : (kd == 16) = false := by rw [beq_eq_false_iff_ne]; omega
    have t4 : (kd == 17) = false := by rw [beq_eq_false_iff_ne]; omega
    cases A <;> cases B <;>
    · go_enter Tryd.func47, Tryd.ntmps47
      go_wp2_with fail
      go_quiet (first | (go_at_call 36; with_reducible exact GP.out _ _) | (go_at_call 36; with_reducible exact GQ.out _ _))
      go_wp2_with fail
      go_ret
      exact ⟨by rw [H.out]; rfl, below_drewN ((Below.refl _ _).alloc (Nat.le_refl _) _) _⟩
set_option maxRecDepth 100000 in
set_option maxHeartbeats 1000000 in
theorem refWrong_any (v : Value) (l : List Nd) (w : World) (hR : ReadsN w v l) (hn : l.length ≤ 1000000) (hc : checkV l = 0) :
    Calls Tryd.prog 35 #[v] w fun e w' => e = .returned (.int .i64 (wrongV l : Nat)) ∧ Below w.heap.size w w' := by
  obtain ⟨ad, cap, rfl⟩ := hR.shape
  have FT := Lib.hid (fun (i : Nat) (W : World) h hi => refFits_any (.slice ad l.length cap) l i W h hc hi)
  have HR := Lib.hid hR
  clear hR hc
  go_enter Tryd.func35, Tryd.ntmps35
  go_wp2_with fail
  go_loopg [3] l.length (fun g s3 wx => ∃ i : Nat, i + g = l.length ∧ s3 = .int .i64 i ∧ Hid (∀ j (hj : j < l.length), j < i → fitsN l l[j] = true) ∧ Hid (Below w.heap.size w wx))
  case atStart => exact ⟨0, by omega, rfl, Lib.hid (fun j _ h => by omega), Lib.hid (Below.refl _ _)⟩
  case round =>
    obtain ⟨i, hig, rfl, HA, HB⟩ := hrel
    cases gk with
    | zero =>
      obtain rfl : i = l.length := by omega
      have HV : Hid (wrongV l = l.length) := Lib.hid (wrong_all fun j hj => HA.out j hj hj)
      clear hig
      go_wp2_with fail
      go_ret
      exact ⟨by rw [HV.out]; rfl, HB.out⟩
    | succ g =>
      have hlt : i < l.length := by omega
      cases hf : fitsN l l[i]
      · have HV : Hid (wrongV l = i) := Lib.hid (wrong_is hlt HA.out hf)
        have F1 := Lib.hid (fun W h => FT.out i W h hlt)
        rw [hf] at F1
        clear hf
        go_wp2_with fail
        refine (F1.out _ (HR.out.below HB.out)).mono ?_
        rintro e w2 ⟨rfl, hb⟩
        have HB2 := Lib.hid (below_then HB.out hb)
        clear hb
        go_wp2_with fail
        go_ret
        exact ⟨by rw [HV.out]; rfl, HB2.out⟩
      · have HA2 : Hid (∀ j (hj : j < l.length), j < i + 1 → fitsN l l[j] = true) := Lib.hid (fun j hj h => by
          by_cases he : j = i
          · subst he; exact hf
          · exact HA.out j hj (by omega))
        have F1 := Lib.hid (fun W h => FT.out i W h hlt)
        rw [hf] at F1
        clear hf
        go_wp2_with fail
        refine (F1.out _ (HR.out.below HB.out)).mono ?_
        rintro e w2 ⟨rfl, hb⟩
        have HB2 := Lib.hid (below_then HB.out hb)
        clear hb
        go_wp2_with fail
        go_roundg g
        case measure => omega
        case rel => exact ⟨i + 1, by omega, by go_num, HA2, HB2⟩
set_option maxRecDepth 100000 in
set_option maxHeartbeats 1000000 in
theorem refOf_any (v : Value) (l : List Nd) (w : World) (hR : ReadsN w v l) (hn : l.length ≤ 1000000) :
    Calls Tryd.prog 23 #[v] w fun e w' => e = .returned (.tuple #[.bool (ofV l).1, .int .i64 (ofV l).2.1, .int .i64 (ofV l).2.2]) ∧ Below w.heap.size w w' := by
  obtain ⟨ad, cap, rfl⟩ := hR.shape
  have C := Lib.hid (fun (W : World) h => refCheck_any (.slice ad l.length cap) l W h hn)
  have HR := Lib.hid hR
  clear hR
  by_cases hc : checkV l = 0
  · have q : (checkV l != 0) = false := by rw [hc]; rfl
    have hpos := (check_acc hc).2.1
    obtain ⟨m, hm⟩ : ∃ m, l.length - 1 = m := ⟨_, rfl⟩
    have hm1 : (l.length : Int) - 1 = m := by omega
    have hm2 : m < l.length := by omega
    have hm3 : (m : Int) < l.length := by omega
    have W := Lib.hid (fun (W : World) h => refWrong_any (.slice ad l.length cap) l W h hn hc)
    by_cases hw : wrongV l < l.length
    · have HV := Lib.hid (of_wrong hc hw)
      have hw' : (wrongV l : Int) < l.length := by omega
      obtain ⟨u, hu⟩ : ∃ u, wrongV l = u := ⟨_, rfl⟩
      rw [hu] at W HV hw'
      clear hc hw hu hpos
      go_enter Tryd.func23, Tryd.ntmps23
      go_wp2_with fail
      refine (C.out _ HR.out).mono ?_
      rintro e w1 ⟨rfl, hb⟩
      have HB := Lib.hid hb
      have HR1 := Lib.hid (HR.out.below hb)
      clear hb
      go_wp2_with fail
      refine (W.out _ HR1.out).mono ?_
      rintro e w2 ⟨rfl, hb⟩
      have HB2 := Lib.hid (below_then HB.out hb)
      clear hb
      go_wp2_with fail
      go_ret3
      exact ⟨by rw [HV.out]; rfl, HB2.out⟩
    · have he : wrongV l = l.length := by have := wrong_le l; omega
      have HV := Lib.hid (of_typed hc he)
      rw [hm, kindAt_get hm2] at HV
      rw [he] at W
      clear hc hw hpos he
      go_enter Tryd.func23, Tryd.ntmps23
      go_wp2_with fail
      refine (C.out _ HR.out).mono ?_
      rintro e w1 ⟨rfl, hb⟩
      have HB := Lib.hid hb
      have HR1 := Lib.hid (HR.out.below hb)
      clear hb
      go_wp2_with fail
      refine (W.out _ HR1.out).mono ?_
      rintro e w2 ⟨rfl, hb⟩
      have HB2 := Lib.hid (below_then HB.out hb)
      obtain ⟨b, o, cap', hv, _, c0, _⟩ := (HR1.out.below hb).nd m hm2
      cases hv
      clear hb
      go_wp2_with fail
      refine (refGives_any _ _).mono ?_
      rintro e w3 ⟨rfl, rfl⟩
      go_wp2_with fail
      go_ret3
      exact ⟨by rw [HV.out]; rfl, HB2.out⟩
  · have q : (checkV l != 0) = true := by rw [bne_iff_ne]; exact hc
    have HV := Lib.hid (of_bad hc)
    clear hc
    go_enter Tryd.func23, Tryd.ntmps23
    go_wp2_with fail
    refine (C.out _ HR.out).mono ?_
    rintro e w1 ⟨rfl, hb⟩
    have HB := Lib.hid hb
    have HR1 := Lib.hid (HR.out.below hb)
    clear hb
    go_wp2_with fail
    refine (C.out _ HR1.out).mono ?_
    rintro e w2 ⟨rfl, hb⟩
    have HB2 := Lib.hid (below_then HB.out hb)
    clear hb
    go_wp2_with fail
    go_ret3
    exact ⟨by rw [HV.out]; rfl, HB2.out⟩
theorem want_yes {l : List Nd} {t : Bool} (h2 : (ofV l).1 = t) : wantV l t = (ofV l).2 := by unfold wantV; rw [if_neg (fun h3 => h3.2 h2)]
theorem want_other {l : List Nd} {t : Bool} (h : (ofV l).2.2 = 0) (h2 : (ofV l).1 ≠ t) : wantV l t = ((ofV l).2.1, 42) := by unfold wantV; rw [if_pos ⟨h, h2⟩]
theorem want_err {l : List Nd} {t : Bool} (h : (ofV l).2.2 ≠ 0) : wantV l t = (ofV l).2 := by unfold wantV; rw [if_neg (fun h3 => h h3.1)]
end Go.Proofs.YtflmpjejlkhpcaaDoor.Nodes

/-
  Contracts of package kinds at the landed code (layer 6): typed, Of, Number, Truth, All.
-/
import Derived.Test.YtflmpjejlkhpcaaDoorKindMisfit
import Derived.Test.YtflmpjejlkhpcaaDoorNodeRows
import Derived.Maps.AppendAt
import Derived.Outline
namespace Go.Proofs.YtflmpjejlkhpcaaDoor.Nodes
open Go.ChangeShapes Go.WideShapes Go.ChangeAt Go.RowKit

set_option maxRecDepth 100000 in
set_option maxHeartbeats 1000000 in
theorem kindsTyped_any (v : Value) (l : List Nd) (w : World) (hf : KindFix w) (hR : ReadsN w v l) (hn : l.length ≤ 1000000) :
    Calls Tryd.prog 44 #[v] w fun e w' => e = .returned (.tuple #[.int .i64 (ofV l).2.1, .int .i64 (ofV l).2.2]) ∧ Below w.heap.size w w' := by
  obtain ⟨ad, cap, rfl⟩ := hR.shape
  have C := Lib.hid (fun (W : World) h => nodesCheck_any (.slice ad l.length cap) l W h hn)
  have HR := Lib.hid hR
  have F := Lib.hid hf
  clear hR hf
  by_cases hc : checkV l = 0
  · have q : (checkV l != 0) = false := by rw [hc]; rfl
    have hpos := (check_acc hc).2.1
    obtain ⟨m, hm⟩ : ∃ m, l.length - 1 = m := ⟨_, rfl⟩
    have hm1 : (l.length : Int) - 1 = m := by omega
    have W := Lib.hid (fun (W : World) hf h => misfit_any (.slice ad l.length cap) l W hf h hc)
    by_cases hw : wrongV l < l.length
    · have HV := Lib.hid (of_wrong hc hw)
      have hw' : (wrongV l : Int) < l.length := by omega
      obtain ⟨u, hu⟩ : ∃ u, wrongV l = u := ⟨_, rfl⟩
      rw [hu] at W HV hw'
      clear hc hw hu hpos
      go_enter Tryd.func44, Tryd.ntmps44
      go_wp2_with fail
      refine (C.out _ HR.out).mono ?_
      rintro e w1 ⟨rfl, hb⟩
      have HB := Lib.hid hb
      have HR1 := Lib.hid (HR.out.below hb)
      have F1 := Lib.hid (F.out.below hb)
      clear hb
      go_wp2_with fail
      refine (W.out _ F1.out HR1.out).mono ?_
      rintro e w2 ⟨rfl, hb⟩
      have HB2 := Lib.hid (below_then HB.out hb)
      clear hb
      go_wp2_with fail
      go_ret2
      exact ⟨by rw [HV.out]; rfl, HB2.out⟩
    · have he : wrongV l = l.length := by have := wrong_le l; omega
      have HV := Lib.hid (of_typed hc he)
      rw [hm] at HV
      rw [he] at W
      clear hc hw hpos he
      go_enter Tryd.func44, Tryd.ntmps44
      go_wp2_with fail
      refine (C.out _ HR.out).mono ?_
      rintro e w1 ⟨rfl, hb⟩
      have HB := Lib.hid hb
      have HR1 := Lib.hid (HR.out.below hb)
      have F1 := Lib.hid (F.out.below hb)
      clear hb
      go_wp2_with fail
      refine (W.out _ F1.out HR1.out).mono ?_
      rintro e w2 ⟨rfl, hb⟩
      have HB2 := Lib.hid (below_then HB.out hb)
      clear hb
      go_wp2_with fail
      go_ret2
      exact ⟨by rw [HV.out]; rfl, HB2.out⟩
  · have q : (checkV l != 0) = true := by rw [bne_iff_ne]; exact hc
    have HV := Lib.hid (of_bad hc)
    clear hc
    go_enter Tryd.func44, Tryd.ntmps44
    go_wp2_with fail
    refine (C.out _ HR.out).mono ?_
    rintro e w1 ⟨rfl, hb⟩
    have HB := Lib.hid hb
    clear hb
    go_wp2_with fail
    go_ret2
    exact ⟨by rw [HV.out]; rfl, HB.out⟩
theorem of_err {l : List Nd} (h : (ofV l).2.2 ≠ 0) : (ofV l).1 = false := by
  unfold ofV at h ⊢
  split
  · split
    · rfl
    · rename_i h1 h2; rw [if_pos h1, if_neg h2] at h; exact absurd rfl h
  · rfl
set_option maxRecDepth 100000 in
set_option maxHeartbeats 1000000 in
theorem kindsOf_any (v : Value) (l : List Nd) (w : World) (hf : KindFix w) (hR : ReadsN w v l) (hn : l.length ≤ 1000000) :
    Calls Tryd.prog 29 #[v] w fun e w' => e = .returned (.tuple #[.bool (ofV l).1, .int .i64 (ofV l).2.1, .int .i64 (ofV l).2.2]) ∧ Below w.heap.size w w' := by
  have C := Lib.hid (kindsTyped_any v l w hf hR hn)
  have HR := Lib.hid hR
  have F := Lib.hid hf
  clear hR hf
  by_cases h0 : (ofV l).2.2 = 0
  · obtain ⟨hc, he⟩ := of_ok h0
    have HV := of_typed hc he
    have hpos := (check_acc hc).2.1
    have hm2 : l.length - 1 < l.length := by omega
    obtain ⟨n, hkn, n1, n2⟩ := kind_nat hc hm2
    rw [kindAt_get hm2, hkn] at HV
    obtain ⟨m, hm⟩ : ∃ m, l.length - 1 = m := ⟨_, rfl⟩
    rw [hm] at HV
    rw [HV] at C ⊢
    have hm3 : (m : Int) < l.length := by omega
    have hn0 : (0 : Int) ≤ n := by omega
    have hn1 : (n : Int) < 20 := by omega
    have HK : Hid (∃ h : m < l.length, l[m].kind = n) := Lib.hid (by subst hm; exact ⟨hm2, hkn⟩)
    clear HV hc he h0 hkn
    go_enter Tryd.func29, Tryd.ntmps29
    go_wp2_with fail
    refine C.out.mono ?_
    rintro e w1 ⟨rfl, hb⟩
    have HB := Lib.hid hb
    obtain ⟨hml, hkn⟩ := HK.out
    obtain ⟨b, o, cap', rfl, _, c0, _⟩ := (HR.out.below hb).nd m hml
    rw [hkn] at c0
    have g := gives_cell (F.out.below hb) n n2
    clear hb hkn
    go_wp2_with fail
    go_ret3
    exact ⟨rfl, HB.out⟩
  · have HF := of_err h0
    obtain ⟨is, at_, e0, ho⟩ : ∃ is at_ e0, ofV l = (is, at_, e0) := ⟨_, _, _, rfl⟩
    rw [ho] at HF h0 C ⊢
    simp only at HF h0 C ⊢
    subst HF
    have q : (e0 != 0) = true := by rw [bne_iff_ne]; exact h0
    clear h0 ho
    go_enter Tryd.func29, Tryd.ntmps29
    go_wp2_with fail
    refine C.out.mono ?_
    rintro e w1 ⟨rfl, hb⟩
    have HB := Lib.hid hb
    clear hb
    go_wp2_with fail
    go_ret3
    exact ⟨rfl, HB.out⟩
theorem wants_yes {l : List Nd} {t : Bool} (h2 : (ofV l).1 = t) : wantV l t = (ofV l).2 := by unfold wantV; rw [if_neg (fun h3 => h3.2 h2)]
theorem wants_other {l : List Nd} {t : Bool} (h : (ofV l).2.2 = 0) (h2 : (ofV l).1 ≠ t) : wantV l t = ((ofV l).2.1, 42) := by unfold wantV; rw [if_pos ⟨h, h2⟩]
theorem wants_err {l : List Nd} {t : Bool} (h : (ofV l).2.2 ≠ 0) : wantV l t = (ofV l).2 := by unfold wantV; rw [if_neg (fun h3 => h h3.1)]
/-! ### All -/
theorem info_bool : (Tryd.prog.info? 4).map (fun i => (i.zero, i.size, i.bytes)) = some (some (.bool false), 1, 1) := by kernel_rfl
def boolL (l : List Nd) : List Value := l.map fun x => .bool (givesB x.kind)
theorem boolL_next (l : List Nd) {i : Nat} (hi : i < l.length) : boolL (l.take (i + 1)) = boolL (l.take i) ++ [.bool (givesB l[i].kind)] := by
  unfold boolL; rw [List.take_succ_eq_append_getElem hi, List.map_append]; rfl
/-- What All returns. -/
def AllKinds (l : List Nd) (w : World) (e : Ending) (w' : World) : Prop :=
  ∃ v, e = .returned (.tuple #[v, .int .i64 (ofV l).2.2]) ∧ w'.ownsRow w.heap.size 4 1 v (allOfV l).1.length ((allOfV l).1.map Value.bool) ∧ Below w.heap.size w w'
theorem all_vals {l : List Nd} (h : (ofV l).2.2 = 0) : (allOfV l).1.length = l.length ∧ (allOfV l).1.map Value.bool = boolL l := by
  unfold allOfV
  rw [if_pos h]
  exact ⟨List.length_map .., by rw [List.map_map]; rfl⟩
theorem all_none {l : List Nd} (h : (ofV l).2.2 ≠ 0) : (allOfV l).1 = [] := by unfold allOfV; rw [if_neg h]
end Go.Proofs.YtflmpjejlkhpcaaDoor.Nodes

/-
  Walk of the statement KindsTells: package kinds returns what the reference does.
-/
import Derived.Test.YtgmfelikmjclbaaDoorKindHelp
import Derived.Test.YtgmfelikmjclbaaDoorRefKind
import Derived.Test.YtgmfelikmjclbaaDoorRefEqual
import Derived.Test.YtgmfelikmjclbaaDoorNodeCells
import Derived.Test.YtgmfelikmjclbaaDoorRefKindAll
import Derived.Outline
namespace Go.Proofs.YtgmfelikmjclbaaDoor.Nodes
open Go.ChangeShapes Go.WideShapes Go.ChangeAt Go.RowKit

/-- The cells of the list, behind an empty block. -/
theorem cells_of {w : World} {ad : Option Addr} {cap : Nat} {l : List Nd} (h : ReadsN w (.slice ad l.length cap) l) (hpos : 0 < l.length) : ∃ a : Addr, ad = some a ∧ ∀ (j : Nat) (u : Value), (rowN l)[j]? = some u → (w.alloc (Obj.cells #[] 29)).cell? (a.add j) = some u := by
  rcases h with ⟨rfl, _⟩ | ⟨b, o, more, e, hb, hnds⟩
  · simp at hpos
  · cases e
    exact ⟨_, rfl, nds_cells (fun i x hx => (hnds i x hx).below hb ((Below.refl _ w).alloc (Nat.le_refl _) _))⟩
set_option maxRecDepth 100000 in
set_option maxHeartbeats 2000000 in
theorem tells_walk (v : Value) (l : List Nd) (w : World) (hf : KindFix w) (hR : ReadsN w v l) (hn : l.length ≤ 9223372036854775807) :
    Calls Tryd.prog 4 #[v] w fun e w' => e = .returned (.bool true) ∧ Below w.heap.size w w' := by
  have GG := Lib.hid (fun (W : World) (h : Below w.heap.size w W) => great_any v l W (hR.below h))
  have F := Lib.hid hf
  have HR := Lib.hid hR
  obtain ⟨ad, cap, rfl⟩ := hR.shape
  have HB0 := Lib.hid (Below.refl w.heap.size w)
  cases hg : decide (70 < l.length)
  · have h70 : l.length ≤ 70 := by rw [decide_eq_false_iff_not] at hg; omega
    rw [hg] at GG
    clear hg
    obtain ⟨i0, hi, hz0, hz1, hz2⟩ := info_parts info_nd
    have HI := Lib.hid (And.intro hi (And.intro hz0 (And.intro hz1 hz2)))
    have OF := Lib.hid (fun vo (W : World) (h : Below w.heap.size w W) (hr : ReadsN W vo l) => kindsOf_any vo l W (F.out.below h) hr (by omega))
    have RO := Lib.hid (fun (W : World) (h : Below w.heap.size w W) => refOf_any (.slice ad l.length cap) l W (HR.out.below h) (by omega))
    have KA := Lib.hid (fun vo (W : World) (h : Below w.heap.size w W) (hr : ReadsN W vo l) => kindsAll_any vo l W (F.out.below h) hr (by omega))
    have RA := Lib.hid (fun (W : World) (h : Below w.heap.size w W) => refAllKinds_any (.slice ad l.length cap) l W (HR.out.below h) (by omega))
    have NU := Lib.hid (fun vo (W : World) (h : Below w.heap.size w W) (hr : ReadsN W vo l) => kindsNumber_any vo l W (F.out.below h) hr (by omega))
    have TR := Lib.hid (fun vo (W : World) (h : Below w.heap.size w W) (hr : ReadsN W vo l) => kindsTruth_any vo l W (F.out.below h) hr (by omega))
    have RN := Lib.hid (fun (W : World) (h : Below w.heap.size w W) => refWant_any (.slice ad l.length cap) l false W (HR.out.below h) (by omega))
    have RT := Lib.hid (fun (W : World) (h : Below w.heap.size w W) => refWant_any (.slice ad l.length cap) l true W (HR.out.below h) (by omega))
    have EQ := Lib.hid (fun vo (W : World) (h : Below w.heap.size w W) (hr : ReadsN W vo l) => refEqual_any vo (.slice ad l.length cap) l l W hr (HR.out.below h) (by omega))
    unfold AllKinds at KA RA
    obtain ⟨is, at_, e0, ho⟩ : ∃ is at_ e0, ofV l = (is, at_, e0) := ⟨_, _, _, rfl⟩
    obtain ⟨al, hal⟩ : ∃ al, (allOfV l).1 = al := ⟨_, rfl⟩
    have hall : al.length ≤ 1000000 := by
      rw [← hal]
      unfold allOfV
      split
      · rw [List.length_map]; omega
      · exact Nat.zero_le _
    obtain ⟨n1, n2, hnn⟩ : ∃ n1 n2, wantV l false = (n1, n2) := ⟨_, _, rfl⟩
    obtain ⟨t1, t2, htt⟩ : ∃ n1 n2, wantV l true = (n1, n2) := ⟨_, _, rfl⟩
    rw [ho] at OF RO KA RA
    rw [hal] at KA RA
    rw [hnn] at NU RN
    rw [htt] at TR RT
    have q1 : (is == is) = true := by simp
    have q2 : (at_ == at_) = true := by simp
    have q3 : (e0 == e0) = true := by simp
    have q4 : (n1 == n1) = true := by simp
    have q5 : (n2 == n2) = true := by simp
    have q6 : (t1 == t1) = true := by simp
    have q7 : (t2 == t2) = true := by simp
    clear hf hR ho hal hnn htt hi hz0 hz1 hz2
    by_cases hpos : 0 < l.length
    · obtain ⟨a, rfl, hnd⟩ := cells_of HR.out hpos
      have HND := Lib.hid hnd
      clear hnd
      go_enter Tryd.func4, Tryd.ntmps4
      go_wp2_with fail
      refine (GG.out _ HB0.out).mono ?_
      rintro e w1 ⟨rfl, rfl⟩
      have HB1 := HB0
      go_wp2_with (at_builtin; refine wpList_append_own _ rfl _ _ 22 rfl w.heap.size 29 i0 (.agg #[.int .u8 0, .int .i64 0, .int .i64 0, .int .i64 0, .int .i64 0]) 5 40 Tryd.underlying22 HI.out.1 HI.out.2.1 HI.out.2.2.1 HI.out.2.2.2 rfl (by decide) _ _ _ rfl (World.ownsRow_made w #[] 0 (Nat.le_refl _) (Nat.zero_le _) rfl) a l.length cap (rowN l) rfl (rowN_len l) HND.out (rowN_one l) ?c3 ?c4 ?c5 ?_)
      case c3 => unfold maxLen; omega
      case c4 => omega
      case c5 => simp
      intro v1 w5 hown hgrow _
      have hb5 : Below w.heap.size w w5 := ((Below.refl _ w).alloc (Nat.le_refl _) _).grown hgrow (by simp) (fun k hk => by simp [Value.ownBlock] at hk; omega)
      have HO0 : Hid (w5.ownsRow w.heap.size 29 5 v1 l.length (rowN l)) := Lib.hid (by simpa using hown)
      clear hown hgrow
      obtain ⟨ad1, cap1, hv1⟩ := own_shape HO0.out
      subst hv1
      have HB2 := Lib.hid hb5
      have HO2 : Hid (ReadsN w5 (.slice ad1 l.length cap1) l) := Lib.hid (own_readsN HO0.out)
      clear hb5
      go_wp2_with fail
      refine (OF.out _ _ HB2.out HO2.out).mono ?_
      rintro e w3 ⟨rfl, hb⟩
      have HB3 := Lib.hid (below_then HB2.out hb)
      have HO3 := Lib.hid (HO2.out.below hb)
      clear hb
      go_wp2_with fail
      refine (RO.out _ HB3.out).mono ?_
      rintro e w4 ⟨rfl, hb⟩
      have HB4 := Lib.hid (below_then HB3.out hb)
      have HO4 := Lib.hid (HO3.out.below hb)
      clear hb
      go_wp2_with fail
      refine (KA.out _ _ HB4.out HO4.out).mono ?_
      rintro e w5 ⟨va, rfl, hoa, hb⟩
      have HB5 := Lib.hid (below_then HB4.out hb)
      obtain ⟨ada, capa, hva⟩ := own_shape hoa
      subst hva
      have HKA := Lib.hid hoa
      have HO5 := Lib.hid (HO4.out.below hb)
      clear hoa
      clear hb
      go_wp2_with fail
      refine (RA.out _ HB5.out).mono ?_
      rintro e w6 ⟨vb, rfl, hob, hb⟩
      have HB6 := Lib.hid (below_then HB5.out hb)
      obtain ⟨adb, capb, hvb⟩ := own_shape hob
      subst hvb
      have HRA := Lib.hid hob
      have HKA2 := Lib.hid (own_below HKA.out hb)
      have HO6 := Lib.hid (HO5.out.below hb)
      clear hob
      clear hb
      go_wp2_with fail
      refine (NU.out _ _ HB6.out HO6.out).mono ?_
      rintro e w7 ⟨rfl, hb⟩
      have HB7 := Lib.hid (below_then HB6.out hb)
      have HKA3 := Lib.hid (own_below HKA2.out hb)
      have HRA3 := Lib.hid (own_below HRA.out hb)
      have HO7 := Lib.hid (HO6.out.below hb)
      clear hb
      go_wp2_with fail
      refine (RN.out _ HB7.out).mono ?_
      rintro e w8 ⟨rfl, hb⟩
      have HB8 := Lib.hid (below_then HB7.out hb)
      have HKA4 := Lib.hid (own_below HKA3.out hb)
      have HRA4 := Lib.hid (own_below HRA3.out hb)
      have HO8 := Lib.hid (HO7.out.below hb)
      clear hb
      go_wp2_with fail
      refine (TR.out _ _ HB8.out HO8.out).mono ?_
      rintro e w9 ⟨rfl, hb⟩
      have HB9 := Lib.hid (below_then HB8.out hb)
      have HKA5 := Lib.hid (own_below HKA4.out hb)
      have HRA5 := Lib.hid (own_below HRA4.out hb)
      have HO9 := Lib.hid (HO8.out.below hb)
      clear hb
      go_wp2_with fail
      refine (RT.out _ HB9.out).mono ?_
      rintro e w10 ⟨rfl, hb⟩
      have HB10 := Lib.hid (below_then HB9.out hb)
      have HKA6 := Lib.hid (own_below HKA5.out hb)
      have HRA6 := Lib.hid (own_below HRA5.out hb)
      have HO10 := Lib.hid (HO9.out.below hb)
      clear hb
      go_wp2_with fail
      refine (same_any _ _ _ _ al _ HKA6.out HRA6.out hall).mono ?_
      rintro e w11 ⟨rfl, hd⟩
      have HB11 := Lib.hid (HB10.out.trans (hd.below _))
      have HO11 := Lib.hid (HO10.out.below (hd.below _))
      clear hd
      go_wp2_with fail
      refine (EQ.out _ _ HB11.out HO11.out).mono ?_
      rintro e w12 ⟨rfl, hd⟩
      rw [equal_refl]
      have HB12 := Lib.hid (HB11.out.trans (hd.below _))
      clear hd
      go_wp2_with fail
      go_ret
      exact ⟨rfl, HB12.out⟩
    · obtain rfl : l = [] := List.length_eq_zero_iff.1 (by omega)
      have HND : Hid (∀ (a : Addr) (j : Nat) (u : Value), (rowN ([] : List Nd))[j]? = some u → (w.alloc (Obj.cells #[] 29)).cell? (a.add j) = some u) := Lib.hid fun a j u hu => by simp [rowN] at hu
      cases ad with
      | some a0 =>
        go_enter Tryd.func4, Tryd.ntmps4
        go_wp2_with fail
        refine (GG.out _ HB0.out).mono ?_
        rintro e w1 ⟨rfl, rfl⟩
        have HB1 := HB0
        go_wp2_with (at_builtin; refine wpList_append_own _ rfl _ _ 22 rfl w.heap.size 29 i0 (.agg #[.int .u8 0, .int .i64 0, .int .i64 0, .int .i64 0, .int .i64 0]) 5 40 Tryd.underlying22 HI.out.1 HI.out.2.1 HI.out.2.2.1 HI.out.2.2.2 rfl (by decide) _ _ _ rfl (World.ownsRow_made w #[] 0 (Nat.le_refl _) (Nat.zero_le _) rfl) a0 0 cap [] rfl rfl (fun j u hu => by simp at hu) (fun u hu => by cases hu) ?c3 ?c4 ?c5 ?_)
        case c3 => unfold maxLen; omega
        case c4 => omega
        case c5 => simp
        intro v1 w5 hown hgrow _
        have hb5 : Below w.heap.size w w5 := ((Below.refl _ w).alloc (Nat.le_refl _) _).grown hgrow (by simp) (fun k hk => by simp [Value.ownBlock] at hk; omega)
        have HO0 : Hid (w5.ownsRow w.heap.size 29 5 v1 0 []) := Lib.hid (by simpa using hown)
        clear hown hgrow
        obtain ⟨ad1, cap1, hv1⟩ := own_shape HO0.out
        subst hv1
        have HB2 := Lib.hid hb5
        have HO2 : Hid (ReadsN w5 (.slice ad1 0 cap1) []) := Lib.hid (own_readsN (l := []) HO0.out)
        clear hb5
        go_wp2_with fail
        refine (OF.out _ _ HB2.out HO2.out).mono ?_
        rintro e w3 ⟨rfl, hb⟩
        have HB3 := Lib.hid (below_then HB2.out hb)
        have HO3 := Lib.hid (HO2.out.below hb)
        clear hb
        go_wp2_with fail
        refine (RO.out _ HB3.out).mono ?_
        rintro e w4 ⟨rfl, hb⟩
        have HB4 := Lib.hid (below_then HB3.out hb)
        have HO4 := Lib.hid (HO3.out.below hb)
        clear hb
        go_wp2_with fail
        refine (KA.out _ _ HB4.out HO4.out).mono ?_
        rintro e w5 ⟨va, rfl, hoa, hb⟩
        have HB5 := Lib.hid (below_then HB4.out hb)
        obtain ⟨ada, capa, hva⟩ := own_shape hoa
        subst hva
        have HKA := Lib.hid hoa
        have HO5 := Lib.hid (HO4.out.below hb)
        clear hoa
        clear hb
        go_wp2_with fail
        refine (RA.out _ HB5.out).mono ?_
        rintro e w6 ⟨vb, rfl, hob, hb⟩
        have HB6 := Lib.hid (below_then HB5.out hb)
        obtain ⟨adb, capb, hvb⟩ := own_shape hob
        subst hvb
        have HRA := Lib.hid hob
        have HKA2 := Lib.hid (own_below HKA.out hb)
        have HO6 := Lib.hid (HO5.out.below hb)
        clear hob
        clear hb
        go_wp2_with fail
        refine (NU.out _ _ HB6.out HO6.out).mono ?_
        rintro e w7 ⟨rfl, hb⟩
        have HB7 := Lib.hid (below_then HB6.out hb)
        have HKA3 := Lib.hid (own_below HKA2.out hb)
        have HRA3 := Lib.hid (own_below HRA.out hb)
        have HO7 := Lib.hid (HO6.out.below hb)
        clear hb
        go_wp2_with fail
        refine (RN.out _ HB7.out).mono ?_
        rintro e w8 ⟨rfl, hb⟩
        have HB8 := Lib.hid (below_then HB7.out hb)
        have HKA4 := Lib.hid (own_below HKA3.out hb)
        have HRA4 := Lib.hid (own_below HRA3.out hb)
        have HO8 := Lib.hid (HO7.out.below hb)
        clear hb
        go_wp2_with fail
        refine (TR.out _ _ HB8.out HO8.out).mono ?_
        rintro e w9 ⟨rfl, hb⟩
        have HB9 := Lib.hid (below_then HB8.out hb)
        have HKA5 := Lib.hid (own_below HKA4.out hb)
        have HRA5 := Lib.hid (own_below HRA4.out hb)
        have HO9 := Lib.hid (HO8.out.below hb)
        clear hb
        go_wp2_with fail
        refine (RT.out _ HB9.out).mono ?_
        rintro e w10 ⟨rfl, hb⟩
        have HB10 := Lib.hid (below_then HB9.out hb)
        have HKA6 := Lib.hid (own_below HKA5.out hb)
        have HRA6 := Lib.hid (own_below HRA5.out hb)
        have HO10 := Lib.hid (HO9.out.below hb)
        clear hb
        go_wp2_with fail
        refine (same_any _ _ _ _ al _ HKA6.out HRA6.out hall).mono ?_
        rintro e w11 ⟨rfl, hd⟩
        have HB11 := Lib.hid (HB10.out.trans (hd.below _))
        have HO11 := Lib.hid (HO10.out.below (hd.below _))
        clear hd
        go_wp2_with fail
        refine (EQ.out _ _ HB11.out HO11.out).mono ?_
        rintro e w12 ⟨rfl, hd⟩
        rw [equal_refl]
        have HB12 := Lib.hid (HB11.out.trans (hd.below _))
        clear hd
        go_wp2_with fail
        go_ret
        exact ⟨rfl, HB12.out⟩
      | none =>
        go_enter Tryd.func4, Tryd.ntmps4
        go_wp2_with fail
        refine (GG.out _ HB0.out).mono ?_
        rintro e w1 ⟨rfl, rfl⟩
        have HB1 := HB0
        have hb5 : Below w.heap.size w (w.alloc (Obj.cells #[] 29)) := (Below.refl _ w).alloc (Nat.le_refl _) _
        have HO5 : Hid (ReadsN (w.alloc (Obj.cells #[] 29)) (.slice (some ⟨w.heap.size, 0, none⟩) 0 0) []) := Lib.hid (.inl ⟨rfl, _, _, rfl⟩)
        have HB2 := Lib.hid hb5
        have HO2 := HO5
        clear hb5
        go_wp2_with fail
        refine (OF.out _ _ HB2.out HO2.out).mono ?_
        rintro e w3 ⟨rfl, hb⟩
        have HB3 := Lib.hid (below_then HB2.out hb)
        have HO3 := Lib.hid (HO2.out.below hb)
        clear hb
        go_wp2_with fail
        refine (RO.out _ HB3.out).mono ?_
        rintro e w4 ⟨rfl, hb⟩
        have HB4 := Lib.hid (below_then HB3.out hb)
        have HO4 := Lib.hid (HO3.out.below hb)
        clear hb
        go_wp2_with fail
        refine (KA.out _ _ HB4.out HO4.out).mono ?_
        rintro e w5 ⟨va, rfl, hoa, hb⟩
        have HB5 := Lib.hid (below_then HB4.out hb)
        obtain ⟨ada, capa, hva⟩ := own_shape hoa
        subst hva
        have HKA := Lib.hid hoa
        have HO5 := Lib.hid (HO4.out.below hb)
        clear hoa
        clear hb
        go_wp2_with fail
        refine (RA.out _ HB5.out).mono ?_
        rintro e w6 ⟨vb, rfl, hob, hb⟩
        have HB6 := Lib.hid (below_then HB5.out hb)
        obtain ⟨adb, capb, hvb⟩ := own_shape hob
        subst hvb
        have HRA := Lib.hid hob
        have HKA2 := Lib.hid (own_below HKA.out hb)
        have HO6 := Lib.hid (HO5.out.below hb)
        clear hob
        clear hb
        go_wp2_with fail
        refine (NU.out _ _ HB6.out HO6.out).mono ?_
        rintro e w7 ⟨rfl, hb⟩
        have HB7 := Lib.hid (below_then HB6.out hb)
        have HKA3 := Lib.hid (own_below HKA2.out hb)
        have HRA3 := Lib.hid (own_below HRA.out hb)
        have HO7 := Lib.hid (HO6.out.below hb)
        clear hb
        go_wp2_with fail
        refine (RN.out _ HB7.out).mono ?_
        rintro e w8 ⟨rfl, hb⟩
        have HB8 := Lib.hid (below_then HB7.out hb)
        have HKA4 := Lib.hid (own_below HKA3.out hb)
        have HRA4 := Lib.hid (own_below HRA3.out hb)
        have HO8 := Lib.hid (HO7.out.below hb)
        clear hb
        go_wp2_with fail
        refine (TR.out _ _ HB8.out HO8.out).mono ?_
        rintro e w9 ⟨rfl, hb⟩
        have HB9 := Lib.hid (below_then HB8.out hb)
        have HKA5 := Lib.hid (own_below HKA4.out hb)
        have HRA5 := Lib.hid (own_below HRA4.out hb)
        have HO9 := Lib.hid (HO8.out.below hb)
        clear hb
        go_wp2_with fail
        refine (RT.out _ HB9.out).mono ?_
        rintro e w10 ⟨rfl, hb⟩
        have HB10 := Lib.hid (below_then HB9.out hb)
        have HKA6 := Lib.hid (own_below HKA5.out hb)
        have HRA6 := Lib.hid (own_below HRA5.out hb)
        have HO10 := Lib.hid (HO9.out.below hb)
        clear hb
        go_wp2_with fail
        refine (same_any _ _ _ _ al _ HKA6.out HRA6.out hall).mono ?_
        rintro e w11 ⟨rfl, hd⟩
        have HB11 := Lib.hid (HB10.out.trans (hd.below _))
        have HO11 := Lib.hid (HO10.out.below (hd.below _))
        clear hd
        go_wp2_with fail
        refine (EQ.out _ _ HB11.out HO11.out).mono ?_
        rintro e w12 ⟨rfl, hd⟩
        rw [equal_refl]
        have HB12 := Lib.hid (HB11.out.trans (hd.below _))
        clear hd
        go_wp2_with fail
        go_ret
        exact ⟨rfl, HB12.out⟩
  · rw [hg] at GG
    clear hg
    have AL : True := trivial
    clear hf hR
    go_enter Tryd.func4, Tryd.ntmps4
    go_wp2_with fail
    refine (GG.out _ HB0.out).mono ?_
    rintro e w1 ⟨rfl, rfl⟩
    have HB1 := HB0
    go_wp2_with fail
    go_ret
    exact ⟨rfl, HB1.out⟩
end Go.Proofs.YtgmfelikmjclbaaDoor.Nodes

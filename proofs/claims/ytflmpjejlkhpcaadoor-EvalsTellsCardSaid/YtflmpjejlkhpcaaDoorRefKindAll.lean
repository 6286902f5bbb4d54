/-
  Contract of the reference of layer 6: All.
-/
import Derived.Test.YtflmpjejlkhpcaaDoorRefKind
import Derived.Test.YtflmpjejlkhpcaaDoorKindCalls
import Derived.Outline
namespace Go.Proofs.YtflmpjejlkhpcaaDoor.Nodes
open Go.ChangeShapes Go.WideShapes Go.ChangeAt Go.RowKit

set_option maxRecDepth 100000 in
set_option maxHeartbeats 1000000 in
theorem refAllKinds_any (v : Value) (l : List Nd) (w : World) (hR : ReadsN w v l) (hn : l.length ≤ 1000000) :
    Calls Tryd.prog 27 #[v] w (AllKinds l w) := by
  obtain ⟨i0, hi, hz0, hz1, hz2⟩ := info_parts info_bool
  have HI := Lib.hid (And.intro hi (And.intro hz0 (And.intro hz1 hz2)))
  have C := Lib.hid (refOf_any v l w hR hn)
  obtain ⟨ad, cap, rfl⟩ := hR.shape
  have HR := Lib.hid hR
  clear hR hi hz0 hz1 hz2
  obtain ⟨is, hs⟩ : ∃ is, (ofV l).1 = is := ⟨_, rfl⟩
  rw [hs] at C
  by_cases h0 : (ofV l).2.2 = 0
  · obtain ⟨hc, he⟩ := of_ok h0
    obtain ⟨a1, a2⟩ := all_vals h0
    have HV : Hid (∀ vv W, W.ownsRow w.heap.size 4 1 vv l.length (boolL l) → Below w.heap.size w W → AllKinds l w (.returned (.tuple #[vv, .int .i64 0])) W) := Lib.hid fun vv W h1 h2 => ⟨vv, by rw [h0], by rw [a1, a2]; exact h1, h2⟩
    obtain ⟨at_, ha⟩ : ∃ at_, (ofV l).2.1 = at_ := ⟨_, rfl⟩
    rw [h0, ha] at C
    clear hc he a1 a2 h0 ha hs
    go_enter Tryd.func27, Tryd.ntmps27
    go_wp2_with fail
    refine C.out.mono ?_
    rintro e w1 ⟨rfl, hb⟩
    have HB := Lib.hid hb
    clear hb
    go_wp2_with fail
    go_loopg [7, 8] l.length (fun g s7 s8 wx => ∃ i : Nat, i + g = l.length ∧ s8 = .int .i64 i ∧ Hid (wx.ownsRow w.heap.size 4 1 s7 i (boolL (l.take i))) ∧ Hid (Below w.heap.size w wx))
    case atStart => exact ⟨0, by omega, rfl, Lib.hid (World.ownsRow_nil _ _ _ _), HB⟩
    case round =>
      obtain ⟨i, hig, rfl, HO, HB⟩ := hrel
      obtain ⟨adS, capS, hO⟩ := own_shape HO.out
      subst hO
      cases gk with
      | zero =>
        obtain rfl : i = l.length := by omega
        have HO2 := HO.out
        rw [List.take_length] at HO2
        have HE := Lib.hid (HV.out _ _ HO2 HB.out)
        clear hig HO2
        go_wp2_with fail
        go_ret2
        exact HE.out
      | succ g =>
        have hlt : i < l.length := by omega
        obtain ⟨bb, o, cap', hv, hbw, c0, c1, c2, c3, c4⟩ := (HR.out.below HB.out).nd i hlt
        cases hv
        have HN := Lib.hid (boolL_next l hlt)
        obtain ⟨kd, hkd⟩ : ∃ kd, l[i].kind = kd := ⟨_, rfl⟩
        rw [hkd] at c0 HN
        have G := Lib.hid (refGives_any kd)
        obtain ⟨gb, hgb⟩ : ∃ gb, givesB kd = gb := ⟨_, rfl⟩
        rw [hgb] at HN G
        clear hkd hgb
        go_wp2_with fail
        refine (G.out _).mono ?_
        rintro e w3 ⟨rfl, rfl⟩
        go_wp2_with (at_builtin; refine wpList_append_own _ rfl _ _ 59 rfl w.heap.size 4 i0 (.bool false) 1 1 Tryd.underlying59 HI.out.1 HI.out.2.1 HI.out.2.2.1 HI.out.2.2.2 rfl (by decide) _ _ _ rfl (HO.out.alloc _) ⟨wr.heap.size, 0, none⟩ 1 1 [.bool gb] rfl rfl ?c1 ?c2 ?c3 ?c4 ?c5 ?_)
        case c1 =>
          intro q u hq
          match q with
          | 0 => simp at hq; subst hq; simp [go_sem, Addr.add]
          | q + 1 => simp at hq
        case c2 => intro u hu; simp at hu; subst hu; rfl
        case c3 => unfold maxLen; omega
        case c4 => omega
        case c5 => have := HB.out.size; simp at this ⊢; omega
        intro v1 w4 hown hgrow _
        have HB4 := Lib.hid (grown_below HO.out (HB.out.alloc HB.out.size _) hgrow)
        have HO4 : Hid (w4.ownsRow w.heap.size 4 1 v1 (i + 1) (boolL (l.take (i + 1)))) := Lib.hid (by
          rw [HN.out]
          exact hown)
        clear hown hgrow
        go_wp2_with fail
        go_roundg g
        case measure => omega
        case rel => exact ⟨i + 1, by omega, by go_num, HO4, HB4⟩
  · have HA := all_none h0
    have HV : Hid (∀ W, Below w.heap.size w W → AllKinds l w (.returned (.tuple #[.slice none 0 0, .int .i64 (ofV l).2.2])) W) := Lib.hid fun W h2 => ⟨_, rfl, by rw [HA]; exact World.ownsRow_nil _ _ _ _, h2⟩
    obtain ⟨at_, ha⟩ : ∃ at_, (ofV l).2.1 = at_ := ⟨_, rfl⟩
    obtain ⟨e0, he⟩ : ∃ e0, (ofV l).2.2 = e0 := ⟨_, rfl⟩
    rw [ha] at C
    rw [he] at C h0 HV
    have q : (e0 != 0) = true := by rw [bne_iff_ne]; exact h0
    clear HA h0 ha he hs
    go_enter Tryd.func27, Tryd.ntmps27
    go_wp2_with fail
    refine C.out.mono ?_
    rintro e w1 ⟨rfl, hb⟩
    have HB := Lib.hid hb
    clear hb
    go_wp2_with fail
    go_ret2
    exact HV.out _ HB.out
end Go.Proofs.YtflmpjejlkhpcaaDoor.Nodes

/-
  Contract of evals.Uses at the landed code, and of the reference's has and Uses (layer 7).
-/
import Derived.Test.YtflmpjejlkhpcaaDoorEvalCalls
import Derived.Test.YtflmpjejlkhpcaaDoorRefKind
import Derived.Outline
namespace Go.Proofs.YtflmpjejlkhpcaaDoor.Nodes
open Go.ChangeShapes Go.WideShapes Go.ChangeAt Go.RowKit

theorem results_tmp4 {fn : Func} {t u v x : Tmp} (h : fn.results = #[.tmp t, .tmp u, .tmp v, .tmp x]) (tmps : Array Value) (P : Program) (w : World) :
    (results fn tmps).run P w = .ok (.tuple #[tmps.getD t undef, tmps.getD u undef, tmps.getD v undef, tmps.getD x undef]) w := by
  simp [results, h]
theorem has_next (k : Int) {l : List Nd} {i : Nat} (hi : i < l.length) : hasK k (l.take (i + 1)) = (hasK k (l.take i) || (l[i].kind == k)) := by
  unfold hasK
  rw [List.take_succ_eq_append_getElem hi, List.any_append]
  simp
theorem has_found (k : Int) {l : List Nd} {i : Nat} (hi : i < l.length) (h : (l[i].kind == k) = true) : hasK k l = true := by
  unfold hasK
  rw [List.any_eq_true]
  exact ⟨_, List.getElem_mem hi, h⟩
def UsesIs (l : List Nd) (e : Ending) : Prop := e = .returned (.tuple #[.bool (useE 2 l), .bool (useE 3 l), .bool (useE 4 l), .int .i64 (ofV l).2.2])
set_option maxRecDepth 100000 in
set_option maxHeartbeats 2000000 in
theorem evalsUses_any (v : Value) (l : List Nd) (w : World) (hf : KindFix w) (hR : ReadsN w v l) (hn : l.length ≤ 1000000) :
    Calls Tryd.prog 11 #[v] w fun e w' => UsesIs l e ∧ Below w.heap.size w w' := by
  have C := Lib.hid (kindsOf_any v l w hf hR hn)
  have HR := Lib.hid hR
  obtain ⟨ad, cap, rfl⟩ := hR.shape
  clear hR hf
  unfold UsesIs
  obtain ⟨is, hs⟩ : ∃ is, (ofV l).1 = is := ⟨_, rfl⟩
  obtain ⟨at_, ha⟩ : ∃ at_, (ofV l).2.1 = at_ := ⟨_, rfl⟩
  rw [hs, ha] at C
  by_cases h0 : (ofV l).2.2 = 0
  · have hu : ∀ k, useE k l = hasK k l := fun k => by unfold useE; rw [if_pos h0]
    rw [hu, hu, hu, h0]
    rw [h0] at C
    clear hu h0 hs ha
    go_enter Tryd.func11, Tryd.ntmps11
    go_wp2_with fail
    refine C.out.mono ?_
    rintro e w1 ⟨rfl, hb⟩
    have HB := Lib.hid hb
    clear hb
    go_wp2_with fail
    go_loopg [2, 3, 4, 22] l.length (fun g s2 s3 s4 s22 wx => ∃ i : Nat, ∃ K1 K2 K3 : Bool, i + g = l.length ∧ s22 = .int .i64 i ∧ s2 = .bool K1 ∧ s3 = .bool K2 ∧ s4 = .bool K3 ∧ Hid (hasK 2 (l.take i) = K1 ∧ hasK 3 (l.take i) = K2 ∧ hasK 4 (l.take i) = K3) ∧ Hid (Below w.heap.size w wx))
    case atStart => exact ⟨0, false, false, false, by omega, rfl, rfl, rfl, rfl, Lib.hid ⟨rfl, rfl, rfl⟩, HB⟩
    case round =>
      obtain ⟨i, K1, K2, K3, hig, rfl, rfl, rfl, rfl, HK, HB⟩ := hrel
      cases gk with
      | zero =>
        obtain rfl : i = l.length := by omega
        have hk := HK.out
        rw [List.take_length] at hk
        have HE := Lib.hid hk
        clear hig hk
        go_wp2_with fail
        (try simp only [Exit.inBlock, Exit.then]); refine bodyPost_ret (results_tmp4 rfl _ _ _) rfl ?_
        exact ⟨by rw [HE.out.1, HE.out.2.1, HE.out.2.2]; rfl, HB.out⟩
      | succ g =>
        have hlt : i < l.length := by omega
        have n2 := has_next 2 hlt
        have n3 := has_next 3 hlt
        have n4 := has_next 4 hlt
        rw [HK.out.1] at n2
        rw [HK.out.2.1] at n3
        rw [HK.out.2.2] at n4
        obtain ⟨bb, o, cap', hv, hbw, c0, c1, c2, c3, c4⟩ := (HR.out.below HB.out).nd i hlt
        cases hv
        obtain ⟨x, hx⟩ : ∃ x, l[i] = x := ⟨_, rfl⟩
        rw [hx] at c0 c1 c2 c3 c4 n2 n3 n4
        obtain ⟨kd, hkd⟩ : ∃ kd, x.kind = kd := ⟨_, rfl⟩
        rw [hkd] at c0 n2 n3 n4
        obtain ⟨p2, hp2⟩ : ∃ p : Bool, (kd == 2) = p := ⟨_, rfl⟩
        obtain ⟨p3, hp3⟩ : ∃ p : Bool, (kd == 3) = p := ⟨_, rfl⟩
        obtain ⟨p4, hp4⟩ : ∃ p : Bool, (kd == 4) = p := ⟨_, rfl⟩
        rw [hp2] at n2
        rw [hp3] at n3
        rw [hp4] at n4
        have HN := Lib.hid (And.intro n2 (And.intro n3 n4))
        clear hx hkd n2 n3 n4
        cases K1 <;> cases K2 <;> cases K3 <;>
        · go_wp2_with fail
          go_roundg g
          case measure => omega
          case rel => exact ⟨i + 1, _, _, _, by omega, by go_num, rfl, rfl, rfl, Lib.hid (by simpa using HN.out), Lib.hid (HB.out.alloc HB.out.size _)⟩
  · have hu : ∀ k, useE k l = false := fun k => by unfold useE; rw [if_neg h0]
    rw [hu, hu, hu]
    obtain ⟨e0, he⟩ : ∃ e0, (ofV l).2.2 = e0 := ⟨_, rfl⟩
    rw [he] at C h0 ⊢
    have q : (e0 != 0) = true := by rw [bne_iff_ne]; exact h0
    clear hu h0 ha he hs
    go_enter Tryd.func11, Tryd.ntmps11
    go_wp2_with fail
    refine C.out.mono ?_
    rintro e w1 ⟨rfl, hb⟩
    have HB := Lib.hid hb
    clear hb
    go_wp2_with fail
    (try simp only [Exit.inBlock, Exit.then]); refine bodyPost_ret (results_tmp4 rfl _ _ _) rfl ?_
    exact ⟨rfl, HB.out⟩
set_option maxRecDepth 100000 in
set_option maxHeartbeats 1000000 in
theorem refHas_any (v : Value) (l : List Nd) (k : Int) (w : World) (hR : ReadsN w v l) (hn : l.length ≤ 1000000) :
    Calls Tryd.prog 33 #[v, .int .u8 k] w fun e w' => e = .returned (.bool (hasK k l)) ∧ Below w.heap.size w w' := by
  have HR := Lib.hid hR
  obtain ⟨ad, cap, rfl⟩ := hR.shape
  have HB := Lib.hid (Below.refl w.heap.size w)
  clear hR
  go_enter Tryd.func33, Tryd.ntmps33
  go_wp2_with fail
  go_loopg [5] l.length (fun g s5 wx => ∃ i : Nat, i + g = l.length ∧ s5 = .int .i64 i ∧ Hid (hasK k (l.take i) = false) ∧ Hid (Below w.heap.size w wx))
  case atStart => exact ⟨0, by omega, rfl, Lib.hid rfl, HB⟩
  case round =>
    obtain ⟨i, hig, rfl, HK, HB⟩ := hrel
    cases gk with
    | zero =>
      obtain rfl : i = l.length := by omega
      have hk := HK.out
      rw [List.take_length] at hk
      have HE := Lib.hid hk
      clear hig hk
      go_wp2_with fail
      go_ret
      exact ⟨by rw [HE.out]; rfl, HB.out⟩
    | succ g =>
      have hlt : i < l.length := by omega
      have hnx := has_next k hlt
      have hfd := @has_found k l i hlt
      rw [HK.out] at hnx
      obtain ⟨bb, o, cap', hv, hbw, c0, c1, c2, c3, c4⟩ := (HR.out.below HB.out).nd i hlt
      cases hv
      obtain ⟨x, hx⟩ : ∃ x, l[i] = x := ⟨_, rfl⟩
      rw [hx] at c0 c1 c2 c3 c4 hnx hfd
      obtain ⟨kd, hkd⟩ : ∃ kd, x.kind = kd := ⟨_, rfl⟩
      rw [hkd] at c0 hnx hfd
      clear hx hkd c1 c2 c3 c4
      cases hq : (kd == k)
      · rw [hq] at hnx
        have HN := Lib.hid hnx
        clear hnx hfd
        go_wp2_with fail
        go_roundg g
        case measure => omega
        case rel => exact ⟨i + 1, by omega, by go_num, Lib.hid (by simpa using HN.out), HB⟩
      · have HF := Lib.hid (hfd hq)
        clear hnx hfd
        go_wp2_with fail
        go_ret
        exact ⟨by rw [HF.out]; rfl, HB.out⟩
set_option maxRecDepth 100000 in
set_option maxHeartbeats 1000000 in
theorem refUses_any (v : Value) (l : List Nd) (w : World) (hR : ReadsN w v l) (hn : l.length ≤ 1000000) :
    Calls Tryd.prog 21 #[v] w fun e w' => UsesIs l e ∧ Below w.heap.size w w' := by
  have C := Lib.hid (refOf_any v l w hR hn)
  have HH := Lib.hid (fun (k : Int) (W : World) (h : Below w.heap.size w W) => refHas_any v l k W (hR.below h) hn)
  obtain ⟨ad, cap, rfl⟩ := hR.shape
  clear hR
  unfold UsesIs
  obtain ⟨is, hs⟩ : ∃ is, (ofV l).1 = is := ⟨_, rfl⟩
  obtain ⟨at_, ha⟩ : ∃ at_, (ofV l).2.1 = at_ := ⟨_, rfl⟩
  rw [hs, ha] at C
  by_cases h0 : (ofV l).2.2 = 0
  · have hu : ∀ k, useE k l = hasK k l := fun k => by unfold useE; rw [if_pos h0]
    rw [hu, hu, hu, h0]
    rw [h0] at C
    clear hu h0 hs ha
    go_enter Tryd.func21, Tryd.ntmps21
    go_wp2_with fail
    refine C.out.mono ?_
    rintro e w1 ⟨rfl, hb⟩
    have HB := Lib.hid hb
    clear hb
    go_wp2_with fail
    refine (HH.out _ _ HB.out).mono ?_
    rintro e w2 ⟨rfl, hb⟩
    have HB2 := Lib.hid (below_then HB.out hb)
    clear hb
    go_wp2_with fail
    refine (HH.out _ _ HB2.out).mono ?_
    rintro e w3 ⟨rfl, hb⟩
    have HB3 := Lib.hid (below_then HB2.out hb)
    clear hb
    go_wp2_with fail
    refine (HH.out _ _ HB3.out).mono ?_
    rintro e w4 ⟨rfl, hb⟩
    have HB4 := Lib.hid (below_then HB3.out hb)
    clear hb
    go_wp2_with fail
    (try simp only [Exit.inBlock, Exit.then]); refine bodyPost_ret (results_tmp4 rfl _ _ _) rfl ?_
    exact ⟨rfl, HB4.out⟩
  · have hu : ∀ k, useE k l = false := fun k => by unfold useE; rw [if_neg h0]
    rw [hu, hu, hu]
    obtain ⟨e0, he⟩ : ∃ e0, (ofV l).2.2 = e0 := ⟨_, rfl⟩
    rw [he] at C h0 ⊢
    have q : (e0 != 0) = true := by rw [bne_iff_ne]; exact h0
    clear hu h0 ha he hs
    go_enter Tryd.func21, Tryd.ntmps21
    go_wp2_with fail
    refine C.out.mono ?_
    rintro e w1 ⟨rfl, hb⟩
    have HB := Lib.hid hb
    clear hb
    go_wp2_with fail
    (try simp only [Exit.inBlock, Exit.then]); refine bodyPost_ret (results_tmp4 rfl _ _ _) rfl ?_
    exact ⟨rfl, HB.out⟩
end Go.Proofs.YtflmpjejlkhpcaaDoor.Nodes

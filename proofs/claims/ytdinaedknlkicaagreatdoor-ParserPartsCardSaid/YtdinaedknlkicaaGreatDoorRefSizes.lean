/-
  Contract of the reference of layer 4: Sizes.
-/
import Derived.Test.YtdinaedknlkicaaGreatDoorRefNode
import Derived.Laws.OwnMore
import Derived.Maps.AppendAt
import Derived.Deep.RegionWith
import Derived.Outline
namespace Go.Proofs.YtdinaedknlkicaaGreatDoor.Nodes
open Go.ChangeShapes Go.WideShapes Go.ChangeAt Go.RowKit

def accA (r : Acc) : List Value := r.map fun p => .int .i64 (p.1 : Nat)
def accB (r : Acc) : List Value := r.map fun p => .int .i64 (p.2 : Nat)
theorem accA_add (r : Acc) (p : Nat × Nat) : accA (r ++ [p]) = accA r ++ [.int .i64 (p.1 : Nat)] := by simp [accA]
theorem accB_add (r : Acc) (p : Nat × Nat) : accB (r ++ [p]) = accB r ++ [.int .i64 (p.2 : Nat)] := by simp [accB]
def exprB (l : List Nd) (r : Acc) : Bool := decide (0 < l.length ∧ sz r (l.length - 1) = l.length)
theorem info_int : (Tryz.prog.info? 3).map (fun i => (i.zero, i.size, i.bytes)) = some (some (.int .i64 0), 1, 8) := by kernel_rfl
/-- A place of a row of numbers of the call's own. -/
theorem own_num {w : World} {base n : Nat} {v : Value} {xs : List Value} (h : w.ownsRow base 3 1 v n xs) {j : Nat} (hj : j < n) : ∃ g cap, v = .slice (some ⟨g, 0, none⟩) n cap ∧ w.cell? ⟨g, j, none⟩ = xs[j]? := by
  rcases h.2 with ⟨rfl, h0⟩ | ⟨g, cap, cur, rfl, _⟩
  · omega
  · exact ⟨g, cap, rfl, h.cellAt j (by omega)⟩
theorem accA_get {r : Acc} {j : Nat} (h : j < r.length) : (accA r)[j]? = some (.int .i64 (sz r j : Nat)) := by
  unfold accA; rw [List.getElem?_map, at_eq h]; rfl
theorem accB_get {r : Acc} {j : Nat} (h : j < r.length) : (accB r)[j]? = some (.int .i64 (dp r j : Nat)) := by
  unfold accB; rw [List.getElem?_map, at_eq h]; rfl
def SizesEnds (l : List Nd) (w : World) (e : Ending) (w' : World) : Prop :=
  (run [] l = none ∧ e = .returned (.tuple #[.slice none 0 0, .slice none 0 0, .bool false]) ∧ Below w.heap.size w w') ∨
  ∃ r vs vd, run [] l = some r ∧ e = .returned (.tuple #[vs, vd, .bool (exprB l r)]) ∧ w'.ownsRow w.heap.size 3 1 vs l.length (accA r) ∧ w'.ownsRow w.heap.size 3 1 vd l.length (accB r) ∧ Below w.heap.size w w'
theorem own_shape {w : World} {base n : Nat} {e : TypeId} {size : Nat} {v : Value} {xs : List Value} (h : w.ownsRow base e size v n xs) : ∃ ad cap, v = .slice ad n cap := by
  rcases h.2 with ⟨rfl, rfl⟩ | ⟨g, cap, _, rfl, _⟩
  · exact ⟨_, _, rfl⟩
  · exact ⟨_, _, rfl⟩

theorem run_stop {l : List Nd} {r : Acc} {i : Nat} (hi : i < l.length) (h : run [] (l.take i) = some r) (hs : step r l[i] = none) : run [] l = none := by
  have e : l = l.take i ++ l[i] :: l.drop (i + 1) := by rw [← List.drop_eq_getElem_cons hi, List.take_append_drop]
  rw [e, run_append, h]
  show (step r l[i]).bind _ = none
  rw [hs]; rfl
theorem run_next {l : List Nd} {r : Acc} {i : Nat} {p : Nat × Nat} (hi : i < l.length) (h : run [] (l.take i) = some r) (hs : step r l[i] = some p) : run [] (l.take (i + 1)) = some (r ++ [p]) := by
  rw [List.take_succ_eq_append_getElem hi, run_append, h]
  show run r [l[i]] = _
  rw [run_one, hs]; rfl
theorem run_len {l : List Nd} {r : Acc} {i : Nat} (hi : i ≤ l.length) (h : run [] (l.take i) = some r) : r.length = i := by
  have := run_length _ _ _ h
  rw [List.length_take, Nat.min_eq_left hi] at this
  simpa using this
/-- Two rows in two blocks. -/
def Apart (s d : Value) : Prop := ∀ k, s.ownBlock = some k → d.ownBlock ≠ some k
theorem Apart.kept {s d : Value} (h : Apart s d) : d.ownBlock = none ∨ d.ownBlock ≠ s.ownBlock := by
  cases hd : d.ownBlock with
  | none => exact .inl rfl
  | some k => exact .inr fun e => h k e.symm hd
theorem Apart.symm {s d : Value} (h : Apart s d) : Apart d s := fun k hd hs => h k hs hd
/-- Behind an append to the one the other is as it was, and they lie apart still. -/
theorem apart_grown {w w' : World} {base n : Nat} {e : TypeId} {size : Nat} {s s' d : Value} {xs : List Value} (h : Apart s d) (hd : w.ownsRow base e size d n xs) (hg : w.grownBy w' s.ownBlock) {m : Nat} (hm : w.heap.size ≤ m) (ha : s'.ownBlock = s.ownBlock ∨ s'.ownBlock = some m) :
    w'.ownsRow base e size d n xs ∧ Apart s' d := by
  refine ⟨hd.kept hg h.kept, fun k hk hdk => ?_⟩
  rcases ha with ha | ha
  · exact h k (ha ▸ hk) hdk
  · have := (hd.lt k hdk).2
    rw [ha] at hk
    cases hk
    omega
theorem own_below {w w' : World} {base n : Nat} {e : TypeId} {size : Nat} {v : Value} {xs : List Value} (h : w.ownsRow base e size v n xs) (hb : Below w.heap.size w w') : w'.ownsRow base e size v n xs :=
  h.kept (row := none) ⟨hb.os, hb.tape, hb.output, hb.size, fun k hk _ => hb.block k hk⟩ (Classical.em _)
theorem grown_below {w0 w w1 w2 : World} {n : Nat} {e : TypeId} {size : Nat} {v : Value} {xs : List Value} (h : w.ownsRow w0.heap.size e size v n xs) (hb : Below w0.heap.size w0 w1) (hg : w1.grownBy w2 v.ownBlock) : Below w0.heap.size w0 w2 :=
  hb.grown hg hb.size (fun k hk => (h.lt k hk).1)

set_option maxRecDepth 100000 in
set_option maxHeartbeats 1000000 in
theorem refSizes_any (v : Value) (l : List Nd) (w : World) (hR : ReadsN w v l) (hn : l.length ≤ 1000000) : Calls Tryz.prog 59 #[v] w (SizesEnds l w) := by
  obtain ⟨i0, hi, hz0, hz1, hz2⟩ := info_parts info_int
  obtain ⟨ad, cap, rfl⟩ := hR.shape
  have HR := Lib.hid hR
  have HI := Lib.hid (And.intro hi (And.intro hz0 (And.intro hz1 hz2)))
  clear hi hz0 hz1 hz2 hR
  go_enter Tryz.func59, Tryz.ntmps59
  go_wp2_with fail
  go_loopg [5, 6, 7] l.length (fun g s5 s6 s7 wx => ∃ (i : Nat) (r : Acc), i + g = l.length ∧ s7 = .int .i64 i ∧ Hid (run [] (l.take i) = some r) ∧ Hid (wx.ownsRow w.heap.size 3 1 s5 i (accA r)) ∧ Hid (wx.ownsRow w.heap.size 3 1 s6 i (accB r)) ∧ Hid (Apart s5 s6) ∧ Hid (Below w.heap.size w wx))
  case atStart => exact ⟨0, [], by omega, rfl, Lib.hid rfl, Lib.hid (World.ownsRow_nil _ _ _ _), Lib.hid (World.ownsRow_nil _ _ _ _), Lib.hid (fun k h => by simp [Value.ownBlock] at h), Lib.hid (Below.refl _ _)⟩
  case round =>
    obtain ⟨i, r, hig, rfl, HRun, HS, HD, HA, HB⟩ := hrel
    obtain ⟨adS, capS, rfl⟩ := own_shape HS.out
    obtain ⟨adD, capD, rfl⟩ := own_shape HD.out
    cases gk with
    | zero =>
      obtain rfl : i = l.length := by omega
      have hrun := HRun.out
      rw [List.take_length] at hrun
      have hlen := (run_good.1 hrun).1
      have HRN := Lib.hid hrun
      by_cases h0 : l.length = 0
      · obtain rfl : l = [] := List.length_eq_zero_iff.1 h0
        have HV : Hid (exprB [] r = false) := Lib.hid (decide_eq_false (by simp))
        clear hrun hlen hig h0
        go_wp2_with fail
        go_quiet (fail)
        go_wp2_with fail
        go_ret3
        exact .inr ⟨r, .slice adS 0 capS, .slice adD 0 capD, HRN.out, by rw [HV.out]; rfl, own_below HS.out (below_drewN (Below.refl _ _) _), own_below HD.out (below_drewN (Below.refl _ _) _), below_drewN HB.out _⟩
      · obtain ⟨m, hm⟩ : ∃ m, l.length - 1 = m := ⟨_, rfl⟩
        obtain ⟨s, hs⟩ : ∃ s, sz r m = s := ⟨_, rfl⟩
        obtain ⟨gS, cS, e1, eS⟩ := own_num HS.out (j := m) (by omega)
        cases e1
        rw [accA_get (by omega), hs] at eS
        have h0' : (0 : Int) < l.length := by omega
        have hm1 : (l.length : Int) - 1 = m := by omega
        have hm2 : (m : Int) < l.length := by omega
        have HV : exprB l r = decide (s = l.length) := by
          unfold exprB
          rw [hm, hs]
          exact decide_eq_decide.2 ⟨fun h => h.2, fun h => ⟨by omega, h⟩⟩
        cases hq : ((s : Int) == l.length)
        · have HV2 : Hid (exprB l r = false) := Lib.hid (by rw [HV]; rw [beq_eq_false_iff_ne] at hq; exact decide_eq_false (by omega))
          have hd : decide (0 < l.length) = true := decide_eq_true (by omega)
          have hd2 : decide ((0 : Int) < l.length) = true := decide_eq_true (by omega)
          clear hrun hlen hig HV hs hm h0
          go_wp2_with fail
          go_quiet (fail)
          go_wp2_with fail
          go_ret3
          exact .inr ⟨r, _, _, HRN.out, by rw [HV2.out]; rfl, own_below HS.out (below_drewN (Below.refl _ _) _), own_below HD.out (below_drewN (Below.refl _ _) _), below_drewN HB.out _⟩
        · have HV2 : Hid (exprB l r = true) := Lib.hid (by rw [HV]; rw [beq_iff_eq] at hq; exact decide_eq_true (by omega))
          have hd : decide (0 < l.length) = true := decide_eq_true (by omega)
          have hd2 : decide ((0 : Int) < l.length) = true := decide_eq_true (by omega)
          clear hrun hlen hig HV hs hm h0
          go_wp2_with fail
          go_quiet (fail)
          go_wp2_with fail
          go_ret3
          exact .inr ⟨r, _, _, HRN.out, by rw [HV2.out]; rfl, own_below HS.out (below_drewN (Below.refl _ _) _), own_below HD.out (below_drewN (Below.refl _ _) _), below_drewN HB.out _⟩
    | succ g =>
      have hlt : i < l.length := by omega
      obtain ⟨b, o, cap', hv, hb, hnd⟩ := (HR.out.below HB.out).nd i hlt
      cases hv
      obtain ⟨x, hx⟩ : ∃ x, l[i] = x := ⟨_, rfl⟩
      have hrun := HRun.out
      have hlen := run_len (by omega) hrun
      have hstop : step r x = none → run [] l = none := fun h => run_stop hlt hrun (by rw [hx]; exact h)
      have hnext : ∀ p, step r x = some p → run [] (l.take (i + 1)) = some (r ++ [p]) := fun p h => run_next hlt hrun (by rw [hx]; exact h)
      have hbound := good_sz hrun
      rw [hx] at hnd
      have CN := Lib.hid (refCount_any x.kind)
      have RT := Lib.hid (fun a b => refRight_any x a b)
      unfold ndVal at RT
      obtain ⟨xk, xn, xa, xb, xp⟩ := x
      simp only at RT CN
      obtain ⟨c0, c1, c2, c3, c4⟩ := hnd
      simp only at c0 c1 c2 c3 c4
      rcases arity_cases xk with h0 | h0 | h0
      · have hst := step0 (acc := r) (x := ⟨xk, xn, xa, xb, xp⟩) h0
        have HST := Lib.hid (And.intro hst (And.intro hstop (And.intro hnext hlen)))
        rw [h0] at CN
        clear hx hrun hlen hstop hnext hbound hst h0
        go_wp2_with fail
        refine (CN.out _).mono ?_
        rintro e w2 ⟨rfl, rfl⟩
        go_wp2_with fail
        refine (RT.out 0 0 _).mono ?_
        rintro e w2 ⟨rfl, hb2⟩
        have HB2 := Lib.hid (below_then HB.out hb2)
        have HS2 := Lib.hid (own_below HS.out hb2)
        have HD2 := Lib.hid (own_below HD.out hb2)
        clear hb2 c0 c1 c2 c3 c4
        cases hq : rightB ⟨xk, xn, xa, xb, xp⟩ 0 0
        · have HN : Hid (run [] l = none) := Lib.hid (HST.out.2.1 (by rw [HST.out.1, if_neg (by rw [hq]; simp)]))
          go_wp2_with fail
          go_ret3
          exact .inl ⟨HN.out, rfl, HB2.out⟩
        · have HN := Lib.hid (HST.out.2.2.1 (1, 1) (by rw [HST.out.1, if_pos hq]))
          have hil : i ≤ 1000000 := by omega
          go_wp2_with (at_builtin; refine wpList_append_own_at _ rfl _ _ 24 rfl w.heap.size 3 i0 (.int .i64 0) 1 8 Tryz.underlying24 HI.out.1 HI.out.2.1 HI.out.2.2.1 HI.out.2.2.2 rfl (by decide) _ _ _ rfl (HS2.out.alloc _) ⟨w2.heap.size, 0, none⟩ 1 1 [.int .i64 (1 : Nat)] rfl rfl ?c1 ?c2 ?c3 ?c4 ?c5 ?_)
          case c1 =>
            intro j u hj
            match j, hj with
            | 0, hj => simp at hj; subst hj; simp [go_sem, Addr.add]
          case c2 => intro u hu; simp at hu; subst hu; rfl
          case c3 => unfold maxLen; omega
          case c4 => omega
          case c5 => have := HB2.out.size; simp; omega
          intro v1 w3 hown hgrow _ hat
          obtain ⟨hd3, ha3⟩ := apart_grown HA.out (HD2.out.alloc _) hgrow (by simp) hat
          have HS3 := Lib.hid hown
          have HD3 := Lib.hid hd3
          have HA3 := Lib.hid ha3
          have HB3 := Lib.hid (grown_below HS2.out (HB2.out.alloc HB2.out.size _) hgrow)
          clear hown hgrow hat hd3 ha3
          go_wp2_with (at_builtin; refine wpList_append_own_at _ rfl _ _ 24 rfl w.heap.size 3 i0 (.int .i64 0) 1 8 Tryz.underlying24 HI.out.1 HI.out.2.1 HI.out.2.2.1 HI.out.2.2.2 rfl (by decide) _ _ _ rfl (HD3.out.alloc _) ⟨w3.heap.size, 0, none⟩ 1 1 [.int .i64 (1 : Nat)] rfl rfl ?c1 ?c2 ?c3 ?c4 ?c5 ?_)
          case c1 =>
            intro j u hj
            match j, hj with
            | 0, hj => simp at hj; subst hj; simp [go_sem, Addr.add]
          case c2 => intro u hu; simp at hu; subst hu; rfl
          case c3 => unfold maxLen; omega
          case c4 => omega
          case c5 => have := HB3.out.size; simp; omega
          intro v2 w4 hown hgrow _ hat
          obtain ⟨hs4, ha4⟩ := apart_grown HA3.out.symm (HS3.out.alloc _) hgrow (by simp) hat
          have HS4 := Lib.hid hs4
          have HD4 := Lib.hid hown
          have HA4 := Lib.hid ha4.symm
          have HB4 := Lib.hid (grown_below HD3.out (HB3.out.alloc HB3.out.size _) hgrow)
          clear hown hgrow hat hs4 ha4
          have HS5 : Hid (w4.ownsRow w.heap.size 3 1 v1 (i + 1) (accA (r ++ [(1, 1)]))) := Lib.hid (by rw [accA_add]; exact HS4.out)
          have HD5 : Hid (w4.ownsRow w.heap.size 3 1 v2 (i + 1) (accB (r ++ [(1, 1)]))) := Lib.hid (by rw [accB_add]; exact HD4.out)
          clear HS4 HD4
          go_wp2_with fail
          go_roundg g
          case measure => omega
          case rel => exact ⟨i + 1, r ++ [(1, 1)], by omega, by go_num, HN, HS5, HD5, HA4, HB4⟩
      · cases i with
        | zero =>
          have hst : step r ⟨xk, xn, xa, xb, xp⟩ = none := by rw [step1 h0, hlen, if_pos rfl]
          have HN := Lib.hid (hstop hst)
          rw [h0] at CN
          clear hx hrun hlen hstop hnext hbound hst h0
          simp only [Nat.zero_mul, Nat.add_zero] at c0 c1 c2 c3 c4
          go_wp2_with fail
          refine (CN.out _).mono ?_
          rintro e w2 ⟨rfl, rfl⟩
          go_wp2_with fail
          go_ret3
          exact .inl ⟨HN.out, rfl, HB.out⟩
        | succ m =>
          obtain ⟨sm, hsm⟩ : ∃ s, sz r m = s := ⟨_, rfl⟩
          obtain ⟨dm, hdm⟩ : ∃ d, dp r m = d := ⟨_, rfl⟩
          have hb1 := hbound m (by rw [List.length_take]; omega)
          rw [hsm, hdm] at hb1
          obtain ⟨b1, b2, b3, b4⟩ := hb1
          have hst : step r ⟨xk, xn, xa, xb, xp⟩ = if rightB ⟨xk, xn, xa, xb, xp⟩ (m : Int) 0 then some (1 + sm, 1 + dm) else none := by
            rw [step1 h0, hlen, if_neg (by omega), Nat.add_sub_cancel, hsm, hdm]
          have HST := Lib.hid (And.intro hst (And.intro hstop (And.intro hnext hlen)))
          obtain ⟨gS, cS, e1, eS⟩ := own_num HS.out (j := m) (by omega)
          obtain ⟨gD, cD, e2, eD⟩ := own_num HD.out (j := m) (by omega)
          cases e1
          cases e2
          rw [accA_get (by omega), hsm] at eS
          rw [accB_get (by omega), hdm] at eD
          rw [h0] at CN
          clear hx hrun hlen hstop hnext hbound hst h0 hsm hdm
          go_wp2_with fail
          refine (CN.out _).mono ?_
          rintro e w2 ⟨rfl, rfl⟩
          go_wp2_with fail
          refine (RT.out (m : Int) 0 _).mono ?_
          rintro e w2 ⟨rfl, hb2⟩
          have HB2 := Lib.hid (below_then HB.out hb2)
          have HS2 := Lib.hid (own_below HS.out hb2)
          have HD2 := Lib.hid (own_below HD.out hb2)
          clear hb2 c0 c1 c2 c3 c4
          cases hq : rightB ⟨xk, xn, xa, xb, xp⟩ (m : Int) 0
          · have HN : Hid (run [] l = none) := Lib.hid (HST.out.2.1 (by rw [HST.out.1, if_neg (by rw [hq]; simp)]))
            go_wp2_with fail
            go_ret3
            exact .inl ⟨HN.out, rfl, HB2.out⟩
          · have HN := Lib.hid (HST.out.2.2.1 (1 + sm, 1 + dm) (by rw [HST.out.1, if_pos hq]))
            have hil : (m + 1) ≤ 1000000 := by omega
            go_wp2_with (at_builtin; refine wpList_append_own_at _ rfl _ _ 24 rfl w.heap.size 3 i0 (.int .i64 0) 1 8 Tryz.underlying24 HI.out.1 HI.out.2.1 HI.out.2.2.1 HI.out.2.2.2 rfl (by decide) _ _ _ rfl (HS2.out.alloc _) ⟨w2.heap.size, 0, none⟩ 1 1 [.int .i64 (1 + sm : Nat)] rfl rfl ?c1 ?c2 ?c3 ?c4 ?c5 ?_)
            case c1 =>
              intro j u hj
              match j, hj with
              | 0, hj => simp at hj; subst hj; simp [go_sem, Addr.add]
            case c2 => intro u hu; simp at hu; subst hu; rfl
            case c3 => unfold maxLen; omega
            case c4 => omega
            case c5 => have := HB2.out.size; simp; omega
            intro v1 w3 hown hgrow _ hat
            obtain ⟨hd3, ha3⟩ := apart_grown HA.out (HD2.out.alloc _) hgrow (by simp) hat
            have HS3 := Lib.hid hown
            have HD3 := Lib.hid hd3
            have HA3 := Lib.hid ha3
            have HB3 := Lib.hid (grown_below HS2.out (HB2.out.alloc HB2.out.size _) hgrow)
            clear hown hgrow hat hd3 ha3
            go_wp2_with (at_builtin; refine wpList_append_own_at _ rfl _ _ 24 rfl w.heap.size 3 i0 (.int .i64 0) 1 8 Tryz.underlying24 HI.out.1 HI.out.2.1 HI.out.2.2.1 HI.out.2.2.2 rfl (by decide) _ _ _ rfl (HD3.out.alloc _) ⟨w3.heap.size, 0, none⟩ 1 1 [.int .i64 (1 + dm : Nat)] rfl rfl ?c1 ?c2 ?c3 ?c4 ?c5 ?_)
            case c1 =>
              intro j u hj
              match j, hj with
              | 0, hj => simp at hj; subst hj; simp [go_sem, Addr.add]
            case c2 => intro u hu; simp at hu; subst hu; rfl
            case c3 => unfold maxLen; omega
            case c4 => omega
            case c5 => have := HB3.out.size; simp; omega
            intro v2 w4 hown hgrow _ hat
            obtain ⟨hs4, ha4⟩ := apart_grown HA3.out.symm (HS3.out.alloc _) hgrow (by simp) hat
            have HS4 := Lib.hid hs4
            have HD4 := Lib.hid hown
            have HA4 := Lib.hid ha4.symm
            have HB4 := Lib.hid (grown_below HD3.out (HB3.out.alloc HB3.out.size _) hgrow)
            clear hown hgrow hat hs4 ha4
            have HS5 : Hid (w4.ownsRow w.heap.size 3 1 v1 ((m + 1) + 1) (accA (r ++ [(1 + sm, 1 + dm)]))) := Lib.hid (by rw [accA_add]; exact HS4.out)
            have HD5 : Hid (w4.ownsRow w.heap.size 3 1 v2 ((m + 1) + 1) (accB (r ++ [(1 + sm, 1 + dm)]))) := Lib.hid (by rw [accB_add]; exact HD4.out)
            clear HS4 HD4
            go_wp2_with fail
            go_roundg g
            case measure => omega
            case rel => exact ⟨(m + 1) + 1, r ++ [(1 + sm, 1 + dm)], by omega, by go_num, HN, HS5, HD5, HA4, HB4⟩
      · cases i with
        | zero =>
          have hst : step r ⟨xk, xn, xa, xb, xp⟩ = none := by rw [step2 h0, hlen, if_pos rfl]
          have HN := Lib.hid (hstop hst)
          rw [h0] at CN
          clear hx hrun hlen hstop hnext hbound hst h0
          simp only [Nat.zero_mul, Nat.add_zero] at c0 c1 c2 c3 c4
          go_wp2_with fail
          refine (CN.out _).mono ?_
          rintro e w2 ⟨rfl, rfl⟩
          go_wp2_with fail
          go_ret3
          exact .inl ⟨HN.out, rfl, HB.out⟩
        | succ m =>
          obtain ⟨sm, hsm⟩ : ∃ s, sz r m = s := ⟨_, rfl⟩
          obtain ⟨dm, hdm⟩ : ∃ d, dp r m = d := ⟨_, rfl⟩
          have hb1 := hbound m (by rw [List.length_take]; omega)
          rw [hsm, hdm] at hb1
          obtain ⟨b1, b2, b3, b4⟩ := hb1
          obtain ⟨gS, cS, e1, eS⟩ := own_num HS.out (j := m) (by omega)
          obtain ⟨gD, cD, e2, eD⟩ := own_num HD.out (j := m) (by omega)
          cases e1
          cases e2
          rw [accA_get (by omega), hsm] at eS
          rw [accB_get (by omega), hdm] at eD
          by_cases hneg : m < sm
          · have hst : step r ⟨xk, xn, xa, xb, xp⟩ = none := by rw [step2 h0, hlen, if_neg (by omega), Nat.add_sub_cancel, hsm, if_pos hneg]
            have HN := Lib.hid (hstop hst)
            rw [h0] at CN
            clear hx hrun hlen hstop hnext hbound hst h0 hsm hdm
            go_wp2_with fail
            refine (CN.out _).mono ?_
            rintro e w2 ⟨rfl, rfl⟩
            go_wp2_with fail
            go_ret3
            exact .inl ⟨HN.out, rfl, HB.out⟩
          obtain ⟨f, hf⟩ : ∃ f, m - sm = f := ⟨_, rfl⟩
          obtain ⟨sf, hsf⟩ : ∃ s, sz r f = s := ⟨_, rfl⟩
          obtain ⟨df, hdf⟩ : ∃ d, dp r f = d := ⟨_, rfl⟩
          have hb2 := hbound f (by rw [List.length_take]; omega)
          rw [hsf, hdf] at hb2
          obtain ⟨q1, q2, q3, q4⟩ := hb2
          by_cases hmx : dm < df
          · have hst : step r ⟨xk, xn, xa, xb, xp⟩ = if rightB ⟨xk, xn, xa, xb, xp⟩ (f : Int) (m : Int) then some (1 + sm + sf, 1 + df) else none := by
              rw [step2 h0, hlen, if_neg (by omega), Nat.add_sub_cancel, hsm, hdm, if_neg hneg, hf, hsf, hdf, show max (1 + dm) (1 + df) = 1 + df by omega]
            have HST := Lib.hid (And.intro hst (And.intro hstop (And.intro hnext hlen)))
            obtain ⟨_, _, e1, fS⟩ := own_num HS.out (j := f) (by omega)
            obtain ⟨_, _, e2, fD⟩ := own_num HD.out (j := f) (by omega)
            cases e1
            cases e2
            rw [accA_get (by omega), hsf] at fS
            rw [accB_get (by omega), hdf] at fD
            have hfi : (m : Int) - sm = f := by omega
            have hfm : f ≤ m := by omega
            rw [h0] at CN
            clear hx hrun hlen hstop hnext hbound hst h0 hsm hdm hsf hdf hneg hf
            go_wp2_with fail
            refine (CN.out _).mono ?_
            rintro e w2 ⟨rfl, rfl⟩
            go_wp2_with fail
            refine (RT.out (f : Int) (m : Int) _).mono ?_
            rintro e w2 ⟨rfl, hb2⟩
            have HB2 := Lib.hid (below_then HB.out hb2)
            have HS2 := Lib.hid (own_below HS.out hb2)
            have HD2 := Lib.hid (own_below HD.out hb2)
            clear hb2 c0 c1 c2 c3 c4
            cases hq : rightB ⟨xk, xn, xa, xb, xp⟩ (f : Int) (m : Int)
            · have HN : Hid (run [] l = none) := Lib.hid (HST.out.2.1 (by rw [HST.out.1, if_neg (by rw [hq]; simp)]))
              go_wp2_with fail
              go_ret3
              exact .inl ⟨HN.out, rfl, HB2.out⟩
            · have HN := Lib.hid (HST.out.2.2.1 (1 + sm + sf, 1 + df) (by rw [HST.out.1, if_pos hq]))
              have hil : (m + 1) ≤ 1000000 := by omega
              go_wp2_with (at_builtin; refine wpList_append_own_at _ rfl _ _ 24 rfl w.heap.size 3 i0 (.int .i64 0) 1 8 Tryz.underlying24 HI.out.1 HI.out.2.1 HI.out.2.2.1 HI.out.2.2.2 rfl (by decide) _ _ _ rfl (HS2.out.alloc _) ⟨w2.heap.size, 0, none⟩ 1 1 [.int .i64 (1 + sm + sf : Nat)] rfl rfl ?c1 ?c2 ?c3 ?c4 ?c5 ?_)
              case c1 =>
                intro j u hj
                match j, hj with
                | 0, hj => simp at hj; subst hj; simp [go_sem, Addr.add]
              case c2 => intro u hu; simp at hu; subst hu; rfl
              case c3 => unfold maxLen; omega
              case c4 => omega
              case c5 => have := HB2.out.size; simp; omega
              intro v1 w3 hown hgrow _ hat
              obtain ⟨hd3, ha3⟩ := apart_grown HA.out (HD2.out.alloc _) hgrow (by simp) hat
              have HS3 := Lib.hid hown
              have HD3 := Lib.hid hd3
              have HA3 := Lib.hid ha3
              have HB3 := Lib.hid (grown_below HS2.out (HB2.out.alloc HB2.out.size _) hgrow)
              clear hown hgrow hat hd3 ha3
              go_wp2_with (at_builtin; refine wpList_append_own_at _ rfl _ _ 24 rfl w.heap.size 3 i0 (.int .i64 0) 1 8 Tryz.underlying24 HI.out.1 HI.out.2.1 HI.out.2.2.1 HI.out.2.2.2 rfl (by decide) _ _ _ rfl (HD3.out.alloc _) ⟨w3.heap.size, 0, none⟩ 1 1 [.int .i64 (1 + df : Nat)] rfl rfl ?c1 ?c2 ?c3 ?c4 ?c5 ?_)
              case c1 =>
                intro j u hj
                match j, hj with
                | 0, hj => simp at hj; subst hj; simp [go_sem, Addr.add]
              case c2 => intro u hu; simp at hu; subst hu; rfl
              case c3 => unfold maxLen; omega
              case c4 => omega
              case c5 => have := HB3.out.size; simp; omega
              intro v2 w4 hown hgrow _ hat
              obtain ⟨hs4, ha4⟩ := apart_grown HA3.out.symm (HS3.out.alloc _) hgrow (by simp) hat
              have HS4 := Lib.hid hs4
              have HD4 := Lib.hid hown
              have HA4 := Lib.hid ha4.symm
              have HB4 := Lib.hid (grown_below HD3.out (HB3.out.alloc HB3.out.size _) hgrow)
              clear hown hgrow hat hs4 ha4
              have HS5 : Hid (w4.ownsRow w.heap.size 3 1 v1 ((m + 1) + 1) (accA (r ++ [(1 + sm + sf, 1 + df)]))) := Lib.hid (by rw [accA_add]; exact HS4.out)
              have HD5 : Hid (w4.ownsRow w.heap.size 3 1 v2 ((m + 1) + 1) (accB (r ++ [(1 + sm + sf, 1 + df)]))) := Lib.hid (by rw [accB_add]; exact HD4.out)
              clear HS4 HD4
              go_wp2_with fail
              go_roundg g
              case measure => omega
              case rel => exact ⟨(m + 1) + 1, r ++ [(1 + sm + sf, 1 + df)], by omega, by go_num, HN, HS5, HD5, HA4, HB4⟩

          · have hst : step r ⟨xk, xn, xa, xb, xp⟩ = if rightB ⟨xk, xn, xa, xb, xp⟩ (f : Int) (m : Int) then some (1 + sm + sf, 1 + dm) else none := by
              rw [step2 h0, hlen, if_neg (by omega), Nat.add_sub_cancel, hsm, hdm, if_neg hneg, hf, hsf, hdf, show max (1 + dm) (1 + df) = 1 + dm by omega]
            have HST := Lib.hid (And.intro hst (And.intro hstop (And.intro hnext hlen)))
            obtain ⟨_, _, e1, fS⟩ := own_num HS.out (j := f) (by omega)
            obtain ⟨_, _, e2, fD⟩ := own_num HD.out (j := f) (by omega)
            cases e1
            cases e2
            rw [accA_get (by omega), hsf] at fS
            rw [accB_get (by omega), hdf] at fD
            have hfi : (m : Int) - sm = f := by omega
            have hfm : f ≤ m := by omega
            rw [h0] at CN
            clear hx hrun hlen hstop hnext hbound hst h0 hsm hdm hsf hdf hneg hf
            go_wp2_with fail
            refine (CN.out _).mono ?_
            rintro e w2 ⟨rfl, rfl⟩
            go_wp2_with fail
            refine (RT.out (f : Int) (m : Int) _).mono ?_
            rintro e w2 ⟨rfl, hb2⟩
            have HB2 := Lib.hid (below_then HB.out hb2)
            have HS2 := Lib.hid (own_below HS.out hb2)
            have HD2 := Lib.hid (own_below HD.out hb2)
            clear hb2 c0 c1 c2 c3 c4
            cases hq : rightB ⟨xk, xn, xa, xb, xp⟩ (f : Int) (m : Int)
            · have HN : Hid (run [] l = none) := Lib.hid (HST.out.2.1 (by rw [HST.out.1, if_neg (by rw [hq]; simp)]))
              go_wp2_with fail
              go_ret3
              exact .inl ⟨HN.out, rfl, HB2.out⟩
            · have HN := Lib.hid (HST.out.2.2.1 (1 + sm + sf, 1 + dm) (by rw [HST.out.1, if_pos hq]))
              have hil : (m + 1) ≤ 1000000 := by omega
              go_wp2_with (at_builtin; refine wpList_append_own_at _ rfl _ _ 24 rfl w.heap.size 3 i0 (.int .i64 0) 1 8 Tryz.underlying24 HI.out.1 HI.out.2.1 HI.out.2.2.1 HI.out.2.2.2 rfl (by decide) _ _ _ rfl (HS2.out.alloc _) ⟨w2.heap.size, 0, none⟩ 1 1 [.int .i64 (1 + sm + sf : Nat)] rfl rfl ?c1 ?c2 ?c3 ?c4 ?c5 ?_)
              case c1 =>
                intro j u hj
                match j, hj with
                | 0, hj => simp at hj; subst hj; simp [go_sem, Addr.add]
              case c2 => intro u hu; simp at hu; subst hu; rfl
              case c3 => unfold maxLen; omega
              case c4 => omega
              case c5 => have := HB2.out.size; simp; omega
              intro v1 w3 hown hgrow _ hat
              obtain ⟨hd3, ha3⟩ := apart_grown HA.out (HD2.out.alloc _) hgrow (by simp) hat
              have HS3 := Lib.hid hown
              have HD3 := Lib.hid hd3
              have HA3 := Lib.hid ha3
              have HB3 := Lib.hid (grown_below HS2.out (HB2.out.alloc HB2.out.size _) hgrow)
              clear hown hgrow hat hd3 ha3
              go_wp2_with (at_builtin; refine wpList_append_own_at _ rfl _ _ 24 rfl w.heap.size 3 i0 (.int .i64 0) 1 8 Tryz.underlying24 HI.out.1 HI.out.2.1 HI.out.2.2.1 HI.out.2.2.2 rfl (by decide) _ _ _ rfl (HD3.out.alloc _) ⟨w3.heap.size, 0, none⟩ 1 1 [.int .i64 (1 + dm : Nat)] rfl rfl ?c1 ?c2 ?c3 ?c4 ?c5 ?_)
              case c1 =>
                intro j u hj
                match j, hj with
                | 0, hj => simp at hj; subst hj; simp [go_sem, Addr.add]
              case c2 => intro u hu; simp at hu; subst hu; rfl
              case c3 => unfold maxLen; omega
              case c4 => omega
              case c5 => have := HB3.out.size; simp; omega
              intro v2 w4 hown hgrow _ hat
              obtain ⟨hs4, ha4⟩ := apart_grown HA3.out.symm (HS3.out.alloc _) hgrow (by simp) hat
              have HS4 := Lib.hid hs4
              have HD4 := Lib.hid hown
              have HA4 := Lib.hid ha4.symm
              have HB4 := Lib.hid (grown_below HD3.out (HB3.out.alloc HB3.out.size _) hgrow)
              clear hown hgrow hat hs4 ha4
              have HS5 : Hid (w4.ownsRow w.heap.size 3 1 v1 ((m + 1) + 1) (accA (r ++ [(1 + sm + sf, 1 + dm)]))) := Lib.hid (by rw [accA_add]; exact HS4.out)
              have HD5 : Hid (w4.ownsRow w.heap.size 3 1 v2 ((m + 1) + 1) (accB (r ++ [(1 + sm + sf, 1 + dm)]))) := Lib.hid (by rw [accB_add]; exact HD4.out)
              clear HS4 HD4
              go_wp2_with fail
              go_roundg g
              case measure => omega
              case rel => exact ⟨(m + 1) + 1, r ++ [(1 + sm + sf, 1 + dm)], by omega, by go_num, HN, HS5, HD5, HA4, HB4⟩
end Go.Proofs.YtdinaedknlkicaaGreatDoor.Nodes

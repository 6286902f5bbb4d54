/-
  Contracts of package evals at the landed code (layer 7): All, Of.
-/
import Derived.Test.YtflmpjejlkhpcaaDoorEvalValue
import Derived.Test.YtflmpjejlkhpcaaDoorKindCalls
import Derived.Maps.AppendAt
import Derived.Outline
namespace Go.Proofs.YtflmpjejlkhpcaaDoor.Nodes
open Go.ChangeShapes Go.WideShapes Go.ChangeAt Go.RowKit

theorem info_i64 : (Tryd.prog.info? 2).map (fun i => (i.zero, i.size, i.bytes)) = some (some (.int .i64 0), 1, 8) := by kernel_rfl
/-- A record in three cells. -/
def RecAt (w : World) (p : Nat) (r : Rec) : Prop := w.cell? ⟨p, 0, none⟩ = some (.int .i64 r.key) ∧ w.cell? ⟨p, 1, none⟩ = some (.int .i64 r.time) ∧ w.cell? ⟨p, 2, none⟩ = some (.int .i64 r.value)
theorem RecAt.below {w w' : World} {n p : Nat} {r : Rec} (h : RecAt w p r) (hp : p < n) (hb : Below n w w') : RecAt w' p r :=
  ⟨(hb.cell (p := ⟨p, _, none⟩) hp).trans h.1, (hb.cell (p := ⟨p, _, none⟩) hp).trans h.2.1, (hb.cell (p := ⟨p, _, none⟩) hp).trans h.2.2⟩
def recBox (r : Rec) : Obj := .cells #[.int .i64 r.key, .int .i64 r.time, .int .i64 r.value] 26
theorem rec_at (w : World) (r : Rec) : RecAt (w.alloc (recBox r)) w.heap.size r := by
  have e : (w.alloc (recBox r)).heap[w.heap.size]? = some (recBox r) := heap_alloc_new _ _
  unfold RecAt World.cell?
  simp only [e]
  exact ⟨rfl, rfl, rfl⟩
theorem own_mono {w : World} {base base' : Nat} {e : TypeId} {size : Nat} {v : Value} {n : Nat} {xs : List Value} (h : w.ownsRow base e size v n xs) (hb : base' ≤ base) : w.ownsRow base' e size v n xs := by
  refine ⟨h.1, ?_⟩
  rcases h.2 with h0 | ⟨g, cap, cur, h1, h2, h3⟩
  · exact .inl h0
  · exact .inr ⟨g, cap, cur, h1, by omega, h3⟩
theorem value_at (r : Rec) (vs : List Int) (x : Nd) (v : Value) (base n : Nat) (w : World) (hl : vs.length = n) (ho : w.ownsRow base 2 1 v n (intL vs)) (hn : n ≤ 1000000) (h1 : 1 ≤ x.kind) (h2 : x.kind ≤ 19) (hfr : Front n x) :
    Calls Tryd.prog 30 #[ndVal x, v, recVal r] w fun e w' => e = .returned (.int .i64 (valV r vs x)) ∧ Below w.heap.size w w' := by
  subst hl
  exact value_any r vs x v base w ho hn h1 h2 hfr
/-- What All returns. -/
def AllVals (r : Rec) (l : List Nd) (w : World) (e : Ending) (w' : World) : Prop :=
  ∃ v, e = .returned (.tuple #[v, .int .i64 (ofV l).2.2]) ∧ w'.ownsRow w.heap.size 2 1 v (allE r l).length (intL (allE r l)) ∧ Below w.heap.size w w'
theorem vals_take_len (r : Rec) {l : List Nd} {i : Nat} (h : i ≤ l.length) : (valsV r (l.take i)).length = i := by rw [vals_len, List.length_take]; omega
theorem vals_next (r : Rec) {l : List Nd} {i : Nat} (hi : i < l.length) : valsV r (l.take (i + 1)) = valsV r (l.take i) ++ [valV r (valsV r (l.take i)) l[i]] := by
  rw [List.take_succ_eq_append_getElem hi, vals_snoc]
set_option maxRecDepth 100000 in
set_option maxHeartbeats 2000000 in
theorem evalsAll_any (r : Rec) (v : Value) (l : List Nd) (w : World) (hf : KindFix w) (hR : ReadsN w v l) (hn : l.length ≤ 1000000) :
    Calls Tryd.prog 10 #[v, recVal r] w (AllVals r l w) := by
  obtain ⟨i0, hi, hz0, hz1, hz2⟩ := info_parts info_i64
  have HI := Lib.hid (And.intro hi (And.intro hz0 (And.intro hz1 hz2)))
  obtain ⟨W0, hW0⟩ : ∃ W0, w.alloc (recBox r) = W0 := ⟨_, rfl⟩
  have hb0 : Below w.heap.size w W0 := by rw [← hW0]; exact (Below.refl _ w).alloc (Nat.le_refl _) _
  have hsz : W0.heap.size = w.heap.size + 1 := by rw [← hW0]; simp
  have C : Hid (Calls Tryd.prog 29 #[v] (w.alloc (recBox r)) fun e w' => e = .returned (.tuple #[.bool (ofV l).1, .int .i64 (ofV l).2.1, .int .i64 (ofV l).2.2]) ∧ Below W0.heap.size W0 w') := Lib.hid (by rw [hW0]; exact kindsOf_any v l W0 (hf.below hb0) (hR.below hb0) hn)
  have HR := Lib.hid (hR.below hb0)
  have HC0 : Hid (RecAt W0 w.heap.size r) := Lib.hid (by rw [← hW0]; exact rec_at w r)
  have FIN : Hid (∀ wx, Below W0.heap.size W0 wx → Below w.heap.size w wx) := Lib.hid fun wx h => by
    rw [← hW0] at h
    exact below_box (Below.refl _ w) h
  have HSZ := Lib.hid hsz
  obtain ⟨ad, cap, rfl⟩ := hR.shape
  clear hR hf hi hz0 hz1 hz2 hW0 hb0 hsz
  obtain ⟨is, hs⟩ : ∃ is, (ofV l).1 = is := ⟨_, rfl⟩
  obtain ⟨at_, ha⟩ : ∃ at_, (ofV l).2.1 = at_ := ⟨_, rfl⟩
  rw [hs, ha] at C
  unfold recBox at C
  by_cases h0 : (ofV l).2.2 = 0
  · obtain ⟨hc, he⟩ := of_ok h0
    have hall : allE r l = valsV r l := by unfold allE; rw [if_pos h0]
    have HV : Hid (∀ vv W, W.ownsRow W0.heap.size 2 1 vv l.length (intL (valsV r l)) → Below W0.heap.size W0 W → AllVals r l w (.returned (.tuple #[vv, .int .i64 0])) W) := Lib.hid fun vv W h1 h2 => ⟨vv, by rw [h0], by rw [hall, vals_len]; exact own_mono h1 (by have := HSZ.out; omega), FIN.out _ h2⟩
    have HC := Lib.hid hc
    rw [h0] at C
    have h60 := (check_acc hc).2.2.1
    clear hc he h0 hall hs ha
    unfold recVal
    go_enter Tryd.func10, Tryd.ntmps10
    go_wp2_with fail
    refine C.out.mono ?_
    rintro e w1 ⟨rfl, hb⟩
    have HB := Lib.hid hb
    clear hb
    go_wp2_with fail
    go_loopg [9, 23] l.length (fun g s9 s23 wx => ∃ i : Nat, i + g = l.length ∧ s23 = .int .i64 i ∧ Hid (wx.ownsRow W0.heap.size 2 1 s9 i (intL (valsV r (l.take i)))) ∧ Hid (Below W0.heap.size W0 wx))
    case atStart => exact ⟨0, by omega, rfl, Lib.hid (World.ownsRow_nil _ _ _ _), HB⟩
    case round =>
      obtain ⟨i, hig, rfl, HO, HB⟩ := hrel
      obtain ⟨adS, capS, hO⟩ := own_shape HO.out
      subst hO
      cases gk with
      | zero =>
        obtain rfl : i = l.length := by omega
        have HO2 := HO.out
        rw [List.take_length] at HO2
        have HE := Lib.hid (HV.out _ _ HO2 HB.out)
        clear hig HO2
        go_wp2_with fail
        go_ret2
        exact HE.out
      | succ g =>
        have hlt : i < l.length := by omega
        obtain ⟨k1, k2, _⟩ := node_facts HC.out hlt
        have hfr := front_of HC.out hlt
        have hvl := vals_take_len r (l := l) (i := i) (by omega)
        have hnx := vals_next r hlt
        obtain ⟨bb, o, cap', hv, hbw, c0, c1, c2, c3, c4⟩ := (HR.out.below HB.out).nd i hlt
        cases hv
        obtain ⟨VS, hVS⟩ : ∃ VS, valsV r (l.take i) = VS := ⟨_, rfl⟩
        rw [hVS] at HO hvl hnx
        obtain ⟨x, hx⟩ : ∃ x, l[i] = x := ⟨_, rfl⟩
        rw [hx] at k1 k2 hfr hnx c0 c1 c2 c3 c4
        have VA := Lib.hid (fun (W : World) (h : W.ownsRow W0.heap.size 2 1 (.slice adS i capS) i (intL VS)) => value_at r VS x _ _ i W hvl h (by omega) k1 k2 hfr)
        obtain ⟨y, hy⟩ : ∃ y, valV r VS x = y := ⟨_, rfl⟩
        rw [hy] at VA hnx
        have HN := Lib.hid hnx
        have hwr : w.heap.size < wr.heap.size := by have := HB.out.size; have := HSZ.out; omega
        obtain ⟨r0, r1, r2⟩ := HC0.out.below (by have := HSZ.out; omega) HB.out
        have t0 : ∀ ob : Obj, (wr.alloc ob).cell? ⟨w.heap.size, 0, none⟩ = some (.int .i64 r.key) := fun ob => (((Below.refl wr.heap.size wr).alloc (Nat.le_refl _) ob).cell (p := ⟨_, _, none⟩) hwr).trans r0
        have t1 : ∀ ob : Obj, (wr.alloc ob).cell? ⟨w.heap.size, 1, none⟩ = some (.int .i64 r.time) := fun ob => (((Below.refl wr.heap.size wr).alloc (Nat.le_refl _) ob).cell (p := ⟨_, _, none⟩) hwr).trans r1
        have t2 : ∀ ob : Obj, (wr.alloc ob).cell? ⟨w.heap.size, 2, none⟩ = some (.int .i64 r.value) := fun ob => (((Below.refl wr.heap.size wr).alloc (Nat.le_refl _) ob).cell (p := ⟨_, _, none⟩) hwr).trans r2
        clear hvl hnx hVS hx hy k1 k2 hfr r0 r1 r2
        go_wp2_with fail
        refine (VA.out _ (HO.out.alloc _)).mono ?_
        rintro e w3 ⟨rfl, hb⟩
        have HB3 : Hid (Below W0.heap.size W0 w3) := Lib.hid ((HB.out.alloc HB.out.size _).trans (hb.mono (by have := HB.out.size; simp; omega)))
        have HO3 := Lib.hid (own_below (HO.out.alloc _) hb)
        clear hb t0 t1 t2 c0 c1 c2 c3 c4 hwr
        go_wp2_with (at_builtin; refine wpList_append_own _ rfl _ _ 27 rfl W0.heap.size 2 i0 (.int .i64 0) 1 8 Tryd.underlying27 HI.out.1 HI.out.2.1 HI.out.2.2.1 HI.out.2.2.2 rfl (by decide) _ _ _ rfl (HO3.out.alloc _) ⟨w3.heap.size, 0, none⟩ 1 1 [.int .i64 y] rfl rfl ?c1 ?c2 ?c3 ?c4 ?c5 ?_)
        case c1 =>
          intro q u hq
          match q with
          | 0 => simp at hq; subst hq; simp [go_sem, Addr.add]
          | q + 1 => simp at hq
        case c2 => intro u hu; simp at hu; subst hu; rfl
        case c3 => unfold maxLen; omega
        case c4 => omega
        case c5 => have := HB3.out.size; simp at this ⊢; omega
        intro v1 w4 hown hgrow _
        have HB4 := Lib.hid (grown_below HO3.out (HB3.out.alloc HB3.out.size _) hgrow)
        have HO4 : Hid (w4.ownsRow W0.heap.size 2 1 v1 (i + 1) (intL (valsV r (l.take (i + 1))))) := Lib.hid (by
          rw [HN.out, intL_add]
          exact hown)
        clear hown hgrow
        go_wp2_with fail
        go_roundg g
        case measure => omega
        case rel => exact ⟨i + 1, by omega, by go_num, HO4, HB4⟩
  · have hall : allE r l = [] := by unfold allE; rw [if_neg h0]
    have HV : Hid (∀ W, Below W0.heap.size W0 W → AllVals r l w (.returned (.tuple #[.slice none 0 0, .int .i64 (ofV l).2.2])) W) := Lib.hid fun W h2 => ⟨_, rfl, by rw [hall]; exact World.ownsRow_nil _ _ _ _, FIN.out _ h2⟩
    obtain ⟨e0, he⟩ : ∃ e0, (ofV l).2.2 = e0 := ⟨_, rfl⟩
    rw [he] at C h0 HV
    have q : (e0 != 0) = true := by rw [bne_iff_ne]; exact h0
    clear hall h0 ha he hs
    unfold recVal
    go_enter Tryd.func10, Tryd.ntmps10
    go_wp2_with fail
    refine C.out.mono ?_
    rintro e w1 ⟨rfl, hb⟩
    have HB := Lib.hid hb
    clear hb
    go_wp2_with fail
    go_ret2
    exact HV.out _ HB.out
theorem of_pos {l : List Nd} (h : (ofV l).2.2 = 0) : 0 < l.length := (check_acc (of_ok h).1).2.1
set_option maxRecDepth 100000 in
set_option maxHeartbeats 1000000 in
theorem evalsOf_any (r : Rec) (v : Value) (l : List Nd) (w : World) (hf : KindFix w) (hR : ReadsN w v l) (hn : l.length ≤ 1000000) :
    Calls Tryd.prog 9 #[v, recVal r] w fun e w' => e = .returned (.tuple #[.int .i64 (ofE r l), .int .i64 (ofV l).2.2]) ∧ Below w.heap.size w w' := by
  have hb0 : Below w.heap.size w (w.alloc (recBox r)) := (Below.refl _ w).alloc (Nat.le_refl _) _
  have C := Lib.hid (evalsAll_any r v l (w.alloc (recBox r)) (hf.below hb0) (hR.below hb0) hn)
  unfold AllVals at C
  have FIN : Hid (∀ wx, Below (w.alloc (recBox r)).heap.size (w.alloc (recBox r)) wx → Below w.heap.size w wx) := Lib.hid fun wx h => below_box (Below.refl _ w) h
  unfold recBox at C
  by_cases h0 : (ofV l).2.2 = 0
  · have hpos := of_pos h0
    have hall : allE r l = valsV r l := by unfold allE; rw [if_pos h0]
    have hV : ofE r l = nth (valsV r l) ((l.length - 1 : Nat) : Int) := by unfold ofE; rw [if_pos h0, eval_get hpos]
    obtain ⟨m, hm⟩ : ∃ m, l.length - 1 = m := ⟨_, rfl⟩
    rw [h0, hall, vals_len] at C
    rw [hm] at hV
    have hml : m < l.length := by omega
    have hm1 : (l.length : Int) - 1 = m := by omega
    have hvl := vals_len r l
    obtain ⟨VS, hVS⟩ : ∃ VS, valsV r l = VS := ⟨_, rfl⟩
    rw [hVS] at C hV hvl
    rw [h0, hV]
    obtain ⟨y, hy⟩ : ∃ y, nth VS (m : Int) = y := ⟨_, rfl⟩
    rw [hy]
    have HY := Lib.hid hy
    have HVL := Lib.hid hvl
    clear hf hR hb0 hall hV hVS hy hm h0 hvl
    unfold recVal
    go_enter Tryd.func9, Tryd.ntmps9
    go_wp2_with fail
    refine C.out.mono ?_
    rintro e w1 ⟨va, rfl, ho, hb⟩
    have HB := Lib.hid (FIN.out _ hb)
    obtain ⟨b, cp, rfl, _, c0⟩ := int_cell ho (Below.refl _ _) HVL.out hml
    rw [HY.out] at c0
    clear ho hb
    go_wp2_with fail
    go_ret2
    exact ⟨rfl, HB.out⟩
  · have hall : allE r l = [] := by unfold allE; rw [if_neg h0]
    have hV : ofE r l = 0 := by unfold ofE; rw [if_neg h0]
    rw [hall] at C
    rw [hV]
    obtain ⟨e0, he⟩ : ∃ e0, (ofV l).2.2 = e0 := ⟨_, rfl⟩
    rw [he] at C h0 ⊢
    have q : (e0 != 0) = true := by rw [bne_iff_ne]; exact h0
    clear hf hR hb0 hall hV he h0
    unfold recVal
    go_enter Tryd.func9, Tryd.ntmps9
    go_wp2_with fail
    refine C.out.mono ?_
    rintro e w1 ⟨va, rfl, ho, hb⟩
    have HB := Lib.hid (FIN.out _ hb)
    obtain ⟨ad1, cp1, rfl⟩ := own_shape ho
    clear ho hb
    go_wp2_with fail
    go_ret2
    exact ⟨rfl, HB.out⟩
end Go.Proofs.YtflmpjejlkhpcaaDoor.Nodes

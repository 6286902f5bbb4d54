/-
  Walk of the statement EvalsUses: what an expression does not use does not matter.
-/
import Derived.Test.YtflmpjejlkhpcaaDoorEvalHelp
import Derived.Outline
namespace Go.Proofs.YtflmpjejlkhpcaaDoor.Nodes
open Go.ChangeShapes Go.WideShapes Go.ChangeAt Go.RowKit

/-- Two records in blocks of their own. -/
def RecIn (W : World) (q : Nat) (s : Rec) : Prop := W.heap[q]? = some (recBox s)
structure SU (w W : World) (r s : Rec) : Prop where
  base : Below w.heap.size w W
  room : w.heap.size + 2 ≤ W.heap.size
  one : RecIn W w.heap.size r
  two : RecIn W (w.heap.size + 1) s
theorem RecIn.cells {W : World} {q : Nat} {s : Rec} (h : RecIn W q s) : RecAt W q s := by
  unfold RecIn at h
  unfold RecAt World.cell?
  simp only [h]
  exact ⟨rfl, rfl, rfl⟩
theorem RecIn.frz {W : World} {q : Nat} {s : Rec} (h : RecIn W q s) : W.frozen? ⟨q, 0, none⟩ = false ∧ W.frozen? ⟨q, 1, none⟩ = false ∧ W.frozen? ⟨q, 2, none⟩ = false := by
  unfold RecIn recBox at h
  refine ⟨?_, ?_, ?_⟩ <;> simp [World.frozen?, h]
theorem RecIn.far {W : World} {q q2 j : Nat} {s : Rec} (h : RecIn W q s) (hq : q2 ≠ q) (u : Value) : RecIn (W.setCell ⟨q2, j, none⟩ u) q s := by
  unfold RecIn at h ⊢
  show (W.heap.modify q2 _)[q]? = _
  rw [Array.getElem?_modify, if_neg hq]
  exact h
theorem RecIn.set0 {W : World} {q : Nat} {s : Rec} (h : RecIn W q s) (x : Int) : RecIn (W.setCell ⟨q, 0, none⟩ (.int .i64 x)) q ⟨x, s.time, s.value⟩ := by
  unfold RecIn at h ⊢
  show (W.heap.modify q _)[q]? = _
  rw [Array.getElem?_modify, if_pos rfl, h]
  rfl
theorem RecIn.set1 {W : World} {q : Nat} {s : Rec} (h : RecIn W q s) (x : Int) : RecIn (W.setCell ⟨q, 1, none⟩ (.int .i64 x)) q ⟨s.key, x, s.value⟩ := by
  unfold RecIn at h ⊢
  show (W.heap.modify q _)[q]? = _
  rw [Array.getElem?_modify, if_pos rfl, h]
  rfl
theorem RecIn.set2 {W : World} {q : Nat} {s : Rec} (h : RecIn W q s) (x : Int) : RecIn (W.setCell ⟨q, 2, none⟩ (.int .i64 x)) q ⟨s.key, s.time, x⟩ := by
  unfold RecIn at h ⊢
  show (W.heap.modify q _)[q]? = _
  rw [Array.getElem?_modify, if_pos rfl, h]
  rfl
theorem SU.below {w W W' : World} {r s : Rec} (h : SU w W r s) (hb : Below W.heap.size W W') : SU w W' r s :=
  ⟨below_then h.base hb, Nat.le_trans h.room hb.size, (hb.block _ (by have := h.room; omega)).trans h.one, (hb.block _ (by have := h.room; omega)).trans h.two⟩
theorem set_size (W : World) (p : Addr) (u : Value) : (W.setCell p u).heap.size = W.heap.size := by
  show (W.heap.modify _ _).size = _
  exact Array.size_modify
theorem SU.set0 {w W : World} {r s : Rec} (h : SU w W r s) (x : Int) : SU w (W.setCell ⟨w.heap.size + 1, 0, none⟩ (.int .i64 x)) r ⟨x, s.time, s.value⟩ :=
  ⟨h.base.setCell (by show w.heap.size ≤ w.heap.size + 1; omega) _, by rw [set_size]; exact h.room, h.one.far (by omega) _, h.two.set0 x⟩
theorem SU.set1 {w W : World} {r s : Rec} (h : SU w W r s) (x : Int) : SU w (W.setCell ⟨w.heap.size + 1, 1, none⟩ (.int .i64 x)) r ⟨s.key, x, s.value⟩ :=
  ⟨h.base.setCell (by show w.heap.size ≤ w.heap.size + 1; omega) _, by rw [set_size]; exact h.room, h.one.far (by omega) _, h.two.set1 x⟩
theorem SU.set2 {w W : World} {r s : Rec} (h : SU w W r s) (x : Int) : SU w (W.setCell ⟨w.heap.size + 1, 2, none⟩ (.int .i64 x)) r ⟨s.key, s.time, x⟩ :=
  ⟨h.base.setCell (by show w.heap.size ≤ w.heap.size + 1; omega) _, by rw [set_size]; exact h.room, h.one.far (by omega) _, h.two.set2 x⟩
theorem su_start (w : World) (r s : Rec) : SU w ((w.alloc (recBox r)).alloc (recBox s)) r s := by
  have hs : (w.alloc (recBox r)).heap.size = w.heap.size + 1 := by simp
  refine ⟨box_two0 w _ _, by simp, ?_, ?_⟩
  · unfold RecIn
    rw [((Below.refl (w.alloc (recBox r)).heap.size (w.alloc (recBox r))).alloc (Nat.le_refl _) (recBox s)).block _ (by omega)]
    exact heap_alloc_new _ _
  · unfold RecIn
    rw [← hs]
    exact heap_alloc_new _ _
set_option maxRecDepth 100000 in
set_option maxHeartbeats 2000000 in
theorem euses_walk (r s : Rec) (v : Value) (l : List Nd) (w : World) (hf : KindFix w) (hR : ReadsN w v l) (hn : l.length ≤ 9223372036854775807) :
    Calls Tryd.prog 7 #[v, recVal r, recVal s] w fun e w' => e = .returned (.bool true) ∧ Below w.heap.size w w' := by
  have GG : Hid (Calls Tryd.prog 18 #[v] ((w.alloc (recBox r)).alloc (recBox s)) fun e w' => e = .returned (.bool (decide (70 < l.length))) ∧ SU w w' r s) := Lib.hid ((great_any v l _ (hR.below (box_two0 w _ _))).mono (by rintro e w' ⟨he, rfl⟩; exact ⟨he, su_start w r s⟩))
  have HR := Lib.hid hR
  have F := Lib.hid hf
  have AL := Lib.hid (fun (W : World) (h : Below w.heap.size w W) => alive7_any W (F.out.below h))
  have RO := Lib.hid (fun (W : World) (h : Below w.heap.size w W) (h70 : l.length ≤ 70) => refOf_any v l W (HR.out.below h) (by omega))
  have EU := Lib.hid (fun (W : World) (h : Below w.heap.size w W) (h70 : l.length ≤ 70) => evalsUses_any v l W (F.out.below h) (HR.out.below h) (by omega))
  have EO := Lib.hid (fun (t : Rec) (W : World) (h : Below w.heap.size w W) (h70 : l.length ≤ 70) => evalsOf_any t v l W (F.out.below h) (HR.out.below h) (by omega))
  unfold UsesIs at EU
  obtain ⟨ad, cap, rfl⟩ := hR.shape
  clear hf hR
  unfold recBox at GG
  unfold recVal at EO ⊢
  cases hg : decide (70 < l.length)
  · have h70 : l.length ≤ 70 := by rw [decide_eq_false_iff_not] at hg; omega
    rw [hg] at GG
    obtain ⟨is, hs⟩ : ∃ is, (ofV l).1 = is := ⟨_, rfl⟩
    obtain ⟨atx, hax⟩ : ∃ atx, (ofV l).2.1 = atx := ⟨_, rfl⟩
    rw [hs, hax] at RO
    clear hg hs hax
    by_cases h0 : (ofV l).2.2 = 0
    · have hu : ∀ k, useE k l = hasK k l := fun k => by unfold useE; rw [if_pos h0]
      rw [hu, hu, hu] at EU
      obtain ⟨K1, hK1⟩ : ∃ e0, hasK 2 l = e0 := ⟨_, rfl⟩
      obtain ⟨K2, hK2⟩ : ∃ e0, hasK 3 l = e0 := ⟨_, rfl⟩
      obtain ⟨K3, hK3⟩ : ∃ e0, hasK 4 l = e0 := ⟨_, rfl⟩
      have HS : Hid (∀ t : Rec, (K1 = true → r.key = t.key) → (K2 = true → r.time = t.time) → (K3 = true → r.value = t.value) → ofE t l = ofE r l) := Lib.hid fun t h2 h3 h4 => by
        unfold ofE evalV
        rw [if_pos h0, if_pos h0, vals_uses (r := r) (s := t) (by rw [hK1]; exact h2) (by rw [hK2]; exact h3) (by rw [hK3]; exact h4)]
      rw [h0] at RO EU EO
      rw [hK1, hK2, hK3] at EU
      obtain ⟨y, hy⟩ : ∃ y, ofE r l = y := ⟨_, rfl⟩
      have EO1 := Lib.hid (EO.out r)
      rw [hy] at EO1 HS
      have qy : (y == y) = true := by simp
      clear h0 hu hK1 hK2 hK3 hy
      cases K1 <;> cases K2 <;> cases K3
      · go_enter Tryd.func7, Tryd.ntmps7
        go_wp2_with fail
        refine (GG.out).mono ?_
        rintro e w1 ⟨rfl, hb⟩
        have S1 := Lib.hid (hb)
        clear hb
        go_wp2_with fail
        refine (RO.out _ S1.out.base h70).mono ?_
        rintro e w2 ⟨rfl, hb⟩
        have S2 := Lib.hid (S1.out.below hb)
        clear hb
        go_wp2_with fail
        refine (EU.out _ S2.out.base h70).mono ?_
        rintro e w3 ⟨rfl, hb⟩
        have S3 := Lib.hid (S2.out.below hb)
        clear hb
        obtain ⟨c0, c1, c2⟩ := (S3.out).one.cells
        have EO2 := Lib.hid (EO.out ⟨s.key, s.time, s.value⟩)
        rw [HS.out ⟨s.key, s.time, s.value⟩ (fun h => by cases h) (fun h => by cases h) (fun h => by cases h)] at EO2
        try simp only at EO2
        go_wp2_with fail
        refine (EO1.out _ (S3.out).base h70).mono ?_
        rintro e w4 ⟨rfl, hb⟩
        have S4 := Lib.hid ((S3.out).below hb)
        obtain ⟨d0, d1, d2⟩ := S4.out.two.cells
        try simp only at d0 d1 d2
        clear hb
        go_wp2_with fail
        refine (EO2.out _ S4.out.base h70).mono ?_
        rintro e w5 ⟨rfl, hb⟩
        have S5 := Lib.hid (S4.out.below hb)
        clear hb
        go_wp2_with fail
        refine (AL.out _ S5.out.base).mono ?_
        rintro e w6 ⟨rfl, hb⟩
        have S6 := Lib.hid (S5.out.below hb)
        clear hb
        go_wp2_with fail
        go_ret
        exact ⟨rfl, S6.out.base⟩
      · go_enter Tryd.func7, Tryd.ntmps7
        go_wp2_with fail
        refine (GG.out).mono ?_
        rintro e w1 ⟨rfl, hb⟩
        have S1 := Lib.hid (hb)
        clear hb
        go_wp2_with fail
        refine (RO.out _ S1.out.base h70).mono ?_
        rintro e w2 ⟨rfl, hb⟩
        have S2 := Lib.hid (S1.out.below hb)
        clear hb
        go_wp2_with fail
        refine (EU.out _ S2.out.base h70).mono ?_
        rintro e w3 ⟨rfl, hb⟩
        have S3 := Lib.hid (S2.out.below hb)
        clear hb
        have p2 := (S3.out).one.cells.2.2
        have q2 := (S3.out).two.cells.2.2
        have z2 := (S3.out).two.frz.2.2
        have T2 := Lib.hid ((S3.out).set2 r.value)
        obtain ⟨c0, c1, c2⟩ := (T2.out).one.cells
        have EO2 := Lib.hid (EO.out ⟨s.key, s.time, r.value⟩)
        rw [HS.out ⟨s.key, s.time, r.value⟩ (fun h => by cases h) (fun h => by cases h) (fun _ => rfl)] at EO2
        try simp only at EO2
        go_wp2_with fail
        refine (EO1.out _ (T2.out).base h70).mono ?_
        rintro e w4 ⟨rfl, hb⟩
        have S4 := Lib.hid ((T2.out).below hb)
        obtain ⟨d0, d1, d2⟩ := S4.out.two.cells
        try simp only at d0 d1 d2
        clear hb
        go_wp2_with fail
        refine (EO2.out _ S4.out.base h70).mono ?_
        rintro e w5 ⟨rfl, hb⟩
        have S5 := Lib.hid (S4.out.below hb)
        clear hb
        go_wp2_with fail
        refine (AL.out _ S5.out.base).mono ?_
        rintro e w6 ⟨rfl, hb⟩
        have S6 := Lib.hid (S5.out.below hb)
        clear hb
        go_wp2_with fail
        go_ret
        exact ⟨rfl, S6.out.base⟩
      · go_enter Tryd.func7, Tryd.ntmps7
        go_wp2_with fail
        refine (GG.out).mono ?_
        rintro e w1 ⟨rfl, hb⟩
        have S1 := Lib.hid (hb)
        clear hb
        go_wp2_with fail
        refine (RO.out _ S1.out.base h70).mono ?_
        rintro e w2 ⟨rfl, hb⟩
        have S2 := Lib.hid (S1.out.below hb)
        clear hb
        go_wp2_with fail
        refine (EU.out _ S2.out.base h70).mono ?_
        rintro e w3 ⟨rfl, hb⟩
        have S3 := Lib.hid (S2.out.below hb)
        clear hb
        have p1 := (S3.out).one.cells.2.1
        have q1 := (S3.out).two.cells.2.1
        have z1 := (S3.out).two.frz.2.1
        have T1 := Lib.hid ((S3.out).set1 r.time)
        obtain ⟨c0, c1, c2⟩ := (T1.out).one.cells
        have EO2 := Lib.hid (EO.out ⟨s.key, r.time, s.value⟩)
        rw [HS.out ⟨s.key, r.time, s.value⟩ (fun h => by cases h) (fun _ => rfl) (fun h => by cases h)] at EO2
        try simp only at EO2
        go_wp2_with fail
        refine (EO1.out _ (T1.out).base h70).mono ?_
        rintro e w4 ⟨rfl, hb⟩
        have S4 := Lib.hid ((T1.out).below hb)
        obtain ⟨d0, d1, d2⟩ := S4.out.two.cells
        try simp only at d0 d1 d2
        clear hb
        go_wp2_with fail
        refine (EO2.out _ S4.out.base h70).mono ?_
        rintro e w5 ⟨rfl, hb⟩
        have S5 := Lib.hid (S4.out.below hb)
        clear hb
        go_wp2_with fail
        refine (AL.out _ S5.out.base).mono ?_
        rintro e w6 ⟨rfl, hb⟩
        have S6 := Lib.hid (S5.out.below hb)
        clear hb
        go_wp2_with fail
        go_ret
        exact ⟨rfl, S6.out.base⟩
      · go_enter Tryd.func7, Tryd.ntmps7
        go_wp2_with fail
        refine (GG.out).mono ?_
        rintro e w1 ⟨rfl, hb⟩
        have S1 := Lib.hid (hb)
        clear hb
        go_wp2_with fail
        refine (RO.out _ S1.out.base h70).mono ?_
        rintro e w2 ⟨rfl, hb⟩
        have S2 := Lib.hid (S1.out.below hb)
        clear hb
        go_wp2_with fail
        refine (EU.out _ S2.out.base h70).mono ?_
        rintro e w3 ⟨rfl, hb⟩
        have S3 := Lib.hid (S2.out.below hb)
        clear hb
        have p1 := (S3.out).one.cells.2.1
        have q1 := (S3.out).two.cells.2.1
        have z1 := (S3.out).two.frz.2.1
        have T1 := Lib.hid ((S3.out).set1 r.time)
        have p2 := (T1.out).one.cells.2.2
        have q2 := (T1.out).two.cells.2.2
        have z2 := (T1.out).two.frz.2.2
        have T2 := Lib.hid ((T1.out).set2 r.value)
        obtain ⟨c0, c1, c2⟩ := (T2.out).one.cells
        have EO2 := Lib.hid (EO.out ⟨s.key, r.time, r.value⟩)
        rw [HS.out ⟨s.key, r.time, r.value⟩ (fun h => by cases h) (fun _ => rfl) (fun _ => rfl)] at EO2
        try simp only at EO2
        go_wp2_with fail
        refine (EO1.out _ (T2.out).base h70).mono ?_
        rintro e w4 ⟨rfl, hb⟩
        have S4 := Lib.hid ((T2.out).below hb)
        obtain ⟨d0, d1, d2⟩ := S4.out.two.cells
        try simp only at d0 d1 d2
        clear hb
        go_wp2_with fail
        refine (EO2.out _ S4.out.base h70).mono ?_
        rintro e w5 ⟨rfl, hb⟩
        have S5 := Lib.hid (S4.out.below hb)
        clear hb
        go_wp2_with fail
        refine (AL.out _ S5.out.base).mono ?_
        rintro e w6 ⟨rfl, hb⟩
        have S6 := Lib.hid (S5.out.below hb)
        clear hb
        go_wp2_with fail
        go_ret
        exact ⟨rfl, S6.out.base⟩
      · go_enter Tryd.func7, Tryd.ntmps7
        go_wp2_with fail
        refine (GG.out).mono ?_
        rintro e w1 ⟨rfl, hb⟩
        have S1 := Lib.hid (hb)
        clear hb
        go_wp2_with fail
        refine (RO.out _ S1.out.base h70).mono ?_
        rintro e w2 ⟨rfl, hb⟩
        have S2 := Lib.hid (S1.out.below hb)
        clear hb
        go_wp2_with fail
        refine (EU.out _ S2.out.base h70).mono ?_
        rintro e w3 ⟨rfl, hb⟩
        have S3 := Lib.hid (S2.out.below hb)
        clear hb
        have p0 := (S3.out).one.cells.1
        have q0 := (S3.out).two.cells.1
        have z0 := (S3.out).two.frz.1
        have T0 := Lib.hid ((S3.out).set0 r.key)
        obtain ⟨c0, c1, c2⟩ := (T0.out).one.cells
        have EO2 := Lib.hid (EO.out ⟨r.key, s.time, s.value⟩)
        rw [HS.out ⟨r.key, s.time, s.value⟩ (fun _ => rfl) (fun h => by cases h) (fun h => by cases h)] at EO2
        try simp only at EO2
        go_wp2_with fail
        refine (EO1.out _ (T0.out).base h70).mono ?_
        rintro e w4 ⟨rfl, hb⟩
        have S4 := Lib.hid ((T0.out).below hb)
        obtain ⟨d0, d1, d2⟩ := S4.out.two.cells
        try simp only at d0 d1 d2
        clear hb
        go_wp2_with fail
        refine (EO2.out _ S4.out.base h70).mono ?_
        rintro e w5 ⟨rfl, hb⟩
        have S5 := Lib.hid (S4.out.below hb)
        clear hb
        go_wp2_with fail
        refine (AL.out _ S5.out.base).mono ?_
        rintro e w6 ⟨rfl, hb⟩
        have S6 := Lib.hid (S5.out.below hb)
        clear hb
        go_wp2_with fail
        go_ret
        exact ⟨rfl, S6.out.base⟩
      · go_enter Tryd.func7, Tryd.ntmps7
        go_wp2_with fail
        refine (GG.out).mono ?_
        rintro e w1 ⟨rfl, hb⟩
        have S1 := Lib.hid (hb)
        clear hb
        go_wp2_with fail
        refine (RO.out _ S1.out.base h70).mono ?_
        rintro e w2 ⟨rfl, hb⟩
        have S2 := Lib.hid (S1.out.below hb)
        clear hb
        go_wp2_with fail
        refine (EU.out _ S2.out.base h70).mono ?_
        rintro e w3 ⟨rfl, hb⟩
        have S3 := Lib.hid (S2.out.below hb)
        clear hb
        have p0 := (S3.out).one.cells.1
        have q0 := (S3.out).two.cells.1
        have z0 := (S3.out).two.frz.1
        have T0 := Lib.hid ((S3.out).set0 r.key)
        have p2 := (T0.out).one.cells.2.2
        have q2 := (T0.out).two.cells.2.2
        have z2 := (T0.out).two.frz.2.2
        have T2 := Lib.hid ((T0.out).set2 r.value)
        obtain ⟨c0, c1, c2⟩ := (T2.out).one.cells
        have EO2 := Lib.hid (EO.out ⟨r.key, s.time, r.value⟩)
        rw [HS.out ⟨r.key, s.time, r.value⟩ (fun _ => rfl) (fun h => by cases h) (fun _ => rfl)] at EO2
        try simp only at EO2
        go_wp2_with fail
        refine (EO1.out _ (T2.out).base h70).mono ?_
        rintro e w4 ⟨rfl, hb⟩
        have S4 := Lib.hid ((T2.out).below hb)
        obtain ⟨d0, d1, d2⟩ := S4.out.two.cells
        try simp only at d0 d1 d2
        clear hb
        go_wp2_with fail
        refine (EO2.out _ S4.out.base h70).mono ?_
        rintro e w5 ⟨rfl, hb⟩
        have S5 := Lib.hid (S4.out.below hb)
        clear hb
        go_wp2_with fail
        refine (AL.out _ S5.out.base).mono ?_
        rintro e w6 ⟨rfl, hb⟩
        have S6 := Lib.hid (S5.out.below hb)
        clear hb
        go_wp2_with fail
        go_ret
        exact ⟨rfl, S6.out.base⟩
      · go_enter Tryd.func7, Tryd.ntmps7
        go_wp2_with fail
        refine (GG.out).mono ?_
        rintro e w1 ⟨rfl, hb⟩
        have S1 := Lib.hid (hb)
        clear hb
        go_wp2_with fail
        refine (RO.out _ S1.out.base h70).mono ?_
        rintro e w2 ⟨rfl, hb⟩
        have S2 := Lib.hid (S1.out.below hb)
        clear hb
        go_wp2_with fail
        refine (EU.out _ S2.out.base h70).mono ?_
        rintro e w3 ⟨rfl, hb⟩
        have S3 := Lib.hid (S2.out.below hb)
        clear hb
        have p0 := (S3.out).one.cells.1
        have q0 := (S3.out).two.cells.1
        have z0 := (S3.out).two.frz.1
        have T0 := Lib.hid ((S3.out).set0 r.key)
        have p1 := (T0.out).one.cells.2.1
        have q1 := (T0.out).two.cells.2.1
        have z1 := (T0.out).two.frz.2.1
        have T1 := Lib.hid ((T0.out).set1 r.time)
        obtain ⟨c0, c1, c2⟩ := (T1.out).one.cells
        have EO2 := Lib.hid (EO.out ⟨r.key, r.time, s.value⟩)
        rw [HS.out ⟨r.key, r.time, s.value⟩ (fun _ => rfl) (fun _ => rfl) (fun h => by cases h)] at EO2
        try simp only at EO2
        go_wp2_with fail
        refine (EO1.out _ (T1.out).base h70).mono ?_
        rintro e w4 ⟨rfl, hb⟩
        have S4 := Lib.hid ((T1.out).below hb)
        obtain ⟨d0, d1, d2⟩ := S4.out.two.cells
        try simp only at d0 d1 d2
        clear hb
        go_wp2_with fail
        refine (EO2.out _ S4.out.base h70).mono ?_
        rintro e w5 ⟨rfl, hb⟩
        have S5 := Lib.hid (S4.out.below hb)
        clear hb
        go_wp2_with fail
        refine (AL.out _ S5.out.base).mono ?_
        rintro e w6 ⟨rfl, hb⟩
        have S6 := Lib.hid (S5.out.below hb)
        clear hb
        go_wp2_with fail
        go_ret
        exact ⟨rfl, S6.out.base⟩
      · go_enter Tryd.func7, Tryd.ntmps7
        go_wp2_with fail
        refine (GG.out).mono ?_
        rintro e w1 ⟨rfl, hb⟩
        have S1 := Lib.hid (hb)
        clear hb
        go_wp2_with fail
        refine (RO.out _ S1.out.base h70).mono ?_
        rintro e w2 ⟨rfl, hb⟩
        have S2 := Lib.hid (S1.out.below hb)
        clear hb
        go_wp2_with fail
        refine (EU.out _ S2.out.base h70).mono ?_
        rintro e w3 ⟨rfl, hb⟩
        have S3 := Lib.hid (S2.out.below hb)
        clear hb
        have p0 := (S3.out).one.cells.1
        have q0 := (S3.out).two.cells.1
        have z0 := (S3.out).two.frz.1
        have T0 := Lib.hid ((S3.out).set0 r.key)
        have p1 := (T0.out).one.cells.2.1
        have q1 := (T0.out).two.cells.2.1
        have z1 := (T0.out).two.frz.2.1
        have T1 := Lib.hid ((T0.out).set1 r.time)
        have p2 := (T1.out).one.cells.2.2
        have q2 := (T1.out).two.cells.2.2
        have z2 := (T1.out).two.frz.2.2
        have T2 := Lib.hid ((T1.out).set2 r.value)
        obtain ⟨c0, c1, c2⟩ := (T2.out).one.cells
        have EO2 := Lib.hid (EO.out ⟨r.key, r.time, r.value⟩)
        rw [HS.out ⟨r.key, r.time, r.value⟩ (fun _ => rfl) (fun _ => rfl) (fun _ => rfl)] at EO2
        try simp only at EO2
        go_wp2_with fail
        refine (EO1.out _ (T2.out).base h70).mono ?_
        rintro e w4 ⟨rfl, hb⟩
        have S4 := Lib.hid ((T2.out).below hb)
        obtain ⟨d0, d1, d2⟩ := S4.out.two.cells
        try simp only at d0 d1 d2
        clear hb
        go_wp2_with fail
        refine (EO2.out _ S4.out.base h70).mono ?_
        rintro e w5 ⟨rfl, hb⟩
        have S5 := Lib.hid (S4.out.below hb)
        clear hb
        go_wp2_with fail
        refine (AL.out _ S5.out.base).mono ?_
        rintro e w6 ⟨rfl, hb⟩
        have S6 := Lib.hid (S5.out.below hb)
        clear hb
        go_wp2_with fail
        go_ret
        exact ⟨rfl, S6.out.base⟩
    · obtain ⟨e0, he⟩ : ∃ e0, (ofV l).2.2 = e0 := ⟨_, rfl⟩
      rw [he] at RO h0
      have q : (e0 != 0) = true := by rw [bne_iff_ne]; exact h0
      clear h0 he EO EU
      go_enter Tryd.func7, Tryd.ntmps7
      go_wp2_with fail
      refine (GG.out).mono ?_
      rintro e w1 ⟨rfl, hb⟩
      have S1 := Lib.hid (hb)
      clear hb
      go_wp2_with fail
      refine (RO.out _ S1.out.base h70).mono ?_
      rintro e w2 ⟨rfl, hb⟩
      have S2 := Lib.hid (S1.out.below hb)
      clear hb
      go_wp2_with fail
      refine (AL.out _ S2.out.base).mono ?_
      rintro e w3 ⟨rfl, hb⟩
      have S3 := Lib.hid (S2.out.below hb)
      clear hb
      go_wp2_with fail
      go_ret
      exact ⟨rfl, S3.out.base⟩
  · rw [hg] at GG
    clear hg EO EU RO
    go_enter Tryd.func7, Tryd.ntmps7
    go_wp2_with fail
    refine (GG.out).mono ?_
    rintro e w1 ⟨rfl, hb⟩
    have S1 := Lib.hid (hb)
    clear hb
    go_wp2_with fail
    refine (AL.out _ S1.out.base).mono ?_
    rintro e w2 ⟨rfl, hb⟩
    have S2 := Lib.hid (S1.out.below hb)
    clear hb
    go_wp2_with fail
    go_ret
    exact ⟨rfl, S2.out.base⟩
end Go.Proofs.YtflmpjejlkhpcaaDoor.Nodes

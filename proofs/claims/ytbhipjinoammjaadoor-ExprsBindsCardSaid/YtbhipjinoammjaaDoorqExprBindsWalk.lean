/-
  The walk of layer 5's statement ExprsBinds behind its guard.
-/
import Derived.Test.YtbhipjinoammjaaDoorPackE1
import Derived.Deep.RegionHeld3
import Derived.Outline
namespace Go.Proofs.YtbhipjinoammjaaDoor.ExprW
open Nodes Exprs
open Go.ChangeShapes Go.WideShapes Go.ChangeAt Go.RowKit

theorem str_line_fin : ∀ a b : Fin 13, (strV ((a.val : Int) + 7) = 3 ↔ line ((a.val : Int) + 7) = 3) ∧ (strV ((b.val : Int) + 7) ≤ strV ((a.val : Int) + 7) ↔ line ((b.val : Int) + 7) ≤ line ((a.val : Int) + 7)) := by decide +kernel
theorem str_line {k1 k2 : Int} (h1 : 7 ≤ k1 ∧ k1 ≤ 19) (h2 : 7 ≤ k2 ∧ k2 ≤ 19) : (strV k1 = 3 ↔ line k1 = 3) ∧ (strV k2 = 3 ↔ line k2 = 3) ∧ (strV k2 ≤ strV k1 ↔ line k2 ≤ line k1) := by
  have e1 : (((⟨(k1 - 7).toNat, by omega⟩ : Fin 13).val : Nat) : Int) + 7 = k1 := by show (((k1 - 7).toNat : Nat) : Int) + 7 = k1; omega
  have e2 : (((⟨(k2 - 7).toNat, by omega⟩ : Fin 13).val : Nat) : Int) + 7 = k2 := by show (((k2 - 7).toNat : Nat) : Int) + 7 = k2; omega
  have a := str_line_fin ⟨(k1 - 7).toNat, by omega⟩ ⟨(k2 - 7).toNat, by omega⟩
  have b := str_line_fin ⟨(k2 - 7).toNat, by omega⟩ ⟨(k1 - 7).toNat, by omega⟩
  rw [e1, e2] at a
  rw [e1, e2] at b
  exact ⟨a.1, b.1, a.2⟩
def opB (k : Int) : ByteArray := ⟨(opT k).toArray⟩
theorem op_cell (w : World) (k : Int) (h : 7 ≤ k ∧ k ≤ 19) (i : Nat) (hi : k - 7 = (i : Int)) : (w.alloc (.cells opVals 9)).cell? ⟨w.heap.size, i, none⟩ = some (.string (opB k)) := by
  have hl : i < 13 := by omega
  rw [cell_of (heap_alloc_new w _)]
  have : k.toNat - 7 = i := by omega
  unfold opB opT
  rw [this]
  have : ∀ i : Fin 13, opVals[i.val]? = some (.string ⟨(opTab.getD i.val []).toArray⟩) := by
    intro i
    match i with
    | 0 | 1 | 2 | 3 | 4 | 5 | 6 | 7 | 8 | 9 | 10 | 11 | 12 => rfl
  exact this ⟨i, hl⟩
theorem opB_short (k : Int) : (opB k).size ≤ 3 := by show (opT k).toArray.size ≤ 3; simpa using opT_short k
theorem u8_small (i : Nat) (h : i < 13) : IntKind.u8.wrap (i : Int) = (i : Int) := by
  match i, h with
  | 0, _ | 1, _ | 2, _ | 3, _ | 4, _ | 5, _ | 6, _ | 7, _ | 8, _ | 9, _ | 10, _ | 11, _ | 12, _ => rfl
/-- A node of two parts, made in a block of its own behind a row of the two. -/
theorem node_two_any {k : Int} (hk : 7 ≤ k ∧ k ≤ 19) {p q r : List Nd} (hn : nodeV k 0 0 [p, q] = (r, 0)) (hp : p.length ≤ 1000000) (hq : q.length ≤ 1000000) (vp vq : Value) (W : World) (h1 : ReadsN W vp p) (h2 : ReadsN W vq q) :
    Calls Tryd.prog 21 #[.int .u8 k, .int .i64 0, .int .i64 0, .slice (some ⟨W.heap.size, 0, none⟩) 2 2] (W.alloc (.cells #[vp, vq] 29)) fun e w' => ∃ ad cap, e = .returned (.tuple #[.slice ad r.length cap, .int .i64 0]) ∧ ReadsN w' (.slice ad r.length cap) r ∧ Below W.heap.size W w' := by
  refine (nodesNode_any k 0 0 _ [p, q] _ (lit_readsP_at [vp, vq] [p, q] 2 rfl W _ rfl (fun i z hz => ?_)) (by omega) (by omega) (fun z hz => ?_) (by simp)).mono ?_
  · match i with
    | 0 => simp at hz; subst hz; exact ⟨_, rfl, h1⟩
    | 1 => simp at hz; subst hz; exact ⟨_, rfl, h2⟩
    | i + 2 => simp at hz
  · simp at hz
    rcases hz with rfl | rfl
    · exact hp
    · exact hq
  · rintro e w' ⟨v, rfl, ho, hb⟩
    rw [hn] at ho ⊢
    obtain ⟨ad, cap, rfl⟩ := own_shape ho
    exact ⟨ad, cap, rfl, own_readsN ho, Nodes.below_box (Below.refl _ _) hb⟩
/-- What is held on to behind a call. -/
def HX (w W : World) : Prop := ExprFix W ∧ Below w.heap.size w W
theorem HX.then_ {w W W' : World} (h : HX w W) (hb : Below W.heap.size W W') : HX w W' := ⟨h.1.below hb, below_step h.2 hb⟩
theorem same_len {a b : List Nd} (h : sameV a b = (true, 0)) : a.length ≤ 1000000 ∧ b.length ≤ 1000000 := by
  unfold sameV at h
  by_cases ha : checkV a = 0
  · rw [if_pos ha] at h
    by_cases hb : checkV b = 0
    · have := small_valid ha
      have := small_valid hb
      omega
    · rw [if_neg hb] at h; cases h
  · rw [if_neg ha] at h; cases h
theorem bind_text (a b c o1 o2 : ByteArray) (k1 k2 : Int) (x y z : List UInt8) (ha : a.data.toList = x) (hb : b.data.toList = y) (hc : c.data.toList = z) (h1 : o1.data.toList = opT k1) (h2 : o2.data.toList = opT k2) :
    (({ data := #[40] } ++ a ++ { data := #[41, 32] } ++ o1 ++ { data := #[32, 40] } ++ b ++ { data := #[41, 32] } ++ o2 ++ { data := #[32, 40] } ++ c ++ { data := #[41] } : ByteArray)).data.toList = bindT k1 k2 x y z := by
  unfold bindT
  rw [← ha, ← hb, ← hc, ← h1, ← h2]
  simp [ByteArray.data_append]
set_option maxRecDepth 100000 in
set_option maxHeartbeats 4000000 in
theorem binds_in (vx vy vz : Value) (x y z : List Nd) (k1 k2 : Int) (w : World) (hX : ReadsN w vx x) (hY : ReadsN w vy y) (hZ : ReadsN w vz z) (nx : Wide x) (ny : Wide y) (nz : Wide z) (hf : ExprFix w)
    (lx : x.length ≤ 8) (ly : y.length ≤ 8) (lz : z.length ≤ 8) (cx : checkV x = 0) (cy : checkV y = 0) (cz : checkV z = 0) (hk1 : 7 ≤ k1 ∧ k1 ≤ 19) (hk2 : 7 ≤ k2 ∧ k2 ≤ 19) :
    Calls Tryd.prog 6 #[vx, vy, vz, .int .u8 k1, .int .u8 k2] w fun e w' => e = .returned (.bool true) ∧ Below w.heap.size w w' := by
  obtain ⟨ax, capx, rfl⟩ := hX.shape
  obtain ⟨ay, capy, rfl⟩ := hY.shape
  obtain ⟨az, capz, rfl⟩ := hZ.shape
  have F0 := Lib.hid hf
  have RX0 := Lib.hid hX
  have RY0 := Lib.hid hY
  have RZ0 := Lib.hid hZ
  have B0 := Lib.hid (Below.refl w.heap.size w)
  have AL := Lib.hid alive_any
  have CX := Lib.hid (fun W hW => refCheck_any (.slice ax x.length capx) x W hW (by omega))
  have CY := Lib.hid (fun W hW => refCheck_any (.slice ay y.length capy) y W hW (by omega))
  have CZ := Lib.hid (fun W hW => refCheck_any (.slice az z.length capz) z W hW (by omega))
  rw [cx] at CX
  rw [cy] at CY
  rw [cz] at CZ
  have TX := Lib.hid (fun W hW hr => exprsText_any (.slice ax x.length capx) x W hW hr (by omega) nx)
  have TY := Lib.hid (fun W hW hr => exprsText_any (.slice ay y.length capy) y W hW hr (by omega) ny)
  have TZ := Lib.hid (fun W hW hr => exprsText_any (.slice az z.length capz) z W hW hr (by omega) nz)
  obtain ⟨a, eqa⟩ : ∃ a : ByteArray, (⟨(textV x).1.toArray⟩ : ByteArray) = a := ⟨_, rfl⟩
  obtain ⟨b, eqb⟩ : ∃ a : ByteArray, (⟨(textV y).1.toArray⟩ : ByteArray) = a := ⟨_, rfl⟩
  obtain ⟨c, eqc⟩ : ∃ a : ByteArray, (⟨(textV z).1.toArray⟩ : ByteArray) = a := ⟨_, rfl⟩
  have la := text_long cx nx
  have lb := text_long cy ny
  have lc := text_long cz nz
  have sa : a.size ≤ 1800 := by rw [← eqa]; show (textV x).1.toArray.size ≤ 1800; simpa using la
  have sb : b.size ≤ 1800 := by rw [← eqb]; show (textV y).1.toArray.size ≤ 1800; simpa using lb
  have sc : c.size ≤ 1800 := by rw [← eqc]; show (textV z).1.toArray.size ≤ 1800; simpa using lc
  have ea : a.data.toList = (textV x).1 := by rw [← eqa]
  have eb : b.data.toList = (textV y).1 := by rw [← eqb]
  have ec : c.data.toList = (textV z).1 := by rw [← eqc]
  have EA := Lib.hid (And.intro ea (And.intro eb ec))
  clear ea eb ec
  unfold TextEnds at TX TY TZ
  rw [text_ok cx] at TX
  rw [text_ok cy] at TY
  rw [text_ok cz] at TZ
  simp only [eqa] at TX
  simp only [eqb] at TY
  simp only [eqc] at TZ
  obtain ⟨i1, hi1⟩ : ∃ i : Nat, k1 - 7 = (i : Int) := ⟨(k1 - 7).toNat, by omega⟩
  obtain ⟨i2, hi2⟩ : ∃ i : Nat, k2 - 7 = (i : Int) := ⟨(k2 - 7).toNat, by omega⟩
  obtain ⟨o1, ho1⟩ : ∃ o, opB k1 = o := ⟨_, rfl⟩
  obtain ⟨o2, ho2⟩ : ∃ o, opB k2 = o := ⟨_, rfl⟩
  have EO : Hid (o1.data.toList = opT k1 ∧ o2.data.toList = opT k2) := Lib.hid ⟨by rw [← ho1]; rfl, by rw [← ho2]; rfl⟩
  have z1 : o1.size ≤ 3 := by rw [← ho1]; exact opB_short k1
  have z2 : o2.size ≤ 3 := by rw [← ho2]; exact opB_short k2
  have b1 : (0 : Int) ≤ i1 := by omega
  have b2 : (0 : Int) ≤ i2 := by omega
  have b3 : (i1 : Int) < 13 := by omega
  have b4 : (i2 : Int) < 13 := by omega
  have u1 : IntKind.u8.wrap (i1 : Int) = (i1 : Int) := u8_small i1 (by omega)
  have u2 : IntKind.u8.wrap (i2 : Int) = (i2 : Int) := u8_small i2 (by omega)
  have q1 : (9223372036854775807 < 1 + a.size) = False := eq_false (by omega)
  have q2 : (9223372036854775807 < 1 + a.size + 2) = False := eq_false (by omega)
  have q3 : (9223372036854775807 < 1 + a.size + 2 + o1.size) = False := eq_false (by omega)
  have q4 : (9223372036854775807 < 1 + a.size + 2 + o1.size + 2) = False := eq_false (by omega)
  have q5 : (9223372036854775807 < 1 + a.size + 2 + o1.size + 2 + b.size) = False := eq_false (by omega)
  have q6 : (9223372036854775807 < 1 + a.size + 2 + o1.size + 2 + b.size + 2) = False := eq_false (by omega)
  have q7 : (9223372036854775807 < 1 + a.size + 2 + o1.size + 2 + b.size + 2 + o2.size) = False := eq_false (by omega)
  have q8 : (9223372036854775807 < 1 + a.size + 2 + o1.size + 2 + b.size + 2 + o2.size + 2) = False := eq_false (by omega)
  have q9 : (9223372036854775807 < 1 + a.size + 2 + o1.size + 2 + b.size + 2 + o2.size + 2 + c.size) = False := eq_false (by omega)
  have q10 : (9223372036854775807 < 1 + a.size + 2 + o1.size + 2 + b.size + 2 + o2.size + 2 + c.size + 1) = False := eq_false (by omega)
  go_enter Tryd.func6, Tryd.ntmps6
  go_wp2_with fail
  refine (CX.out _ RX0.out).mono ?_
  rintro e w1 ⟨rfl, hb⟩
  have F1 := Lib.hid (F0.out.below hb)
  have B1 := Lib.hid (below_step B0.out hb)
  have RX1 := Lib.hid (RX0.out.below hb)
  have RY1 := Lib.hid (RY0.out.below hb)
  have RZ1 := Lib.hid (RZ0.out.below hb)
  clear hb
  go_wp2_with fail
  refine (CY.out _ RY1.out).mono ?_
  rintro e w2 ⟨rfl, hb⟩
  have F2 := Lib.hid (F1.out.below hb)
  have B2 := Lib.hid (below_step B1.out hb)
  have RX2 := Lib.hid (RX1.out.below hb)
  have RY2 := Lib.hid (RY1.out.below hb)
  have RZ2 := Lib.hid (RZ1.out.below hb)
  clear hb
  go_wp2_with fail
  refine (CZ.out _ RZ2.out).mono ?_
  rintro e w3 ⟨rfl, hb⟩
  have F3 := Lib.hid (F2.out.below hb)
  have B3 := Lib.hid (below_step B2.out hb)
  have RX3 := Lib.hid (RX2.out.below hb)
  have RY3 := Lib.hid (RY2.out.below hb)
  have RZ3 := Lib.hid (RZ2.out.below hb)
  clear hb
  go_wp2_with fail
  refine (TX.out _ F3.out RX3.out).mono ?_
  rintro e w4 ⟨rfl, hb⟩
  have F4 := Lib.hid (F3.out.below hb)
  have B4 := Lib.hid (below_step B3.out hb)
  have RX4 := Lib.hid (RX3.out.below hb)
  have RY4 := Lib.hid (RY3.out.below hb)
  have RZ4 := Lib.hid (RZ3.out.below hb)
  clear hb
  go_wp2_with fail
  refine (TY.out _ F4.out RY4.out).mono ?_
  rintro e w5 ⟨rfl, hb⟩
  have F5 := Lib.hid (F4.out.below hb)
  have B5 := Lib.hid (below_step B4.out hb)
  have RX5 := Lib.hid (RX4.out.below hb)
  have RY5 := Lib.hid (RY4.out.below hb)
  have RZ5 := Lib.hid (RZ4.out.below hb)
  clear hb
  go_wp2_with fail
  refine (TZ.out _ F5.out RZ5.out).mono ?_
  rintro e w6 ⟨rfl, hb⟩
  have F6 := Lib.hid (F5.out.below hb)
  have B6 := Lib.hid (below_step B5.out hb)
  have RX6 := Lib.hid (RX5.out.below hb)
  have RY6 := Lib.hid (RY5.out.below hb)
  have RZ6 := Lib.hid (RZ5.out.below hb)
  clear hb
  go_wp2_with fail
  refine (operators_any _).mono ?_
  rintro e w7 ⟨rfl, hw7⟩
  have O1 := op_cell w6 k1 hk1 i1 hi1
  have O2 := op_cell w6 k2 hk2 i2 hi2
  have hb : Below w6.heap.size w6 w7 := by rw [← hw7]; exact (Below.refl w6.heap.size w6).alloc (Nat.le_refl _) _
  have hlt : w6.heap.size < w7.heap.size := by rw [← hw7]; simp
  rw [hw7] at O1 O2
  have F7 := Lib.hid (F6.out.below hb)
  have B7 := Lib.hid (below_step B6.out hb)
  have RX7 := Lib.hid (RX6.out.below hb)
  have RY7 := Lib.hid (RY6.out.below hb)
  have RZ7 := Lib.hid (RZ6.out.below hb)
  have HW7 := Lib.hid hw7
  rw [ho1] at O1
  rw [ho2] at O2
  obtain ⟨nb, hnb⟩ : ∃ n, w6.heap.size = n := ⟨_, rfl⟩
  have HNB := Lib.hid hnb
  rw [hnb] at O1 O2
  simp only [hnb]
  clear hb hw7 la lb lc hnb hlt
  go_wp2_with fail
  go_region_held3 (fun W => W.cell? ⟨nb, i1, none⟩ = some (.string o1) ∧ W.cell? ⟨nb, i2, none⟩ = some (.string o2)) (go_keep) (fail)
  rename_i hW8
  generalize hs : ({ data := #[40] } ++ a ++ { data := #[41, 32] } ++ o1 ++ { data := #[32, 40] } ++ b ++ { data := #[41, 32] } ++ o2 ++ { data := #[32, 40] } ++ c ++ { data := #[41] } : ByteArray) = s
  have hsl := bind_text a b c o1 o2 k1 k2 _ _ _ EA.out.1 EA.out.2.1 EA.out.2.2 EO.out.1 EO.out.2
  rw [hs] at hsl
  have hsz : s.size = s.data.toList.length := by simp
  have hb : Below w7.heap.size w7 w7.drew := Below.drew (Below.refl _ _)
  have O8 := Lib.hid hW8.2
  have F8 := Lib.hid (F7.out.below hb)
  have B8 := Lib.hid (below_step B7.out hb)
  have RX8 := Lib.hid (RX7.out.below hb)
  have RY8 := Lib.hid (RY7.out.below hb)
  have RZ8 := Lib.hid (RZ7.out.below hb)
  clear hb
  clear hs O1 O2 hW8 q1 q2 q3 q4 q5 q6 q7 q8 q9 q10 eqa eqb eqc sa sb sc ho1 z1
  by_cases hbig : (400 : Int) < s.size
  · clear hsl hsz cx cy cz hX hY hZ hf nx ny nz lx ly lz
    go_wp2_with fail
    refine (AL.out _ F8.out).mono ?_
    rintro e w9 ⟨rfl, hb⟩
    have B9 := Lib.hid (below_step B8.out hb)
    clear hb
    go_wp2_with fail
    go_ret
    exact ⟨rfl, B9.out⟩
  · obtain ⟨ts, n, wv, hall, hpar, hsame, hn1, hn2, hn3, hn4, hend, h200⟩ := binds_v cx cy cz nx ny nz lx ly lz hk1 hk2 (by rw [← hsl, ← hsz]; omega)
    have A := Lib.hid (fits_all s (by unfold maxLen; omega))
    have SH := all_short s.data.toList
    rw [hsl, hall] at A SH
    simp only at A SH
    have P := Lib.hid (fun v W hW hR => exprsParse_any v ts 0 W hW hR SH.1 SH.2)
    rw [hpar] at P
    have S1 := Lib.hid (strength_any k1 hk1.1 hk1.2)
    have S2 := Lib.hid (strength_any k2 hk2.1 hk2.2)
    obtain ⟨e1, e2, e3⟩ := str_line hk1 hk2
    have SL := same_len hsame
    have SM := Lib.hid (fun va vb W (hA : ReadsN W va wv) (hB : ReadsN W vb (bindV k1 k2 x y z)) => nodesSame_any va vb wv (bindV k1 k2 x y z) W hA hB SL.1 SL.2)
    rw [hsame] at SM
    obtain ⟨m1, hm1⟩ : ∃ m, strV k1 = m := ⟨_, rfl⟩
    obtain ⟨m2, hm2⟩ : ∃ m, strV k2 = m := ⟨_, rfl⟩
    rw [hm1] at S1 e1 e3
    rw [hm2] at S2 e2 e3
    have xl : x.length ≤ 1000000 := by omega
    have yl : y.length ≤ 1000000 := by omega
    have zl : z.length ≤ 1000000 := by omega
    have ml : ∀ (k : Int) (p q : List Nd), p.length ≤ 100 → q.length ≤ 100 → (madeL k 0 0 [p, q]).length ≤ 1000000 := fun k p q h1 h2 => by simp [madeL]; omega
    have NA := Lib.hid (node_two_any hk1 hn1 xl yl)
    have NB := Lib.hid (node_two_any hk2 hn2 (ml _ _ _ (by omega) (by omega)) zl)
    have NC := Lib.hid (node_two_any hk2 hn3 yl zl)
    have ND := Lib.hid (node_two_any hk1 hn4 xl (ml _ _ _ (by omega) (by omega)))
    obtain ⟨r1, hr1⟩ : ∃ r, madeL k1 0 0 [x, y] = r := ⟨_, rfl⟩
    obtain ⟨r2, hr2⟩ : ∃ r, madeL k2 0 0 [r1, z] = r := ⟨_, rfl⟩
    obtain ⟨r3, hr3⟩ : ∃ r, madeL k2 0 0 [y, z] = r := ⟨_, rfl⟩
    obtain ⟨r4, hr4⟩ : ∃ r, madeL k1 0 0 [x, r3] = r := ⟨_, rfl⟩
    rw [hr1] at NA NB
    rw [hr2] at NB
    rw [hr3] at NC ND
    rw [hr4] at ND
    have HEND := Lib.hid hend
    clear hsl hsz hall SH hpar cx cy cz hX hY hZ hf nx ny nz lx ly lz hn1 hn2 hn3 hn4 hsame SL hm1 hm2 ml hend
    by_cases h33 : line k1 = 3 ∧ line k2 = 3
    · obtain rfl : m1 = 3 := e1.2 h33.1
      obtain rfl : m2 = 3 := e2.2 h33.2
      have HE : bindV k1 k2 x y z = r1 := by unfold bindV; rw [if_pos h33, hr1]
      rw [HE] at SM
      obtain ⟨hlt, htx⟩ : ∃ h : n < ts.length, ts[n].text = opT k2 := by have := HEND.out; rwa [if_pos h33] at this
      clear e1 e2 e3 h33 HE hr1 hr2 hr3 hr4 NB NC ND
      go_wp2_with fail
      refine (A.out _ F8.out.1).mono ?_
      rintro e w9 ⟨u, rfl, hr, hb⟩
      obtain ⟨at_, capt, rfl⟩ := hr.shape
      have T9 := Lib.hid hr
      clear hr
      have F9 := Lib.hid (F8.out.below hb)
      have B9 := Lib.hid (below_step B8.out hb)
      have RX9 := Lib.hid (RX8.out.below hb)
      have RY9 := Lib.hid (RY8.out.below hb)
      have RZ9 := Lib.hid (RZ8.out.below hb)
      have O9 := Lib.hid ((hb.cell (p := ⟨nb, i2, none⟩) (World.block_lt_of_cell? _ _ O8.out)).trans O8.out)
      clear hb
      go_wp2_with fail
      refine (P.out _ _ F9.out T9.out).mono ?_
      rintro e w10 ⟨ug, rfl, ho, hb⟩
      obtain ⟨ag, capg, rfl⟩ := own_shape ho
      have G10 := Lib.hid (own_readsN ho)
      clear ho
      have F10 := Lib.hid (F9.out.below hb)
      have B10 := Lib.hid (below_step B9.out hb)
      have RX10 := Lib.hid (RX9.out.below hb)
      have RY10 := Lib.hid (RY9.out.below hb)
      have RZ10 := Lib.hid (RZ9.out.below hb)
      have O10 := Lib.hid ((hb.cell (p := ⟨nb, i2, none⟩) (World.block_lt_of_cell? _ _ O9.out)).trans O9.out)
      have T10 := Lib.hid (T9.out.below hb)
      clear hb
      go_wp2_with fail
      refine (S1.out _).mono ?_
      rintro e w11 ⟨rfl, rfl⟩
      go_wp2_with fail
      refine (S2.out _).mono ?_
      rintro e w11 ⟨rfl, rfl⟩
      go_wp2_with fail
      refine (NA.out _ _ _ RX10.out RY10.out).mono ?_
      rintro e w12 ⟨aw, capw, rfl, hw, hb⟩
      have V12 := Lib.hid hw
      clear hw
      have F12 := Lib.hid (F10.out.below hb)
      have B12 := Lib.hid (below_step B10.out hb)
      have RX12 := Lib.hid (RX10.out.below hb)
      have RY12 := Lib.hid (RY10.out.below hb)
      have RZ12 := Lib.hid (RZ10.out.below hb)
      have O12 := Lib.hid ((hb.cell (p := ⟨nb, i2, none⟩) (World.block_lt_of_cell? _ _ O10.out)).trans O10.out)
      have T12 := Lib.hid (T10.out.below hb)
      have G12 := Lib.hid (G10.out.below hb)
      clear hb
      go_wp2_with fail
      refine (SM.out _ _ _ G12.out V12.out).mono ?_
      rintro e w13 ⟨rfl, hb⟩
      have F13 := Lib.hid (F12.out.below hb)
      have B13 := Lib.hid (below_step B12.out hb)
      have RX13 := Lib.hid (RX12.out.below hb)
      have RY13 := Lib.hid (RY12.out.below hb)
      have RZ13 := Lib.hid (RZ12.out.below hb)
      have O13 := Lib.hid ((hb.cell (p := ⟨nb, i2, none⟩) (World.block_lt_of_cell? _ _ O12.out)).trans O12.out)
      have T13 := Lib.hid (T12.out.below hb)
      clear hb
      obtain ⟨bt, ot, capt2, tx, hv, hx, hbs, c0, c1, c2⟩ := T13.out.tok n hlt
      cases hv
      have o13 := O13.out
      have htc : tx = o2 := by apply ByteArray.ext; apply Array.toList_inj.1; rw [hx, htx, EO.out.2]
      subst htc
      have hd1 : decide (n < ts.length) = true := decide_eq_true hlt
      have HX : HX w w13 := ⟨F13.out, B13.out⟩
      have HXD : ∀ W, ExprW.HX w W → ExprW.HX w W.drew := fun W h => h.then_ (Below.drew (Below.refl _ _))
      have AL2 : Hid (∀ W, W.cell? ⟨bt, ot + n * 3 + 1, none⟩ = some (.string tx) → W.cell? ⟨nb, i2, none⟩ = some (.string tx) → ExprW.HX w W → Calls Tryd.prog 11 #[] W fun e w' => e = .returned (.bool true) ∧ w'.cell? ⟨bt, ot + n * 3 + 1, none⟩ = some (.string tx) ∧ w'.cell? ⟨nb, i2, none⟩ = some (.string tx) ∧ ExprW.HX w w') := Lib.hid fun W h1 h2 h3 => by
        refine (AL.out W h3.1).mono ?_
        rintro e w' ⟨rfl, hb⟩
        exact ⟨rfl, (hb.cell (p := ⟨_, _, none⟩) (World.block_lt_of_cell? _ _ h1)).trans h1, (hb.cell (p := ⟨_, _, none⟩) (World.block_lt_of_cell? _ _ h2)).trans h2, h3.then_ hb⟩
      clear hx htx
      go_wp2_with fail
      go_region_held3 (fun W => W.cell? ⟨bt, ot + n * 3 + 1, none⟩ = some (.string tx) ∧ W.cell? ⟨nb, i2, none⟩ = some (.string tx) ∧ ExprW.HX w W) (go_keep) (first | (go_at_call 11; refine (AL2.out _ ?_ ?_ ?_).mono ?_; (simp [*]); (simp [*]); (simp [*]); rintro e w14 ⟨rfl, g1, g2, g3⟩))
      go_wp2_with fail
      go_ret
      exact ⟨rfl, g3.2⟩
    · have hnn : (n : Int) = ts.length := by have := HEND.out; rw [if_neg h33] at this; rw [this]
      have hne : ¬ (m1 = 3 ∧ m2 = 3) := fun h => h33 ⟨e1.1 h.1, e2.1 h.2⟩
      by_cases hle : line k2 ≤ line k1
      · -- the second binds no more
        have HE : bindV k1 k2 x y z = r2 := by unfold bindV; rw [if_neg h33, if_pos hle, hr1, hr2]
        have hd : decide (m2 ≤ m1) = true := decide_eq_true (e3.2 hle)
        rw [HE] at SM
        clear e1 e2 e3 h33 HE hr1 hr2 hr3 hr4 hle NC ND
        cases t1 : (m1 == 3)
        · clear hne
          go_wp2_with fail
          refine (A.out _ F8.out.1).mono ?_
          rintro e w9 ⟨u, rfl, hr, hb⟩
          obtain ⟨at_, capt, rfl⟩ := hr.shape
          have T9 := Lib.hid hr
          clear hr
          have F9 := Lib.hid (F8.out.below hb)
          have B9 := Lib.hid (below_step B8.out hb)
          have RX9 := Lib.hid (RX8.out.below hb)
          have RY9 := Lib.hid (RY8.out.below hb)
          have RZ9 := Lib.hid (RZ8.out.below hb)
          have O9 := Lib.hid ((hb.cell (p := ⟨nb, i2, none⟩) (World.block_lt_of_cell? _ _ O8.out)).trans O8.out)
          clear hb
          go_wp2_with fail
          refine (P.out _ _ F9.out T9.out).mono ?_
          rintro e w10 ⟨ug, rfl, ho, hb⟩
          obtain ⟨ag, capg, rfl⟩ := own_shape ho
          have G10 := Lib.hid (own_readsN ho)
          clear ho
          have F10 := Lib.hid (F9.out.below hb)
          have B10 := Lib.hid (below_step B9.out hb)
          have RX10 := Lib.hid (RX9.out.below hb)
          have RY10 := Lib.hid (RY9.out.below hb)
          have RZ10 := Lib.hid (RZ9.out.below hb)
          have O10 := Lib.hid ((hb.cell (p := ⟨nb, i2, none⟩) (World.block_lt_of_cell? _ _ O9.out)).trans O9.out)
          have T10 := Lib.hid (T9.out.below hb)
          clear hb
          go_wp2_with fail
          refine (S1.out _).mono ?_
          rintro e w11 ⟨rfl, rfl⟩
          go_wp2_with fail
          refine (S1.out _).mono ?_
          rintro e w11 ⟨rfl, rfl⟩
          go_wp2_with fail
          refine (S2.out _).mono ?_
          rintro e w11 ⟨rfl, rfl⟩
          go_wp2_with fail
          refine (NA.out _ _ _ RX10.out RY10.out).mono ?_
          rintro e w12 ⟨aw, capw, rfl, hw, hb⟩
          have V12 := Lib.hid hw
          clear hw
          have F12 := Lib.hid (F10.out.below hb)
          have B12 := Lib.hid (below_step B10.out hb)
          have RX12 := Lib.hid (RX10.out.below hb)
          have RY12 := Lib.hid (RY10.out.below hb)
          have RZ12 := Lib.hid (RZ10.out.below hb)
          have O12 := Lib.hid ((hb.cell (p := ⟨nb, i2, none⟩) (World.block_lt_of_cell? _ _ O10.out)).trans O10.out)
          have T12 := Lib.hid (T10.out.below hb)
          have G12 := Lib.hid (G10.out.below hb)
          clear hb
          go_wp2_with fail
          refine (NB.out _ _ _ V12.out RZ12.out).mono ?_
          rintro e w13 ⟨av, capv, rfl, hw, hb⟩
          have V13 := Lib.hid hw
          clear hw
          have F13 := Lib.hid (F12.out.below hb)
          have B13 := Lib.hid (below_step B12.out hb)
          have RX13 := Lib.hid (RX12.out.below hb)
          have RY13 := Lib.hid (RY12.out.below hb)
          have RZ13 := Lib.hid (RZ12.out.below hb)
          have O13 := Lib.hid ((hb.cell (p := ⟨nb, i2, none⟩) (World.block_lt_of_cell? _ _ O12.out)).trans O12.out)
          have T13 := Lib.hid (T12.out.below hb)
          have G13 := Lib.hid (G12.out.below hb)
          clear hb
          go_wp2_with fail
          refine (SM.out _ _ _ G13.out V13.out).mono ?_
          rintro e w14 ⟨rfl, hb⟩
          have F14 := Lib.hid (F13.out.below hb)
          have B14 := Lib.hid (below_step B13.out hb)
          clear hb
          go_wp2_with fail
          refine (AL.out _ F14.out).mono ?_
          rintro e w15 ⟨rfl, hb⟩
          have B15 := Lib.hid (below_step B14.out hb)
          clear hb
          go_wp2_with fail
          go_ret
          exact ⟨rfl, B15.out⟩
        · have t2 : (m2 == 3) = false := by rw [beq_eq_false_iff_ne]; exact fun h => hne ⟨by simpa using t1, h⟩
          clear hne
          go_wp2_with fail
          refine (A.out _ F8.out.1).mono ?_
          rintro e w9 ⟨u, rfl, hr, hb⟩
          obtain ⟨at_, capt, rfl⟩ := hr.shape
          have T9 := Lib.hid hr
          clear hr
          have F9 := Lib.hid (F8.out.below hb)
          have B9 := Lib.hid (below_step B8.out hb)
          have RX9 := Lib.hid (RX8.out.below hb)
          have RY9 := Lib.hid (RY8.out.below hb)
          have RZ9 := Lib.hid (RZ8.out.below hb)
          have O9 := Lib.hid ((hb.cell (p := ⟨nb, i2, none⟩) (World.block_lt_of_cell? _ _ O8.out)).trans O8.out)
          clear hb
          go_wp2_with fail
          refine (P.out _ _ F9.out T9.out).mono ?_
          rintro e w10 ⟨ug, rfl, ho, hb⟩
          obtain ⟨ag, capg, rfl⟩ := own_shape ho
          have G10 := Lib.hid (own_readsN ho)
          clear ho
          have F10 := Lib.hid (F9.out.below hb)
          have B10 := Lib.hid (below_step B9.out hb)
          have RX10 := Lib.hid (RX9.out.below hb)
          have RY10 := Lib.hid (RY9.out.below hb)
          have RZ10 := Lib.hid (RZ9.out.below hb)
          have O10 := Lib.hid ((hb.cell (p := ⟨nb, i2, none⟩) (World.block_lt_of_cell? _ _ O9.out)).trans O9.out)
          have T10 := Lib.hid (T9.out.below hb)
          clear hb
          go_wp2_with fail
          refine (S1.out _).mono ?_
          rintro e w11 ⟨rfl, rfl⟩
          go_wp2_with fail
          refine (S2.out _).mono ?_
          rintro e w11 ⟨rfl, rfl⟩
          go_wp2_with fail
          refine (S1.out _).mono ?_
          rintro e w11 ⟨rfl, rfl⟩
          go_wp2_with fail
          refine (S2.out _).mono ?_
          rintro e w11 ⟨rfl, rfl⟩
          go_wp2_with fail
          refine (NA.out _ _ _ RX10.out RY10.out).mono ?_
          rintro e w12 ⟨aw, capw, rfl, hw, hb⟩
          have V12 := Lib.hid hw
          clear hw
          have F12 := Lib.hid (F10.out.below hb)
          have B12 := Lib.hid (below_step B10.out hb)
          have RX12 := Lib.hid (RX10.out.below hb)
          have RY12 := Lib.hid (RY10.out.below hb)
          have RZ12 := Lib.hid (RZ10.out.below hb)
          have O12 := Lib.hid ((hb.cell (p := ⟨nb, i2, none⟩) (World.block_lt_of_cell? _ _ O10.out)).trans O10.out)
          have T12 := Lib.hid (T10.out.below hb)
          have G12 := Lib.hid (G10.out.below hb)
          clear hb
          go_wp2_with fail
          refine (NB.out _ _ _ V12.out RZ12.out).mono ?_
          rintro e w13 ⟨av, capv, rfl, hw, hb⟩
          have V13 := Lib.hid hw
          clear hw
          have F13 := Lib.hid (F12.out.below hb)
          have B13 := Lib.hid (below_step B12.out hb)
          have RX13 := Lib.hid (RX12.out.below hb)
          have RY13 := Lib.hid (RY12.out.below hb)
          have RZ13 := Lib.hid (RZ12.out.below hb)
          have O13 := Lib.hid ((hb.cell (p := ⟨nb, i2, none⟩) (World.block_lt_of_cell? _ _ O12.out)).trans O12.out)
          have T13 := Lib.hid (T12.out.below hb)
          have G13 := Lib.hid (G12.out.below hb)
          clear hb
          go_wp2_with fail
          refine (SM.out _ _ _ G13.out V13.out).mono ?_
          rintro e w14 ⟨rfl, hb⟩
          have F14 := Lib.hid (F13.out.below hb)
          have B14 := Lib.hid (below_step B13.out hb)
          clear hb
          go_wp2_with fail
          refine (AL.out _ F14.out).mono ?_
          rintro e w15 ⟨rfl, hb⟩
          have B15 := Lib.hid (below_step B14.out hb)
          clear hb
          go_wp2_with fail
          go_ret
          exact ⟨rfl, B15.out⟩
      · -- the second binds more
        have HE : bindV k1 k2 x y z = r4 := by unfold bindV; rw [if_neg h33, if_neg hle, hr3, hr4]
        have hd : decide (m2 ≤ m1) = false := decide_eq_false fun h => hle (e3.1 h)
        rw [HE] at SM
        clear e1 e2 e3 h33 HE hr1 hr2 hr3 hr4 hle NA NB
        cases t1 : (m1 == 3)
        · clear hne
          go_wp2_with fail
          refine (A.out _ F8.out.1).mono ?_
          rintro e w9 ⟨u, rfl, hr, hb⟩
          obtain ⟨at_, capt, rfl⟩ := hr.shape
          have T9 := Lib.hid hr
          clear hr
          have F9 := Lib.hid (F8.out.below hb)
          have B9 := Lib.hid (below_step B8.out hb)
          have RX9 := Lib.hid (RX8.out.below hb)
          have RY9 := Lib.hid (RY8.out.below hb)
          have RZ9 := Lib.hid (RZ8.out.below hb)
          have O9 := Lib.hid ((hb.cell (p := ⟨nb, i2, none⟩) (World.block_lt_of_cell? _ _ O8.out)).trans O8.out)
          clear hb
          go_wp2_with fail
          refine (P.out _ _ F9.out T9.out).mono ?_
          rintro e w10 ⟨ug, rfl, ho, hb⟩
          obtain ⟨ag, capg, rfl⟩ := own_shape ho
          have G10 := Lib.hid (own_readsN ho)
          clear ho
          have F10 := Lib.hid (F9.out.below hb)
          have B10 := Lib.hid (below_step B9.out hb)
          have RX10 := Lib.hid (RX9.out.below hb)
          have RY10 := Lib.hid (RY9.out.below hb)
          have RZ10 := Lib.hid (RZ9.out.below hb)
          have O10 := Lib.hid ((hb.cell (p := ⟨nb, i2, none⟩) (World.block_lt_of_cell? _ _ O9.out)).trans O9.out)
          have T10 := Lib.hid (T9.out.below hb)
          clear hb
          go_wp2_with fail
          refine (S1.out _).mono ?_
          rintro e w11 ⟨rfl, rfl⟩
          go_wp2_with fail
          refine (S1.out _).mono ?_
          rintro e w11 ⟨rfl, rfl⟩
          go_wp2_with fail
          refine (S2.out _).mono ?_
          rintro e w11 ⟨rfl, rfl⟩
          go_wp2_with fail
          refine (NC.out _ _ _ RY10.out RZ10.out).mono ?_
          rintro e w12 ⟨aw, capw, rfl, hw, hb⟩
          have V12 := Lib.hid hw
          clear hw
          have F12 := Lib.hid (F10.out.below hb)
          have B12 := Lib.hid (below_step B10.out hb)
          have RX12 := Lib.hid (RX10.out.below hb)
          have RY12 := Lib.hid (RY10.out.below hb)
          have RZ12 := Lib.hid (RZ10.out.below hb)
          have O12 := Lib.hid ((hb.cell (p := ⟨nb, i2, none⟩) (World.block_lt_of_cell? _ _ O10.out)).trans O10.out)
          have T12 := Lib.hid (T10.out.below hb)
          have G12 := Lib.hid (G10.out.below hb)
          clear hb
          go_wp2_with fail
          refine (ND.out _ _ _ RX12.out V12.out).mono ?_
          rintro e w13 ⟨av, capv, rfl, hw, hb⟩
          have V13 := Lib.hid hw
          clear hw
          have F13 := Lib.hid (F12.out.below hb)
          have B13 := Lib.hid (below_step B12.out hb)
          have RX13 := Lib.hid (RX12.out.below hb)
          have RY13 := Lib.hid (RY12.out.below hb)
          have RZ13 := Lib.hid (RZ12.out.below hb)
          have O13 := Lib.hid ((hb.cell (p := ⟨nb, i2, none⟩) (World.block_lt_of_cell? _ _ O12.out)).trans O12.out)
          have T13 := Lib.hid (T12.out.below hb)
          have G13 := Lib.hid (G12.out.below hb)
          clear hb
          go_wp2_with fail
          refine (SM.out _ _ _ G13.out V13.out).mono ?_
          rintro e w14 ⟨rfl, hb⟩
          have F14 := Lib.hid (F13.out.below hb)
          have B14 := Lib.hid (below_step B13.out hb)
          clear hb
          go_wp2_with fail
          refine (AL.out _ F14.out).mono ?_
          rintro e w15 ⟨rfl, hb⟩
          have B15 := Lib.hid (below_step B14.out hb)
          clear hb
          go_wp2_with fail
          go_ret
          exact ⟨rfl, B15.out⟩
        · have t2 : (m2 == 3) = false := by rw [beq_eq_false_iff_ne]; exact fun h => hne ⟨by simpa using t1, h⟩
          clear hne
          go_wp2_with fail
          refine (A.out _ F8.out.1).mono ?_
          rintro e w9 ⟨u, rfl, hr, hb⟩
          obtain ⟨at_, capt, rfl⟩ := hr.shape
          have T9 := Lib.hid hr
          clear hr
          have F9 := Lib.hid (F8.out.below hb)
          have B9 := Lib.hid (below_step B8.out hb)
          have RX9 := Lib.hid (RX8.out.below hb)
          have RY9 := Lib.hid (RY8.out.below hb)
          have RZ9 := Lib.hid (RZ8.out.below hb)
          have O9 := Lib.hid ((hb.cell (p := ⟨nb, i2, none⟩) (World.block_lt_of_cell? _ _ O8.out)).trans O8.out)
          clear hb
          go_wp2_with fail
          refine (P.out _ _ F9.out T9.out).mono ?_
          rintro e w10 ⟨ug, rfl, ho, hb⟩
          obtain ⟨ag, capg, rfl⟩ := own_shape ho
          have G10 := Lib.hid (own_readsN ho)
          clear ho
          have F10 := Lib.hid (F9.out.below hb)
          have B10 := Lib.hid (below_step B9.out hb)
          have RX10 := Lib.hid (RX9.out.below hb)
          have RY10 := Lib.hid (RY9.out.below hb)
          have RZ10 := Lib.hid (RZ9.out.below hb)
          have O10 := Lib.hid ((hb.cell (p := ⟨nb, i2, none⟩) (World.block_lt_of_cell? _ _ O9.out)).trans O9.out)
          have T10 := Lib.hid (T9.out.below hb)
          clear hb
          go_wp2_with fail
          refine (S1.out _).mono ?_
          rintro e w11 ⟨rfl, rfl⟩
          go_wp2_with fail
          refine (S2.out _).mono ?_
          rintro e w11 ⟨rfl, rfl⟩
          go_wp2_with fail
          refine (S1.out _).mono ?_
          rintro e w11 ⟨rfl, rfl⟩
          go_wp2_with fail
          refine (S2.out _).mono ?_
          rintro e w11 ⟨rfl, rfl⟩
          go_wp2_with fail
          refine (NC.out _ _ _ RY10.out RZ10.out).mono ?_
          rintro e w12 ⟨aw, capw, rfl, hw, hb⟩
          have V12 := Lib.hid hw
          clear hw
          have F12 := Lib.hid (F10.out.below hb)
          have B12 := Lib.hid (below_step B10.out hb)
          have RX12 := Lib.hid (RX10.out.below hb)
          have RY12 := Lib.hid (RY10.out.below hb)
          have RZ12 := Lib.hid (RZ10.out.below hb)
          have O12 := Lib.hid ((hb.cell (p := ⟨nb, i2, none⟩) (World.block_lt_of_cell? _ _ O10.out)).trans O10.out)
          have T12 := Lib.hid (T10.out.below hb)
          have G12 := Lib.hid (G10.out.below hb)
          clear hb
          go_wp2_with fail
          refine (ND.out _ _ _ RX12.out V12.out).mono ?_
          rintro e w13 ⟨av, capv, rfl, hw, hb⟩
          have V13 := Lib.hid hw
          clear hw
          have F13 := Lib.hid (F12.out.below hb)
          have B13 := Lib.hid (below_step B12.out hb)
          have RX13 := Lib.hid (RX12.out.below hb)
          have RY13 := Lib.hid (RY12.out.below hb)
          have RZ13 := Lib.hid (RZ12.out.below hb)
          have O13 := Lib.hid ((hb.cell (p := ⟨nb, i2, none⟩) (World.block_lt_of_cell? _ _ O12.out)).trans O12.out)
          have T13 := Lib.hid (T12.out.below hb)
          have G13 := Lib.hid (G12.out.below hb)
          clear hb
          go_wp2_with fail
          refine (SM.out _ _ _ G13.out V13.out).mono ?_
          rintro e w14 ⟨rfl, hb⟩
          have F14 := Lib.hid (F13.out.below hb)
          have B14 := Lib.hid (below_step B13.out hb)
          clear hb
          go_wp2_with fail
          refine (AL.out _ F14.out).mono ?_
          rintro e w15 ⟨rfl, hb⟩
          have B15 := Lib.hid (below_step B14.out hb)
          clear hb
          go_wp2_with fail
          go_ret
          exact ⟨rfl, B15.out⟩
end Go.Proofs.YtbhipjinoammjaaDoor.ExprW

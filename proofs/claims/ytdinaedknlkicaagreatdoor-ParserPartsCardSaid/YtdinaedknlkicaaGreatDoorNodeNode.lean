/-
  Contract of nodes.Node at the landed code (layer 4): an expression made of parts.
-/
import Derived.Test.YtdinaedknlkicaaGreatDoorNodeShift
import Derived.Test.YtdinaedknlkicaaGreatDoorNodeSame
import Derived.LoopN
import Derived.Outline
namespace Go.Proofs.YtdinaedknlkicaaGreatDoor.Nodes
open Go.ChangeShapes Go.WideShapes Go.ChangeAt Go.RowKit

theorem nodesParts_any (k : Int) (_h0 : 0 ≤ k) (_h1 : k ≤ 255) (w : World) :
    Calls Tryz.prog 102 #[.int .u8 k] w fun e w' => e = .returned (.tuple #[.int .i64 (partsV k).1, .int .i64 (partsV k).2]) ∧ Below w.heap.size w w' :=
  (nodesParts_same k w).mono fun _ _ ⟨h, e⟩ => ⟨h, e ▸ Below.refl _ _⟩

/-! ### What Node returns, case by case -/
def okArgs (k n at_ : Int) (c : Nat) : Prop := 1 ≤ k ∧ k ≤ 19 ∧ arity k = c ∧ 0 ≤ n ∧ (n = 0 ∨ k = 1) ∧ 0 ≤ at_ ∧ at_ ≤ 400
theorem args_iff {k n at_ : Int} {c : Nat} : okArgs k n at_ c ↔ inB k 1 19 = true ∧ arity k = c ∧ fitsB k n at_ = true := by
  unfold okArgs inB fitsB
  rw [decide_eq_true_iff, decide_eq_true_iff]
  omega
theorem nodeV_arg {k n at_ : Int} {ps : List (List Nd)} (h : ¬ okArgs k n at_ ps.length) : nodeV k n at_ ps = ([], 2) := by
  unfold okArgs at h; unfold nodeV; rw [if_neg h]
theorem nodeV_bad {k n at_ : Int} {ps : List (List Nd)} {p : List Nd} (h : okArgs k n at_ ps.length) (hf : ps.find? badP = some p) : nodeV k n at_ ps = ([], checkV p) := by
  unfold okArgs at h; unfold nodeV; rw [if_pos h, hf]
theorem nodeV_all {k n at_ : Int} {ps : List (List Nd)} {M : List Nd} (h : okArgs k n at_ ps.length) (hp : ∀ p ∈ ps, checkV p = 0) (hM : madeL k n at_ ps = M) : nodeV k n at_ ps = if checkV M = 0 then (M, 0) else ([], checkV M) := by
  subst hM
  unfold okArgs at h; unfold nodeV; rw [if_pos h]
  have : ps.find? badP = none := List.find?_eq_none.2 fun p hq => by unfold badP; rw [hp p hq]; simp
  rw [this]
theorem bad_yes {p : List Nd} (h : checkV p ≠ 0) : badP p = true := by unfold badP; rw [bne_iff_ne]; exact h
theorem bad_no {p : List Nd} (h : checkV p = 0) : badP p = false := by unfold badP; rw [h]; rfl
theorem find_one {p : List Nd} (h : checkV p ≠ 0) : ([p] : List (List Nd)).find? badP = some p := by rw [List.find?_cons, bad_yes h]
theorem find_first {p q : List Nd} (h : checkV p ≠ 0) : ([p, q] : List (List Nd)).find? badP = some p := by rw [List.find?_cons, bad_yes h]
theorem find_next {p q : List Nd} (h : checkV p = 0) (h2 : checkV q ≠ 0) : ([p, q] : List (List Nd)).find? badP = some q := by rw [List.find?_cons, bad_no h, List.find?_cons, bad_yes h2]
theorem rowN_join (a b : List Nd) : rowN (a ++ b) = rowN a ++ rowN b := by simp [rowN, List.flatMap_append]
theorem map_zero (p : List Nd) : p.map (shift (-0)) = p := by
  conv => rhs; rw [← List.map_id p]
  exact List.map_congr_left fun x _ => shift_zero x
theorem oneN (l : List Nd) : ∀ u ∈ rowN l, u.oneCell' = true := by
  intro u hu
  unfold rowN at hu
  rw [List.mem_flatMap] at hu
  obtain ⟨x, _, hx⟩ := hu
  simp [ndCells] at hx
  rcases hx with rfl | rfl | rfl | rfl | rfl <;> rfl
theorem made_ok {k n at_ : Int} {ps : List (List Nd)} {M : List Nd} {w w' : World} {v : Value} (hV : nodeV k n at_ ps = if checkV M = 0 then (M, 0) else ([], checkV M)) (h : checkV M = 0) {base : Nat} (ho : w'.ownsRow base 43 5 v M.length (rowN M)) (hb : w.heap.size ≤ base) (hB : Below w.heap.size w w') :
    ListEnds (nodeV k n at_ ps) w (.returned (.tuple #[v, .int .i64 0])) w' := by
  rw [hV, if_pos h]
  exact ⟨v, rfl, own_lower ho hb, hB⟩
theorem made_err {k n at_ er : Int} {ps : List (List Nd)} {w w' : World} (hV : nodeV k n at_ ps = ([], er)) (hB : Below w.heap.size w w') :
    ListEnds (nodeV k n at_ ps) w (.returned (.tuple #[.slice none 0 0, .int .i64 er])) w' := by
  rw [hV]
  exact ⟨_, rfl, World.ownsRow_nil _ _ _ _, hB⟩

/-! ### The ends of the parts, in a block of the call's own -/
def EndsAt (w : World) (e0 e1 : Int) (W : World) : Prop :=
  W.cell? ⟨w.heap.size, 0, none⟩ = some (.int .i64 e0) ∧ W.cell? ⟨w.heap.size, 1, none⟩ = some (.int .i64 e1) ∧ W.frozen? ⟨w.heap.size, 0, none⟩ = false ∧ W.frozen? ⟨w.heap.size, 1, none⟩ = false ∧ w.heap.size < W.heap.size ∧ Below w.heap.size w W
theorem EndsAt.then_ {w W W' : World} {e0 e1 : Int} (h : EndsAt w e0 e1 W) (hb : Below W.heap.size W W') : EndsAt w e0 e1 W' := by
  obtain ⟨h0, h1, h2, h3, h4, h5⟩ := h
  exact ⟨(hb.cell (p := ⟨_, _, none⟩) h4).trans h0, (hb.cell (p := ⟨_, _, none⟩) h4).trans h1, (hb.frozen (p := ⟨_, _, none⟩) h4).trans h2, (hb.frozen (p := ⟨_, _, none⟩) h4).trans h3, Nat.lt_of_lt_of_le h4 hb.size, below_then h5 hb⟩
theorem EndsAt.alloc_ {w W : World} {e0 e1 : Int} (h : EndsAt w e0 e1 W) (o : Obj) : EndsAt w e0 e1 (W.alloc o) := h.then_ ((Below.refl _ _).alloc (Nat.le_refl _) _)
theorem EndsAt.grown {w W W' : World} {e0 e1 : Int} {row : Option Nat} (h : EndsAt w e0 e1 W) (hg : W.grownBy W' row) (hr : ∀ k, row = some k → w.heap.size + 1 ≤ k) : EndsAt w e0 e1 W' := by
  obtain ⟨h0, h1, h2, h3, h4, h5⟩ := h
  have hk : W'.heap[w.heap.size]? = W.heap[w.heap.size]? := hg.block _ h4 (by intro e; first | (have := hr _ e; omega) | (have := hr _ e.symm; omega))
  have hc : ∀ j, W'.cell? ⟨w.heap.size, j, none⟩ = W.cell? ⟨w.heap.size, j, none⟩ := fun j => by simp only [World.cell?, hk]
  have hf : ∀ j, W'.frozen? ⟨w.heap.size, j, none⟩ = W.frozen? ⟨w.heap.size, j, none⟩ := fun j => by simp only [World.frozen?, hk]
  exact ⟨(hc 0).trans h0, (hc 1).trans h1, (hf 0).trans h2, (hf 1).trans h3, Nat.lt_of_lt_of_le h4 hg.size, h5.grown hg h5.size (fun k e => by have := hr k e; omega)⟩
theorem EndsAt.set0 {w W : World} {e0 e1 : Int} (h : EndsAt w e0 e1 W) (e : Int) : EndsAt w e e1 (W.setCell ⟨w.heap.size, 0, none⟩ (.int .i64 e)) := by
  obtain ⟨h0, h1, h2, h3, h4, h5⟩ := h
  refine ⟨?_, ?_, ?_, ?_, ?_, h5.setCell (Nat.le_refl _) _⟩
  all_goals simp [go_sem, h0, h1, h2, h3, h4]
theorem EndsAt.set1 {w W : World} {e0 e1 : Int} (h : EndsAt w e0 e1 W) (e : Int) : EndsAt w e0 e (W.setCell ⟨w.heap.size, 1, none⟩ (.int .i64 e)) := by
  obtain ⟨h0, h1, h2, h3, h4, h5⟩ := h
  refine ⟨?_, ?_, ?_, ?_, ?_, h5.setCell (Nat.le_refl _) _⟩
  all_goals simp [go_sem, h0, h1, h2, h3, h4]
theorem EndsAt.new (w : World) (T : TypeId) : EndsAt w 0 0 (w.alloc (Obj.cells #[.int .i64 0, .int .i64 0] T)) := by
  refine ⟨?_, ?_, ?_, ?_, ?_, (Below.refl w.heap.size w).alloc (Nat.le_refl _) _⟩
  all_goals simp [go_sem]
theorem EndsAt.below {w W : World} {e0 e1 : Int} (h : EndsAt w e0 e1 W) : Below w.heap.size w W := h.2.2.2.2.2
theorem EndsAt.lt {w W : World} {e0 e1 : Int} (h : EndsAt w e0 e1 W) : w.heap.size < W.heap.size := h.2.2.2.2.1
theorem own_ne {w : World} {base n : Nat} {e : TypeId} {size : Nat} {v : Value} {xs : List Value} (h : w.ownsRow base e size v n xs) {b : Nat} (hb : b < base) : v.ownBlock ≠ some b := fun he => by
  have := (h.lt _ he).1
  omega
/-- A row of nodes that is not empty: its address, and its cells. -/
theorem own_addr {w : World} {base c : Nat} {v : Value} {l : List Nd} (h : w.ownsRow base 43 5 v c (rowN l)) (hl : 0 < c) :
    ∃ g cap, v = .slice (some ⟨g, 0, none⟩) c cap ∧ ∀ j u, (rowN l)[j]? = some u → w.cell? ((⟨g, 0, none⟩ : Addr).add j) = some u := by
  rcases h.2 with ⟨rfl, h0⟩ | ⟨g, cap, cur, rfl, hb, hg, _⟩
  · omega
  · exact ⟨g, cap, rfl, h.cells (g := g) rfl⟩

theorem readsP_one {w : World} {vp : Value} {p : List Nd} (h : ReadsP w vp [p]) : ∃ b o cap v0, vp = .slice (some ⟨b, o, none⟩) 1 cap ∧ b < w.heap.size ∧ w.cell? ⟨b, o, none⟩ = some v0 ∧ ReadsN w v0 p := by
  rcases h with ⟨h, _⟩ | ⟨b, o, cap, rfl, hb, ht⟩
  · cases h
  · obtain ⟨v0, h0, r0⟩ := ht 0 p rfl
    exact ⟨b, o, cap, v0, rfl, hb, h0, r0⟩
theorem readsP_two {w : World} {vp : Value} {p q : List Nd} (h : ReadsP w vp [p, q]) : ∃ b o cap v0 v1, vp = .slice (some ⟨b, o, none⟩) 2 cap ∧ b < w.heap.size ∧ w.cell? ⟨b, o, none⟩ = some v0 ∧ w.cell? ⟨b, o + 1, none⟩ = some v1 ∧ ReadsN w v0 p ∧ ReadsN w v1 q := by
  rcases h with ⟨h, _⟩ | ⟨b, o, cap, rfl, hb, ht⟩
  · cases h
  · obtain ⟨v0, h0, r0⟩ := ht 0 p rfl
    obtain ⟨v1, h1, r1⟩ := ht 1 q rfl
    exact ⟨b, o, cap, v0, v1, rfl, hb, h0, h1, r0, r1⟩
set_option maxRecDepth 100000 in
set_option maxHeartbeats 4000000 in
theorem node_leaf (k n at_ : Int) (vp : Value) (w : World) (hR : ReadsP w vp []) (hA : okArgs k n at_ 0) :
    Calls Tryz.prog 117 #[.int .u8 k, .int .i64 n, .int .i64 at_, vp] w (ListEnds (nodeV k n at_ []) w) := by
  obtain ⟨i0, hi, hz0, hz1, hz2⟩ := info_parts info_nd
  have HI := Lib.hid (And.intro hi (And.intro hz0 (And.intro hz1 hz2)))
  obtain ⟨ad, cap, rfl⟩ : ∃ ad cap, vp = .slice ad 0 cap := by
    rcases hR with ⟨_, h⟩ | ⟨b, o, cap, rfl, _⟩
    · exact h
    · exact ⟨_, _, rfl⟩
  obtain ⟨M, hM⟩ : ∃ M, madeL k n at_ [] = M := ⟨_, rfl⟩
  have HV := Lib.hid (nodeV_all hA (fun p hp => by cases hp) hM)
  have HM : Hid (M = [] ++ [⟨k, n, 0, 0, at_⟩] ∧ M.length = 0 + 1) := Lib.hid (by subst hM; exact ⟨rfl, rfl⟩)
  have P := Lib.hid (fun W => nodesParts_same k W)
  have F := Lib.hid (fun W => fits_any k n at_ W)
  obtain ⟨a1, a2, a3⟩ := args_iff.1 hA
  rw [parts_ok hA.1 hA.2.1, a2] at P
  rw [a3] at F
  clear hR hA a1 a2 a3 hM hi hz0 hz1 hz2
  go_enter Tryz.func117, Tryz.ntmps117
  go_wp2_with fail
  refine (P.out _).mono ?_
  rintro e w2 ⟨rfl, rfl⟩
  go_wp2_with fail
  refine (F.out _).mono ?_
  rintro e w2 ⟨rfl, rfl⟩
  go_wp2_with fail
  refine at_world (EndsAt w 0 0) (EndsAt.new w _) ?_
  intro W hW
  have HE := Lib.hid hW
  obtain ⟨g0, g1, f0, f1, hsz, _⟩ := hW
  have HO : Hid (W.ownsRow (w.heap.size + 1) 43 5 (.slice none 0 0) 0 (rowN [])) := Lib.hid (World.ownsRow_nil _ _ _ _)
  refine wp_loop_rounds 1 ?_
  rw [rounds_succ]
  go_wp2_with (at_builtin; refine wpList_append_own _ rfl _ _ 23 rfl (w.heap.size + 1) 43 i0 (.agg #[.int .u8 0, .int .i64 0, .int .i64 0, .int .i64 0, .int .i64 0]) 5 40 Tryz.underlying23 HI.out.1 HI.out.2.1 HI.out.2.2.1 HI.out.2.2.2 rfl (by decide) _ _ _ rfl (HO.out.alloc _) ⟨W.heap.size, 0, none⟩ 1 1 [.int .u8 k, .int .i64 n, .int .i64 0, .int .i64 0, .int .i64 at_] rfl rfl ?c1 ?c2 ?c3 ?c4 ?c5 ?_)
  case c1 =>
    intro q u hq
    match q with
    | 0 => simp at hq; subst hq; simp [go_sem, Addr.add]
    | 1 => simp at hq; subst hq; simp [go_sem, Addr.add]
    | 2 => simp at hq; subst hq; simp [go_sem, Addr.add]
    | 3 => simp at hq; subst hq; simp [go_sem, Addr.add]
    | 4 => simp at hq; subst hq; simp [go_sem, Addr.add]
    | q + 5 => simp at hq
  case c2 => intro u hu; simp at hu; rcases hu with rfl | rfl | rfl | rfl | rfl <;> rfl
  case c3 => unfold maxLen; omega
  case c4 => omega
  case c5 => have := HE.out.lt; simp; omega
  intro vm w8 hown hgrow _
  have HE8 := Lib.hid ((HE.out.alloc_ _).grown hgrow (fun k e => (HO.out.lt k e).1))
  have HO8 : Hid (w8.ownsRow (w.heap.size + 1) 43 5 vm M.length (rowN M)) := Lib.hid (by
    have e1 : M.length = 0 + 1 := HM.out.2
    rw [e1, HM.out.1, rowN_add]
    exact hown)
  clear hown hgrow
  have CM := Lib.hid (nodesCheck_any vm M w8 (own_readsN HO8.out) (by have := HM.out.2; omega))
  by_cases hM : checkV M = 0
  · rw [hM] at CM
    go_wp2_with fail
    refine CM.out.mono ?_
    rintro e w9 ⟨rfl, hb⟩
    have HO9 := Lib.hid (own_below HO8.out hb)
    have HE9 := Lib.hid (HE8.out.then_ hb)
    clear hb
    go_wp2_with fail
    go_ret2
    exact made_ok HV.out hM HO9.out (Nat.le_succ _) HE9.out.below
  · have q9 : (checkV M != 0) = true := by rw [bne_iff_ne]; exact hM
    go_wp2_with fail
    refine CM.out.mono ?_
    rintro e w9 ⟨rfl, hb⟩
    have HE9 := Lib.hid (HE8.out.then_ hb)
    clear hb
    go_wp2_with fail
    go_ret2
    exact made_err (by rw [HV.out, if_neg hM]) HE9.out.below
set_option maxRecDepth 100000 in
set_option maxHeartbeats 4000000 in
theorem node_one (k n at_ : Int) (vp : Value) (p : List Nd) (w : World) (hR : ReadsP w vp [p]) (hn : p.length ≤ 1000000) (hA : okArgs k n at_ 1) :
    Calls Tryz.prog 117 #[.int .u8 k, .int .i64 n, .int .i64 at_, vp] w (ListEnds (nodeV k n at_ [p]) w) := by
  obtain ⟨i0, hi, hz0, hz1, hz2⟩ := info_parts info_nd
  have HI := Lib.hid (And.intro hi (And.intro hz0 (And.intro hz1 hz2)))
  obtain ⟨b, o, cap, v0, rfl, hb, h0, r0⟩ := readsP_one hR
  have R0 := Lib.hid r0
  have C0 := Lib.hid (fun (W : World) h => nodesCheck_any v0 p W h hn)
  have P := Lib.hid (fun W => nodesParts_same k W)
  have F := Lib.hid (fun W => fits_any k n at_ W)
  obtain ⟨a1, a2, a3⟩ := args_iff.1 hA
  rw [parts_ok hA.1 hA.2.1, a2] at P
  rw [a3] at F
  by_cases hc : checkV p = 0
  case neg =>
    have HV := Lib.hid (nodeV_bad (ps := [p]) hA (find_one hc))
    have q1 : (checkV p != 0) = true := by rw [bne_iff_ne]; exact hc
    clear hR hA a1 a2 a3 hi hz0 hz1 hz2 r0 hc
    go_enter Tryz.func117, Tryz.ntmps117
    go_wp2_with fail
    refine (P.out _).mono ?_
    rintro e w2 ⟨rfl, rfl⟩
    go_wp2_with fail
    refine (F.out _).mono ?_
    rintro e w2 ⟨rfl, rfl⟩
    go_wp2_with fail
    refine at_world (EndsAt w 0 0) (EndsAt.new w _) ?_
    intro W hW
    have HE := Lib.hid hW
    obtain ⟨g0, g1, f0, f1, hsz, _⟩ := hW
    have k0 := (HE.out.below.cell (p := ⟨b, _, none⟩) hb).trans h0
    refine wp_loop_rounds 2 ?_
    rw [rounds_succ]
    go_wp2_with fail
    refine (C0.out _ (R0.out.below HE.out.below)).mono ?_
    rintro e w3 ⟨rfl, hb2⟩
    have HE3 := Lib.hid (HE.out.then_ hb2)
    clear hb2
    go_wp2_with fail
    go_ret2
    exact made_err HV.out HE3.out.below
  obtain ⟨_, hp0, hp60, _, _⟩ := check_acc hc
  have MV0 := Lib.hid (fun (W : World) h => moved_any v0 p 0 W h hp60 (fun i hi => small_nodes hc hi) (by omega) (by omega))
  obtain ⟨M, hM⟩ : ∃ M, madeL k n at_ [p] = M := ⟨_, rfl⟩
  have HV := Lib.hid (nodeV_all (ps := [p]) hA (fun q hq => by simp at hq; subst hq; exact hc) hM)
  have HM : Hid (M = p ++ [⟨k, n, (p.length : Int) - 1, 0, at_⟩] ∧ M.length = p.length + 1) := Lib.hid (by subst hM; exact ⟨rfl, by simp [madeL]⟩)
  rw [hc] at C0
  clear hR hA a1 a2 a3 hi hz0 hz1 hz2 r0 hc hM
  go_enter Tryz.func117, Tryz.ntmps117
  go_wp2_with fail
  refine (P.out _).mono ?_
  rintro e w2 ⟨rfl, rfl⟩
  go_wp2_with fail
  refine (F.out _).mono ?_
  rintro e w2 ⟨rfl, rfl⟩
  go_wp2_with fail
  refine at_world (EndsAt w 0 0) (EndsAt.new w _) ?_
  intro W hW
  have HE := Lib.hid hW
  obtain ⟨g0, g1, f0, f1, hsz, _⟩ := hW
  have k0 := (HE.out.below.cell (p := ⟨b, _, none⟩) hb).trans h0
  refine wp_loop_rounds 2 ?_
  rw [rounds_succ]
  go_wp2_with fail
  refine (C0.out _ (R0.out.below HE.out.below)).mono ?_
  rintro e w3 ⟨rfl, hb2⟩
  have HE3 := Lib.hid (HE.out.then_ hb2)
  clear hb2
  go_wp2_with fail
  refine (MV0.out _ (R0.out.below HE3.out.below)).mono ?_
  rintro e w4 ⟨vo, rfl, ho, hb2⟩
  have HE4 := Lib.hid (HE3.out.then_ hb2)
  rw [map_zero] at ho
  obtain ⟨g, capg, rfl, hcells⟩ := own_addr ho hp0
  have HC := Lib.hid hcells
  clear hb2 ho hcells
  go_wp2_with (at_builtin; refine wpList_append_own _ rfl _ _ 23 rfl (w.heap.size + 1) 43 i0 (.agg #[.int .u8 0, .int .i64 0, .int .i64 0, .int .i64 0, .int .i64 0]) 5 40 Tryz.underlying23 HI.out.1 HI.out.2.1 HI.out.2.2.1 HI.out.2.2.2 rfl (by decide) _ 0 (rowN []) rfl (World.ownsRow_nil _ _ _ _) ⟨g, 0, none⟩ p.length capg (rowN p) rfl (rowN_len p) HC.out (oneN p) ?c1 ?c2 ?c3 ?_)
  case c1 => unfold maxLen; omega
  case c2 => omega
  case c3 => have := HE4.out.lt; omega
  intro v1 w5 hown hgrow _
  have HE5 := Lib.hid (HE4.out.grown hgrow (fun k e => by simp [Value.ownBlock] at e))
  have hown2 : w5.ownsRow (w.heap.size + 1) 43 5 v1 p.length (rowN p) := by
    first
      | exact hown
      | (rw [Nat.zero_add] at hown; exact hown)
  have HO5 := Lib.hid hown2
  obtain ⟨ad1, cap1, rfl⟩ := own_shape hown2
  clear hown hown2 hgrow g0 g1 f0 f1 hsz k0
  obtain ⟨g0, g1, f0, f1, hsz, _⟩ := HE5.out
  go_wp2_with fail
  rw [rounds_succ]
  refine at_world (fun W => EndsAt w ((p.length : Int) - 1) 0 W ∧ W.ownsRow (w.heap.size + 1) 43 5 (.slice ad1 p.length cap1) p.length (rowN p)) ⟨HE5.out.set0 _, own_set HO5.out (own_ne HO5.out (Nat.lt_succ_self _)) _ _⟩ ?_
  clear g0 g1 f0 f1 hsz HE HE3 HE4 HE5 HO5
  intro W2 hW
  obtain ⟨hW, ho⟩ := hW
  have HO := Lib.hid ho
  clear ho
  have HE := Lib.hid hW
  obtain ⟨g0, g1, f0, f1, hsz, _⟩ := hW
  go_wp2_with (at_builtin; refine wpList_append_own _ rfl _ _ 23 rfl (w.heap.size + 1) 43 i0 (.agg #[.int .u8 0, .int .i64 0, .int .i64 0, .int .i64 0, .int .i64 0]) 5 40 Tryz.underlying23 HI.out.1 HI.out.2.1 HI.out.2.2.1 HI.out.2.2.2 rfl (by decide) _ _ _ rfl (HO.out.alloc _) ⟨W2.heap.size, 0, none⟩ 1 1 [.int .u8 k, .int .i64 n, .int .i64 ((p.length : Int) - 1), .int .i64 0, .int .i64 at_] rfl rfl ?c1 ?c2 ?c3 ?c4 ?c5 ?_)
  case c1 =>
    intro q u hq
    match q with
    | 0 => simp at hq; subst hq; simp [go_sem, Addr.add]
    | 1 => simp at hq; subst hq; simp [go_sem, Addr.add]
    | 2 => simp at hq; subst hq; simp [go_sem, Addr.add]
    | 3 => simp at hq; subst hq; simp [go_sem, Addr.add]
    | 4 => simp at hq; subst hq; simp [go_sem, Addr.add]
    | q + 5 => simp at hq
  case c2 => intro u hu; simp at hu; rcases hu with rfl | rfl | rfl | rfl | rfl <;> rfl
  case c3 => unfold maxLen; omega
  case c4 => omega
  case c5 => have := HE.out.lt; simp; omega
  intro vm w8 hown hgrow _
  have HE8 := Lib.hid ((HE.out.alloc_ _).grown hgrow (fun k e => (HO.out.lt k e).1))
  have HO8 : Hid (w8.ownsRow (w.heap.size + 1) 43 5 vm M.length (rowN M)) := Lib.hid (by
    have e1 : M.length = p.length + 1 := HM.out.2
    rw [e1, HM.out.1, rowN_add]
    exact hown)
  clear hown hgrow
  have CM := Lib.hid (nodesCheck_any vm M w8 (own_readsN HO8.out) (by have := HM.out.2; omega))
  by_cases hM : checkV M = 0
  · rw [hM] at CM
    go_wp2_with fail
    refine CM.out.mono ?_
    rintro e w9 ⟨rfl, hb⟩
    have HO9 := Lib.hid (own_below HO8.out hb)
    have HE9 := Lib.hid (HE8.out.then_ hb)
    clear hb
    go_wp2_with fail
    go_ret2
    exact made_ok HV.out hM HO9.out (Nat.le_succ _) HE9.out.below
  · have q9 : (checkV M != 0) = true := by rw [bne_iff_ne]; exact hM
    go_wp2_with fail
    refine CM.out.mono ?_
    rintro e w9 ⟨rfl, hb⟩
    have HE9 := Lib.hid (HE8.out.then_ hb)
    clear hb
    go_wp2_with fail
    go_ret2
    exact made_err (by rw [HV.out, if_neg hM]) HE9.out.below
set_option maxRecDepth 100000 in
set_option maxHeartbeats 4000000 in
theorem node_two (k n at_ : Int) (vp : Value) (p q : List Nd) (w : World) (hR : ReadsP w vp [p, q]) (hn : p.length ≤ 1000000) (hm : q.length ≤ 1000000) (hA : okArgs k n at_ 2) :
    Calls Tryz.prog 117 #[.int .u8 k, .int .i64 n, .int .i64 at_, vp] w (ListEnds (nodeV k n at_ [p, q]) w) := by
  obtain ⟨i0, hi, hz0, hz1, hz2⟩ := info_parts info_nd
  have HI := Lib.hid (And.intro hi (And.intro hz0 (And.intro hz1 hz2)))
  obtain ⟨b, o, cap, v0, v1, rfl, hb, h0, h1, r0, r1⟩ := readsP_two hR
  have R0 := Lib.hid r0
  have R1 := Lib.hid r1
  have C0 := Lib.hid (fun (W : World) h => nodesCheck_any v0 p W h hn)
  have C1 := Lib.hid (fun (W : World) h => nodesCheck_any v1 q W h hm)
  have P := Lib.hid (fun W => nodesParts_same k W)
  have F := Lib.hid (fun W => fits_any k n at_ W)
  obtain ⟨a1, a2, a3⟩ := args_iff.1 hA
  rw [parts_ok hA.1 hA.2.1, a2] at P
  rw [a3] at F
  by_cases hc : checkV p = 0
  case neg =>
    have HV := Lib.hid (nodeV_bad (ps := [p, q]) hA (find_first hc))
    have q1 : (checkV p != 0) = true := by rw [bne_iff_ne]; exact hc
    clear hR hA a1 a2 a3 hi hz0 hz1 hz2 r0 r1 hc
    go_enter Tryz.func117, Tryz.ntmps117
    go_wp2_with fail
    refine (P.out _).mono ?_
    rintro e w2 ⟨rfl, rfl⟩
    go_wp2_with fail
    refine (F.out _).mono ?_
    rintro e w2 ⟨rfl, rfl⟩
    go_wp2_with fail
    refine at_world (EndsAt w 0 0) (EndsAt.new w _) ?_
    intro W hW
    have HE := Lib.hid hW
    obtain ⟨g0, g1, f0, f1, hsz, _⟩ := hW
    have k0 := (HE.out.below.cell (p := ⟨b, _, none⟩) hb).trans h0
    refine wp_loop_rounds 3 ?_
    rw [rounds_succ]
    go_wp2_with fail
    refine (C0.out _ (R0.out.below HE.out.below)).mono ?_
    rintro e w3 ⟨rfl, hb2⟩
    have HE3 := Lib.hid (HE.out.then_ hb2)
    clear hb2
    go_wp2_with fail
    go_ret2
    exact made_err HV.out HE3.out.below
  obtain ⟨_, hp0, hp60, _, _⟩ := check_acc hc
  have MV0 := Lib.hid (fun (W : World) h => moved_any v0 p 0 W h hp60 (fun i hi => small_nodes hc hi) (by omega) (by omega))
  rw [hc] at C0
  by_cases hc2 : checkV q = 0
  case neg =>
    have HV := Lib.hid (nodeV_bad (ps := [p, q]) hA (find_next hc hc2))
    have q1 : (checkV q != 0) = true := by rw [bne_iff_ne]; exact hc2
    clear hR hA a1 a2 a3 hi hz0 hz1 hz2 r0 r1 hc hc2
    go_enter Tryz.func117, Tryz.ntmps117
    go_wp2_with fail
    refine (P.out _).mono ?_
    rintro e w2 ⟨rfl, rfl⟩
    go_wp2_with fail
    refine (F.out _).mono ?_
    rintro e w2 ⟨rfl, rfl⟩
    go_wp2_with fail
    refine at_world (EndsAt w 0 0) (EndsAt.new w _) ?_
    intro W hW
    have HE := Lib.hid hW
    obtain ⟨g0, g1, f0, f1, hsz, _⟩ := hW
    have k0 := (HE.out.below.cell (p := ⟨b, _, none⟩) hb).trans h0
    refine wp_loop_rounds 3 ?_
    rw [rounds_succ]
    go_wp2_with fail
    refine (C0.out _ (R0.out.below HE.out.below)).mono ?_
    rintro e w3 ⟨rfl, hb2⟩
    have HE3 := Lib.hid (HE.out.then_ hb2)
    clear hb2
    go_wp2_with fail
    refine (MV0.out _ (R0.out.below HE3.out.below)).mono ?_
    rintro e w4 ⟨vo, rfl, ho, hb2⟩
    have HE4 := Lib.hid (HE3.out.then_ hb2)
    rw [map_zero] at ho
    obtain ⟨g, capg, rfl, hcells⟩ := own_addr ho hp0
    have HC := Lib.hid hcells
    clear hb2 ho hcells
    go_wp2_with (at_builtin; refine wpList_append_own _ rfl _ _ 23 rfl (w.heap.size + 1) 43 i0 (.agg #[.int .u8 0, .int .i64 0, .int .i64 0, .int .i64 0, .int .i64 0]) 5 40 Tryz.underlying23 HI.out.1 HI.out.2.1 HI.out.2.2.1 HI.out.2.2.2 rfl (by decide) _ 0 (rowN []) rfl (World.ownsRow_nil _ _ _ _) ⟨g, 0, none⟩ p.length capg (rowN p) rfl (rowN_len p) HC.out (oneN p) ?c1 ?c2 ?c3 ?_)
    case c1 => unfold maxLen; omega
    case c2 => omega
    case c3 => have := HE4.out.lt; omega
    intro v1 w5 hown hgrow _
    have HE5 := Lib.hid (HE4.out.grown hgrow (fun k e => by simp [Value.ownBlock] at e))
    have hown2 : w5.ownsRow (w.heap.size + 1) 43 5 v1 p.length (rowN p) := by
      first
        | exact hown
        | (rw [Nat.zero_add] at hown; exact hown)
    have HO5 := Lib.hid hown2
    obtain ⟨ad1, cap1, rfl⟩ := own_shape hown2
    clear hown hown2 hgrow g0 g1 f0 f1 hsz k0
    obtain ⟨g0, g1, f0, f1, hsz, _⟩ := HE5.out
    go_wp2_with fail
    rw [rounds_succ]
    refine at_world (fun W => EndsAt w ((p.length : Int) - 1) 0 W ∧ W.ownsRow (w.heap.size + 1) 43 5 (.slice ad1 p.length cap1) p.length (rowN p)) ⟨HE5.out.set0 _, own_set HO5.out (own_ne HO5.out (Nat.lt_succ_self _)) _ _⟩ ?_
    clear g0 g1 f0 f1 hsz HE HE3 HE4 HE5 HO5
    intro W2 hW
    obtain ⟨hW, ho⟩ := hW
    have HO := Lib.hid ho
    clear ho
    have HE := Lib.hid hW
    obtain ⟨g0, g1, f0, f1, hsz, _⟩ := hW
    have k1 := (HE.out.below.cell (p := ⟨b, _, none⟩) hb).trans h1
    go_wp2_with fail
    refine (C1.out _ (R1.out.below HE.out.below)).mono ?_
    rintro e w6 ⟨rfl, hb2⟩
    have HE6 := Lib.hid (HE.out.then_ hb2)
    have HO6 := Lib.hid (own_below HO.out hb2)
    clear hb2
    go_wp2_with fail
    go_ret2
    exact made_err HV.out HE6.out.below
  obtain ⟨_, hq0, hq60, _, _⟩ := check_acc hc2
  have MV1 := Lib.hid (fun (W : World) h => moved_any v1 q (p.length : Int) W h hq60 (fun i hi => small_nodes hc2 hi) (by omega) (by omega))
  rw [hc2] at C1
  obtain ⟨M, hM⟩ : ∃ M, madeL k n at_ [p, q] = M := ⟨_, rfl⟩
  have HV := Lib.hid (nodeV_all (ps := [p, q]) hA (fun y hy => by simp at hy; rcases hy with rfl | rfl <;> assumption) hM)
  have HM : Hid (M = (p ++ q.map (shift (-(p.length : Int)))) ++ [⟨k, n, (p.length : Int) - 1, (p.length : Int) + q.length - 1, at_⟩] ∧ M.length = p.length + q.length + 1) := Lib.hid (by subst hM; exact ⟨rfl, by simp [madeL]; omega⟩)
  clear hR hA a1 a2 a3 hi hz0 hz1 hz2 r0 r1 hc hc2 hM
  go_enter Tryz.func117, Tryz.ntmps117
  go_wp2_with fail
  refine (P.out _).mono ?_
  rintro e w2 ⟨rfl, rfl⟩
  go_wp2_with fail
  refine (F.out _).mono ?_
  rintro e w2 ⟨rfl, rfl⟩
  go_wp2_with fail
  refine at_world (EndsAt w 0 0) (EndsAt.new w _) ?_
  intro W hW
  have HE := Lib.hid hW
  obtain ⟨g0, g1, f0, f1, hsz, _⟩ := hW
  have k0 := (HE.out.below.cell (p := ⟨b, _, none⟩) hb).trans h0
  refine wp_loop_rounds 3 ?_
  rw [rounds_succ]
  go_wp2_with fail
  refine (C0.out _ (R0.out.below HE.out.below)).mono ?_
  rintro e w3 ⟨rfl, hb2⟩
  have HE3 := Lib.hid (HE.out.then_ hb2)
  clear hb2
  go_wp2_with fail
  refine (MV0.out _ (R0.out.below HE3.out.below)).mono ?_
  rintro e w4 ⟨vo, rfl, ho, hb2⟩
  have HE4 := Lib.hid (HE3.out.then_ hb2)
  rw [map_zero] at ho
  obtain ⟨g, capg, rfl, hcells⟩ := own_addr ho hp0
  have HC := Lib.hid hcells
  clear hb2 ho hcells
  go_wp2_with (at_builtin; refine wpList_append_own _ rfl _ _ 23 rfl (w.heap.size + 1) 43 i0 (.agg #[.int .u8 0, .int .i64 0, .int .i64 0, .int .i64 0, .int .i64 0]) 5 40 Tryz.underlying23 HI.out.1 HI.out.2.1 HI.out.2.2.1 HI.out.2.2.2 rfl (by decide) _ 0 (rowN []) rfl (World.ownsRow_nil _ _ _ _) ⟨g, 0, none⟩ p.length capg (rowN p) rfl (rowN_len p) HC.out (oneN p) ?c1 ?c2 ?c3 ?_)
  case c1 => unfold maxLen; omega
  case c2 => omega
  case c3 => have := HE4.out.lt; omega
  intro v1 w5 hown hgrow _
  have HE5 := Lib.hid (HE4.out.grown hgrow (fun k e => by simp [Value.ownBlock] at e))
  have hown2 : w5.ownsRow (w.heap.size + 1) 43 5 v1 p.length (rowN p) := by
    first
      | exact hown
      | (rw [Nat.zero_add] at hown; exact hown)
  have HO5 := Lib.hid hown2
  obtain ⟨ad1, cap1, rfl⟩ := own_shape hown2
  clear hown hown2 hgrow g0 g1 f0 f1 hsz k0
  obtain ⟨g0, g1, f0, f1, hsz, _⟩ := HE5.out
  go_wp2_with fail
  rw [rounds_succ]
  refine at_world (fun W => EndsAt w ((p.length : Int) - 1) 0 W ∧ W.ownsRow (w.heap.size + 1) 43 5 (.slice ad1 p.length cap1) p.length (rowN p)) ⟨HE5.out.set0 _, own_set HO5.out (own_ne HO5.out (Nat.lt_succ_self _)) _ _⟩ ?_
  clear g0 g1 f0 f1 hsz HE HE3 HE4 HE5 HO5
  intro W2 hW
  obtain ⟨hW, ho⟩ := hW
  have HO := Lib.hid ho
  clear ho
  have HE := Lib.hid hW
  obtain ⟨g0, g1, f0, f1, hsz, _⟩ := hW
  have k1 := (HE.out.below.cell (p := ⟨b, _, none⟩) hb).trans h1
  go_wp2_with fail
  refine (C1.out _ (R1.out.below HE.out.below)).mono ?_
  rintro e w6 ⟨rfl, hb2⟩
  have HE6 := Lib.hid (HE.out.then_ hb2)
  have HO6 := Lib.hid (own_below HO.out hb2)
  clear hb2
  go_wp2_with fail
  refine (MV1.out _ (R1.out.below HE6.out.below)).mono ?_
  rintro e w7 ⟨vo, rfl, ho, hb2⟩
  have HE7 := Lib.hid (HE6.out.then_ hb2)
  have HO7 := Lib.hid (own_below HO6.out hb2)
  obtain ⟨g, capg, rfl, hcells⟩ := own_addr ho hq0
  have HC := Lib.hid hcells
  clear hb2 ho hcells
  go_wp2_with (at_builtin; refine wpList_append_own _ rfl _ _ 23 rfl (w.heap.size + 1) 43 i0 (.agg #[.int .u8 0, .int .i64 0, .int .i64 0, .int .i64 0, .int .i64 0]) 5 40 Tryz.underlying23 HI.out.1 HI.out.2.1 HI.out.2.2.1 HI.out.2.2.2 rfl (by decide) _ p.length (rowN p) rfl HO7.out ⟨g, 0, none⟩ q.length capg (rowN (q.map (shift (-(p.length : Int))))) rfl (by rw [rowN_len, List.length_map]) HC.out (oneN _) ?c1 ?c2 ?c3 ?_)
  case c1 => unfold maxLen; omega
  case c2 => omega
  case c3 => have := HE7.out.lt; omega
  intro v2 w8 hown hgrow _
  have HE8 := Lib.hid (HE7.out.grown hgrow (fun k e => (HO7.out.lt k e).1))
  rw [← rowN_join] at hown
  have HO8 : Hid (w8.ownsRow (w.heap.size + 1) 43 5 v2 (p.length + q.length) (rowN (p ++ q.map (shift (-(p.length : Int)))))) := Lib.hid hown
  obtain ⟨ad2, cap2, rfl⟩ := own_shape hown
  clear hown hgrow g0 g1 f0 f1 hsz k1
  obtain ⟨g0, g1, f0, f1, hsz, _⟩ := HE8.out
  go_wp2_with fail
  rw [rounds_succ]
  refine at_world (fun W => EndsAt w ((p.length : Int) - 1) ((p.length : Int) + q.length - 1) W ∧ W.ownsRow (w.heap.size + 1) 43 5 (.slice ad2 (p.length + q.length) cap2) (p.length + q.length) (rowN (p ++ q.map (shift (-(p.length : Int)))))) ⟨HE8.out.set1 _, own_set HO8.out (own_ne HO8.out (Nat.lt_succ_self _)) _ _⟩ ?_
  clear g0 g1 f0 f1 hsz HE HE6 HE7 HE8 HO8 HO6 HO7 HO
  intro W3 hW
  obtain ⟨hW, ho⟩ := hW
  have HO := Lib.hid ho
  clear ho
  have HE := Lib.hid hW
  obtain ⟨g0, g1, f0, f1, hsz, _⟩ := hW
  go_wp2_with (at_builtin; refine wpList_append_own _ rfl _ _ 23 rfl (w.heap.size + 1) 43 i0 (.agg #[.int .u8 0, .int .i64 0, .int .i64 0, .int .i64 0, .int .i64 0]) 5 40 Tryz.underlying23 HI.out.1 HI.out.2.1 HI.out.2.2.1 HI.out.2.2.2 rfl (by decide) _ _ _ rfl (HO.out.alloc _) ⟨W3.heap.size, 0, none⟩ 1 1 [.int .u8 k, .int .i64 n, .int .i64 ((p.length : Int) - 1), .int .i64 ((p.length : Int) + q.length - 1), .int .i64 at_] rfl rfl ?c1 ?c2 ?c3 ?c4 ?c5 ?_)
  case c1 =>
    intro q u hq
    match q with
    | 0 => simp at hq; subst hq; simp [go_sem, Addr.add]
    | 1 => simp at hq; subst hq; simp [go_sem, Addr.add]
    | 2 => simp at hq; subst hq; simp [go_sem, Addr.add]
    | 3 => simp at hq; subst hq; simp [go_sem, Addr.add]
    | 4 => simp at hq; subst hq; simp [go_sem, Addr.add]
    | q + 5 => simp at hq
  case c2 => intro u hu; simp at hu; rcases hu with rfl | rfl | rfl | rfl | rfl <;> rfl
  case c3 => unfold maxLen; omega
  case c4 => omega
  case c5 => have := HE.out.lt; simp; omega
  intro vm w8 hown hgrow _
  have HE8 := Lib.hid ((HE.out.alloc_ _).grown hgrow (fun k e => (HO.out.lt k e).1))
  have HO8 : Hid (w8.ownsRow (w.heap.size + 1) 43 5 vm M.length (rowN M)) := Lib.hid (by
    have e1 : M.length = p.length + q.length + 1 := HM.out.2
    rw [e1, HM.out.1, rowN_add]
    exact hown)
  clear hown hgrow
  have CM := Lib.hid (nodesCheck_any vm M w8 (own_readsN HO8.out) (by have := HM.out.2; omega))
  by_cases hM : checkV M = 0
  · rw [hM] at CM
    go_wp2_with fail
    refine CM.out.mono ?_
    rintro e w9 ⟨rfl, hb⟩
    have HO9 := Lib.hid (own_below HO8.out hb)
    have HE9 := Lib.hid (HE8.out.then_ hb)
    clear hb
    go_wp2_with fail
    go_ret2
    exact made_ok HV.out hM HO9.out (Nat.le_succ _) HE9.out.below
  · have q9 : (checkV M != 0) = true := by rw [bne_iff_ne]; exact hM
    go_wp2_with fail
    refine CM.out.mono ?_
    rintro e w9 ⟨rfl, hb⟩
    have HE9 := Lib.hid (HE8.out.then_ hb)
    clear hb
    go_wp2_with fail
    go_ret2
    exact made_err (by rw [HV.out, if_neg hM]) HE9.out.below
set_option maxRecDepth 100000 in
theorem nodesNode_any (k n at_ : Int) (vp : Value) (ps : List (List Nd)) (w : World) (hR : ReadsP w vp ps) (_h0 : 0 ≤ k) (_h1 : k ≤ 255) (hn : ∀ p ∈ ps, p.length ≤ 1000000) (hp : ps.length ≤ 1000000) :
    Calls Tryz.prog 117 #[.int .u8 k, .int .i64 n, .int .i64 at_, vp] w (ListEnds (nodeV k n at_ ps) w) := by
  by_cases hA : okArgs k n at_ ps.length
  · have ha := hA.2.2.1
    match ps, hR, hn, hA, ha with
    | [], hR, _, hA, _ => exact node_leaf k n at_ vp w hR hA
    | [p], hR, hn, hA, _ => exact node_one k n at_ vp p w hR (hn p (by simp)) hA
    | [p, q], hR, hn, hA, _ => exact node_two k n at_ vp p q w hR (hn p (by simp)) (hn q (by simp)) hA
    | p :: q :: y :: l, _, _, _, ha =>
      simp only [List.length_cons] at ha
      rcases arity_cases k with h | h | h <;> omega
  · have HV := Lib.hid (nodeV_arg hA)
    have P := Lib.hid (fun W => nodesParts_same k W)
    have F := Lib.hid (fun W => fits_any k n at_ W)
    obtain ⟨ad, cap, rfl⟩ : ∃ ad cap, vp = .slice ad ps.length cap := by
      rcases hR with ⟨rfl, ad, cap, rfl⟩ | ⟨b, o, cap, rfl, _⟩
      · exact ⟨_, _, rfl⟩
      · exact ⟨_, _, rfl⟩
    clear hR hn
    cases hk : inB k 1 19
    · have hv : partsV k = (0, 2) := by unfold partsV; rw [if_neg (by unfold inB at hk; exact of_decide_eq_false hk)]
      rw [hv] at P
      clear hA hk hv
      go_enter Tryz.func117, Tryz.ntmps117
      go_wp2_with fail
      refine (P.out _).mono ?_
      rintro e w2 ⟨rfl, rfl⟩
      go_wp2_with fail
      go_ret2
      exact made_err HV.out (Below.refl _ _)
    have hk19 : 1 ≤ k ∧ k ≤ 19 := by unfold inB at hk; exact of_decide_eq_true hk
    rw [parts_ok hk19.1 hk19.2] at P
    by_cases hc : arity k = ps.length
    case neg =>
      have q1 : ((ps.length : Int) != (arity k : Nat)) = true := by rw [bne_iff_ne]; omega
      clear hA hk hk19 hc
      go_enter Tryz.func117, Tryz.ntmps117
      go_wp2_with fail
      refine (P.out _).mono ?_
      rintro e w2 ⟨rfl, rfl⟩
      go_wp2_with fail
      go_ret2
      exact made_err HV.out (Below.refl _ _)
    have q1 : ((ps.length : Int) != (arity k : Nat)) = false := by rw [bne_eq_false_iff_eq]; omega
    have hf : fitsB k n at_ = false := by
      cases hf : fitsB k n at_
      · rfl
      · exact absurd (args_iff.2 ⟨hk, hc, hf⟩) hA
    rw [hf] at F
    clear hA hk hk19 hc hf
    go_enter Tryz.func117, Tryz.ntmps117
    go_wp2_with fail
    refine (P.out _).mono ?_
    rintro e w2 ⟨rfl, rfl⟩
    go_wp2_with fail
    refine (F.out _).mono ?_
    rintro e w2 ⟨rfl, rfl⟩
    go_wp2_with fail
    go_ret2
    exact made_err HV.out (Below.refl _ _)
end Go.Proofs.YtdinaedknlkicaaGreatDoor.Nodes

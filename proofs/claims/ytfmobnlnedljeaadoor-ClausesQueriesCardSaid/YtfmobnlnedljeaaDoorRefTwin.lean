/-
  Contract of the reference of layer 8: Twin, a copy that shares no memory.
-/
import Derived.Test.YtfmobnlnedljeaaDoorClauseHelp
import Derived.Test.YtfmobnlnedljeaaDoorQyBlock
import Derived.Test.YtfmobnlnedljeaaDoorNodeCells
import Derived.Maps.AppendAt
import Derived.Deep.AppendSrc
import Derived.OwnWalk
import Derived.Outline
namespace Go.Proofs.YtfmobnlnedljeaaDoor.Nodes
open Go.ChangeShapes Go.WideShapes Go.ChangeAt Go.RowKit

/-! ### append to an empty row of the call's own, from whatever slice -/
theorem run_append_new {P : Program} {w : World} (base g : Nat) (t ty e : TypeId) (i : TypeInfo) (z : Value) (size bytes : Nat) (ht : P.underlying t = some (.slice e)) (hi : P.info? e = some i) (hz : i.zero = some z)
    (hsize : i.size = size) (hby : i.bytes = bytes) (hzs : z.cells.size = size) (hsz : 0 < size) (hown : w.ownsRow base e size (.slice (some ⟨g, 0, none⟩) 0 0) 0 [])
    (ad : Option Addr) (m c : Nat) (news : List Value) (hl : news.length = m * size) (hnone : ad = none → m = 0) (hnews : ∀ a, ad = some a → ∀ j u, news[j]? = some u → w.cell? (a.add j) = some u) (h1 : ∀ u ∈ news, u.oneCell' = true)
    (h63 : m ≤ maxLen) (hbytes : m * bytes ≤ 140737488355328) (hbase : base ≤ w.heap.size) :
    ∃ v' w', (Builtin.append_ #[t, t] ty #[.slice (some ⟨g, 0, none⟩) 0 0, .slice ad m c]).run P w = .ok v' w' ∧ w'.ownsRow base e size v' m news ∧ w.grownBy w' (some g) ∧ (v'.ownBlock = some g ∨ v'.ownBlock = some w.heap.size) := by
  cases ad with
  | none =>
    obtain rfl := hnone rfl
    have hl0 : news = [] := List.length_eq_zero_iff.1 (by omega)
    subst hl0
    have h := run_append_room_src w t t ty e i ht hi g 0 0 0 (.slice none 0 c) 0 [] (Src.ofNil w ht c) (Nat.le_refl _) (fun j hj => absurd hj (Nat.not_lt_zero _)) (fun j hj => absurd hj (Nat.not_lt_zero _))
    exact ⟨_, _, h, hown, World.grownBy.refl w _, .inl rfl⟩
  | some a =>
    obtain ⟨v', w', hr, h2, h3, _, h5⟩ := run_append_own_at (P := P) (w := w) base t ty e i z size bytes ht hi hz hsize hby hzs hsz _ 0 [] hown a m c news hl (hnews a rfl) h1 (by omega) (by rw [Nat.zero_add]; exact hbytes) hbase
    rw [Nat.zero_add, List.nil_append] at h2
    exact ⟨v', w', hr, h2, h3, h5⟩
theorem wpList_append_new {P : Program} {w : World} {ops : Array Oper} {rest : List Oper} {o : Oper} {a : Act} {Q : Exit → Act → World → Prop} (hgd : o.guard = none) (s x : Operand) (t : TypeId)
    (ho : o.op = .call { callee := .builtin .append, args := #[s, x], argTypes := #[t, t] })
    (base g : Nat) (e : TypeId) (i : TypeInfo) (z : Value) (size bytes : Nat) (ht : P.underlying t = some (.slice e)) (hi : P.info? e = some i) (hz : i.zero = some z)
    (hsize : i.size = size) (hby : i.bytes = bytes) (hzs : z.cells.size = size) (hsz : 0 < size)
    (hs : a.eval s = .slice (some ⟨g, 0, none⟩) 0 0) (hown : w.ownsRow base e size (.slice (some ⟨g, 0, none⟩) 0 0) 0 [])
    (ad : Option Addr) (m c : Nat) (news : List Value) (hx : a.eval x = .slice ad m c) (hl : news.length = m * size) (hnone : ad = none → m = 0) (hnews : ∀ q, ad = some q → ∀ j u, news[j]? = some u → w.cell? (q.add j) = some u) (h1 : ∀ u ∈ news, u.oneCell' = true)
    (h63 : m ≤ maxLen) (hbytes : m * bytes ≤ 140737488355328) (hbase : base ≤ w.heap.size)
    (h : ∀ v' w', w'.ownsRow base e size v' m news → w.grownBy w' (some g) → (v'.ownBlock = some g ∨ v'.ownBlock = some w.heap.size) → wpList P ops Q rest (a.put o.dst v') w') :
    wpList P ops Q (o :: rest) a w := by
  refine wpList_plain hgd fun K hK => ?_
  obtain ⟨v', w', hr, h2, h3, h5⟩ := run_append_new (P := P) (w := w) base g t o.type e i z size bytes ht hi hz hsize hby hzs hsz hown ad m c news hl hnone hnews h1 h63 hbytes hbase
  unfold Oper.wp execOp
  simp only [ho, resolve, invoke, builtin, Sem.run_bind, Sem.run_pure, Result.andThen_ok, List.map_toArray, List.map_cons, List.map_nil, hs, hx, hr]
  exact hK _ _ (h v' w' h2 h3 h5)
/-- The cells of a slice of nodes, of numbers, in whatever later world. -/
theorem nodes_src {w : World} {v : Value} {l : List Nd} (h : ReadsN w v l) : ∃ ad cap, v = .slice ad l.length cap ∧ (ad = none → l.length = 0) ∧ ∀ W, Below w.heap.size w W → ∀ q, ad = some q → ∀ j u, (rowN l)[j]? = some u → W.cell? (q.add j) = some u := by
  rcases h with ⟨rfl, ad, cap, rfl⟩ | ⟨b, o, more, rfl, hb, hnds⟩
  · exact ⟨ad, cap, rfl, fun _ => rfl, fun W _ q _ j u hu => by simp [rowN] at hu⟩
  · exact ⟨some ⟨b, o, none⟩, l.length + more, rfl, fun e => (by cases e), fun W hW q e j u hu => by cases e; exact nds_cells (fun i x hx => (hnds i x hx).below hb hW) j u hu⟩
def rowI (l : List Int) : List Value := l.map (Value.int .i64)
theorem rowI_len (l : List Int) : (rowI l).length = l.length := List.length_map ..
theorem rowI_one (l : List Int) : ∀ u ∈ rowI l, u.oneCell' = true := by
  intro u hu
  unfold rowI at hu
  obtain ⟨x, _, rfl⟩ := List.mem_map.1 hu
  rfl
theorem ints_src {w : World} {v : Value} {l : List Int} (h : ReadsI w v l) : ∃ ad cap, v = .slice ad l.length cap ∧ (ad = none → l.length = 0) ∧ ∀ W, Below w.heap.size w W → ∀ q, ad = some q → ∀ j u, (rowI l)[j]? = some u → W.cell? (q.add j) = some u := by
  rcases h with ⟨rfl, ad, cap, rfl⟩ | ⟨b, o, more, rfl, hb, ht⟩
  · exact ⟨ad, cap, rfl, fun _ => rfl, fun W _ q _ j u hu => by simp [rowI] at hu⟩
  · refine ⟨some ⟨b, o, none⟩, l.length + more, rfl, fun e => (by cases e), fun W hW q e j u hu => ?_⟩
    cases e
    unfold rowI at hu
    rw [List.getElem?_map] at hu
    cases hx : l[j]? with
    | none => rw [hx] at hu; cases hu
    | some x =>
      rw [hx] at hu
      cases hu
      rw [Addr.add_mid]
      exact (hW.cell (p := ⟨b, _, none⟩) hb).trans (ht j x hx)
theorem own_readsI {w : World} {base : Nat} {v : Value} {l : List Int} (h : w.ownsRow base 3 1 v l.length (rowI l)) : ReadsI w v l := by
  rcases h.2 with ⟨rfl, h0⟩ | ⟨g, cap, cur, rfl, hb, hg, hnc, _⟩
  · rw [List.length_eq_zero_iff] at h0
    subst h0
    exact .inl ⟨rfl, _, _, rfl⟩
  · refine .inr ⟨g, 0, cap - l.length, by rw [Nat.add_sub_cancel' hnc], (Array.getElem?_eq_some_iff.1 hg).1, fun i x hx => ?_⟩
    have hcc := h.cells (g := g) rfl i (.int .i64 x) (by unfold rowI; rw [List.getElem?_map, hx]; rfl)
    rwa [Addr.add_mid] at hcc
theorem info_nd8 : (Tryd.prog.info? 35).map (fun i => (i.zero, i.size, i.bytes)) = some (some (.agg #[.int .u8 0, .int .i64 0, .int .i64 0, .int .i64 0, .int .i64 0]), 5, 40) := by kernel_rfl
theorem info_int8 : (Tryd.prog.info? 3).map (fun i => (i.zero, i.size, i.bytes)) = some (some (.int .i64 0), 1, 8) := by kernel_rfl

/-! ### Twin -/
/-- What Twin leaves: a query of slices of its own, which lie apart. -/
def TwinEnds (w : World) (q : Qy) (e : Ending) (w' : World) : Prop :=
  ∃ (s : Sl) (b2 : Nat), e = .returned (qyVal s q) ∧ ReadsQ w' s q ∧ Below w.heap.size w w' ∧
      w'.ownsRow w.heap.size 35 5 s.arg q.arg.length (rowN q.arg) ∧ w'.ownsRow b2 35 5 s.cond q.cond.length (rowN q.cond) ∧ w'.ownsRow b2 3 1 s.src q.src.length (rowI q.src) ∧
      (∀ k, s.arg.ownBlock = some k → k < b2) ∧ w.heap.size ≤ b2 ∧ (∀ k, s.src.ownBlock = some k → ∀ j, s.cond.ownBlock = some j → j < k)
set_option maxRecDepth 100000 in
set_option maxHeartbeats 2000000 in
theorem refTwin_any (s : Sl) (q : Qy) (w : World) (hR : ReadsQ w s q) (ha : q.arg.length ≤ 1000000) (hc : q.cond.length ≤ 1000000) (hs : q.src.length ≤ 1000000) :
    Calls Tryd.prog 24 #[qyVal s q] w (TwinEnds w q) := by
  obtain ⟨ada, capa, hva, na, ca⟩ := nodes_src hR.arg
  obtain ⟨adc, capc, hvc, nc, cc⟩ := nodes_src hR.cond
  obtain ⟨ads, caps, hvs, ns, cs⟩ := ints_src hR.src
  obtain ⟨sa, ss, sc⟩ := s
  dsimp only at hva hvc hvs
  subst hva hvc hvs
  obtain ⟨i0, hi, hz0, hz1, hz2⟩ := info_parts info_nd8
  obtain ⟨j0, hj, hy0, hy1, hy2⟩ := info_parts info_int8
  have HI := Lib.hid (And.intro hi (And.intro hz0 (And.intro hz1 hz2)))
  have HJ := Lib.hid (And.intro hj (And.intro hy0 (And.intro hy1 hy2)))
  have NA := Lib.hid (And.intro na ca)
  have NC := Lib.hid (And.intro nc cc)
  have NS := Lib.hid (And.intro ns cs)
  have S0 := Lib.hid (sp_start w ⟨.slice ada q.arg.length capa, .slice ads q.src.length caps, .slice adc q.cond.length capc⟩ zeroS q zeroQ)
  have O0 : Hid ((((w.alloc (qyBox ⟨.slice ada q.arg.length capa, .slice ads q.src.length caps, .slice adc q.cond.length capc⟩ q)).alloc (qyBox zeroS zeroQ)).alloc (.cells #[] 35)).ownsRow w.heap.size 35 5 (.slice (some ⟨w.heap.size + 1 + 1, 0, none⟩) 0 0) 0 []) := Lib.hid (by
    have := World.ownsRow_made (base := w.heap.size) (size := 5) (e := 35) ((w.alloc (qyBox ⟨.slice ada q.arg.length capa, .slice ads q.src.length caps, .slice adc q.cond.length capc⟩ q)).alloc (qyBox zeroS zeroQ)) #[] 0 (by simp; omega) (Nat.zero_le _) rfl
    simpa using this)
  unfold qyVal qyRow
  unfold qyBox zeroS zeroQ at S0 O0
  dsimp only at S0 O0 ⊢
  clear hR na ca nc cc ns cs hi hz0 hz1 hz2 hj hy0 hy1 hy2
  go_enter Tryd.func24, Tryd.ntmps24
  go_wp2_with (at_builtin; refine wpList_append_new rfl _ _ 30 rfl w.heap.size (w.heap.size + 1 + 1) 35 i0 (.agg #[.int .u8 0, .int .i64 0, .int .i64 0, .int .i64 0, .int .i64 0]) 5 40 Tryd.underlying30 HI.out.1 HI.out.2.1 HI.out.2.2.1 HI.out.2.2.2 rfl (by decide) rfl ?c1 ada _ capa (rowN q.arg) rfl (rowN_len _) NA.out.1 ?c2 (rowN_one _) ?c3 ?c4 ?c5 ?_)
  case c1 => exact O0.out
  case c2 => exact NA.out.2 _ (S0.out.alloc _).base
  case c3 => unfold maxLen; omega
  case c4 => omega
  case c5 => simp; omega
  intro v1 w1 hown hgrow hloc
  obtain ⟨x1, m1, hv1⟩ := own_shape hown
  subst hv1
  have S1 := Lib.hid ((S0.out.alloc _).grown hgrow (by omega))
  have O1 := Lib.hid hown
  have HL1 := Lib.hid hloc
  have S2 := Lib.hid (S1.out.set_arg (.slice x1 q.arg.length m1))
  obtain ⟨c0, c1, c2, c3, c4, c5, c6, c7, c8, c9⟩ := S1.out.one.cells
  have f1 := S1.out.one.frz 1
  have e4 : ∀ o, ((w1.setCell ⟨w.heap.size, 1, none⟩ (.slice x1 q.arg.length m1)).alloc o).cell? ⟨w.heap.size, 4, none⟩ = some (.slice adc q.cond.length capc) := fun o => (S2.out.alloc o).one.cells.2.2.2.2.1
  have O2 : Hid (((w1.setCell ⟨w.heap.size, 1, none⟩ (.slice x1 q.arg.length m1)).alloc (.cells #[] 35)).ownsRow w1.heap.size 35 5 (.slice (some ⟨w1.heap.size, 0, none⟩) 0 0) 0 []) := Lib.hid (by
    have := World.ownsRow_made (base := w1.heap.size) (size := 5) (e := 35) (w1.setCell ⟨w.heap.size, 1, none⟩ (.slice x1 q.arg.length m1)) #[] 0 (by rw [set_size8]; exact Nat.le_refl _) (Nat.zero_le _) rfl
    rwa [set_size8] at this)
  clear hown hgrow hloc
  go_wp2_with (at_builtin; refine wpList_append_new rfl _ _ 30 rfl w1.heap.size w1.heap.size 35 i0 (.agg #[.int .u8 0, .int .i64 0, .int .i64 0, .int .i64 0, .int .i64 0]) 5 40 Tryd.underlying30 HI.out.1 HI.out.2.1 HI.out.2.2.1 HI.out.2.2.2 rfl (by decide) rfl ?u1 adc _ capc (rowN q.cond) rfl (rowN_len _) NC.out.1 ?u2 (rowN_one _) ?u3 ?u4 ?u5 ?_)
  case u1 => exact O2.out
  case u2 => exact NC.out.2 _ (S2.out.alloc _).base
  case u3 => unfold maxLen; omega
  case u4 => omega
  try (case u5 => simp)
  intro v2 w2 hown hgrow hloc
  obtain ⟨x2, m2, hv2⟩ := own_shape hown
  subst hv2
  have S3 := Lib.hid ((S2.out.alloc _).grown hgrow S1.out.room)
  have k1 : ∀ k, (Value.slice x1 q.arg.length m1).ownBlock = some k → w.heap.size + 1 < k ∧ k < w1.heap.size := fun k hk => by
    rcases HL1.out with h | h
    · rw [hk] at h
      injection h with h
      exact ⟨by omega, (O1.out.lt k hk).2⟩
    · rw [hk] at h
      injection h with h
      have := (O1.out.lt k hk).2
      try simp at h
      exact ⟨by omega, this⟩
  have K1 := Lib.hid k1
  have O1b : Hid (w2.ownsRow w.heap.size 35 5 (.slice x1 q.arg.length m1) q.arg.length (rowN q.arg)) := Lib.hid (by
    refine ((O1.out.kept (set_grown w1 w.heap.size 1 _) ?_).alloc _).kept hgrow ?_
    · right; intro h; have := k1 _ h; omega
    · right; intro h; have := k1 _ h; omega)
  have O2b := Lib.hid hown
  have HL2 := Lib.hid hloc
  have k2 : ∀ k, (Value.slice x2 q.cond.length m2).ownBlock = some k → w1.heap.size ≤ k ∧ k < w2.heap.size := fun k hk => O2b.out.lt k hk
  have K2 := Lib.hid k2
  have S4 := Lib.hid (S3.out.set_cond (.slice x2 q.cond.length m2))
  obtain ⟨c0, c1, c2, c3, c4, c5, c6, c7, c8, c9⟩ := S3.out.one.cells
  have f4 := S3.out.one.frz 4
  have e2 : ∀ o, ((w2.setCell ⟨w.heap.size, 4, none⟩ (.slice x2 q.cond.length m2)).alloc o).cell? ⟨w.heap.size, 2, none⟩ = some (.slice ads q.src.length caps) := fun o => (S4.out.alloc o).one.cells.2.2.1
  have O3 : Hid (((w2.setCell ⟨w.heap.size, 4, none⟩ (.slice x2 q.cond.length m2)).alloc (.cells #[] 3)).ownsRow w2.heap.size 3 1 (.slice (some ⟨w2.heap.size, 0, none⟩) 0 0) 0 []) := Lib.hid (by
    have := World.ownsRow_made (base := w2.heap.size) (size := 1) (e := 3) (w2.setCell ⟨w.heap.size, 4, none⟩ (.slice x2 q.cond.length m2)) #[] 0 (by rw [set_size8]; exact Nat.le_refl _) (Nat.zero_le _) rfl
    rwa [set_size8] at this)
  clear hown hgrow hloc k1 k2 e4 f1
  go_wp2_with (at_builtin; refine wpList_append_new rfl _ _ 29 rfl w2.heap.size w2.heap.size 3 j0 (.int .i64 0) 1 8 Tryd.underlying29 HJ.out.1 HJ.out.2.1 HJ.out.2.2.1 HJ.out.2.2.2 rfl (by decide) rfl ?y1 ads _ caps (rowI q.src) rfl ?y6 NS.out.1 ?y2 (rowI_one _) ?y3 ?y4 ?y5 ?_)
  case y6 => first | (rw [rowI_len, Nat.mul_one]) | (rw [rowI_len])
  case y1 => exact O3.out
  case y2 => exact NS.out.2 _ (S4.out.alloc _).base
  case y3 => unfold maxLen; omega
  case y4 => omega
  try (case y5 => simp)
  intro v3 w3 hown hgrow hloc
  obtain ⟨x3, m3, hv3⟩ := own_shape hown
  subst hv3
  have S5 := Lib.hid ((S4.out.alloc _).grown hgrow S3.out.room)
  have O3b := Lib.hid hown
  have k1 := K1.out
  have k2 := K2.out
  have hw12 : w1.heap.size ≤ w2.heap.size := by
    rcases HL2.out with h | h
    · have := k2 _ h; omega
    · have := k2 _ h; simp at this; omega
  have O1c : Hid (w3.ownsRow w.heap.size 35 5 (.slice x1 q.arg.length m1) q.arg.length (rowN q.arg)) := Lib.hid (by
    refine ((O1b.out.kept (set_grown w2 w.heap.size 4 _) ?_).alloc _).kept hgrow ?_
    · right; intro h; have := k1 _ h; omega
    · right; intro h; have := k1 _ h; omega)
  have O2c : Hid (w3.ownsRow w1.heap.size 35 5 (.slice x2 q.cond.length m2) q.cond.length (rowN q.cond)) := Lib.hid (by
    refine ((O2b.out.kept (set_grown w2 w.heap.size 4 _) ?_).alloc _).kept hgrow ?_
    · right; intro h; have := k2 _ h; have := S1.out.room; omega
    · right; intro h; have := k2 _ h; omega)
  have k3 : ∀ k, (Value.slice x3 q.src.length m3).ownBlock = some k → w2.heap.size ≤ k ∧ k < w3.heap.size := fun k hk => O3b.out.lt k hk
  have K3 := Lib.hid k3
  have S6 := Lib.hid (S5.out.set_src (.slice x3 q.src.length m3))
  obtain ⟨c0, c1, c2, c3, c4, c5, c6, c7, c8, c9⟩ := S5.out.one.cells
  have f2 := S5.out.one.frz 2
  obtain ⟨a0, a1, a2, a3, a4, a5, a6, a7, a8, a9⟩ := S6.out.one.cells
  obtain ⟨d0, d1, d2, d3, d4, d5, d6, d7, d8, d9⟩ := S6.out.two.cells
  have g0 := S6.out.two.frz
  clear hown hgrow hloc k1 k2 k3 e2 f4
  go_wp2_with fail
  have P := putQ_at (s := ⟨.slice x1 q.arg.length m1, .slice x3 q.src.length m3, .slice x2 q.cond.length m2⟩) (q := q) S6.out.two
  unfold putQ at P
  dsimp only at P
  refine bodyPost_ret (ret_qy rfl _ _ (w.heap.size + 1) ⟨.slice x1 q.arg.length m1, .slice x3 q.src.length m3, .slice x2 q.cond.length m2⟩ q rfl P) rfl ?_
  show TwinEnds w q _ (putQ (w3.setCell ⟨w.heap.size, 2, none⟩ (.slice x3 q.src.length m3)) (w.heap.size + 1) ⟨.slice x1 q.arg.length m1, .slice x3 q.src.length m3, .slice x2 q.cond.length m2⟩ q)
  skip
  have hk : ∀ {v : Value} {base size n : Nat} {e : TypeId} {xs : List Value}, w3.ownsRow base e size v n xs → w.heap.size + 1 < base ∨ (∀ k, v.ownBlock = some k → w.heap.size + 1 < k) →
      (putQ (w3.setCell ⟨w.heap.size, 2, none⟩ (.slice x3 q.src.length m3)) (w.heap.size + 1) ⟨.slice x1 q.arg.length m1, .slice x3 q.src.length m3, .slice x2 q.cond.length m2⟩ q).ownsRow base e size v n xs := by
    intro v base size n e xs h hb
    refine (h.kept (set_grown w3 w.heap.size 2 _) ?_).kept (putQ_grown _ _ _ _) ?_
    all_goals
      right
      intro h2
      have := (h.lt _ h2).1
      rcases hb with hb | hb
      · omega
      · have := hb _ h2; omega
  have r1 := S1.out.room
  have r2 := hw12
  have R1 := hk O1c.out (.inr (fun k h => (K1.out k h).1))
  have R2 := hk O2c.out (.inl (by omega))
  have R3 := hk O3b.out (.inl (by omega))
  refine ⟨⟨.slice x1 q.arg.length m1, .slice x3 q.src.length m3, .slice x2 q.cond.length m2⟩, w1.heap.size, rfl, ⟨own_readsN R1, own_readsI R3, own_readsN R2⟩, ?_, R1, R2, ?_, fun k h => (K1.out k h).2, by omega, fun k h j h2 => ?_⟩
  · exact putQ_below (S6.out.base) (by omega) _ _
  · refine ⟨R3.1, R3.2.imp id ?_⟩
    rintro ⟨g, cap, cur, h1, h2, h3⟩
    exact ⟨g, cap, cur, h1, by omega, h3⟩
  · have := K3.out k h
    have := K2.out j h2
    omega
end Go.Proofs.YtfmobnlnedljeaaDoor.Nodes

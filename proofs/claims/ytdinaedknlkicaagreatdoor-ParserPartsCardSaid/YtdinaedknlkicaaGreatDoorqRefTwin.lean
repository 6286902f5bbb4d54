/-
  Contract of the reference of layer 8: Twin, a copy that shares no memory.
-/
import Derived.Test.YtdinaedknlkicaaGreatDoorPackB1
import Derived.Test.YtdinaedknlkicaaGreatDoorNodeCells
import Derived.Maps.AppendAt
import Derived.Deep.AppendSrc
import Derived.OwnWalk
import Derived.Outline
namespace Go.Proofs.YtdinaedknlkicaaGreatDoor.Nodes
open Go.ChangeShapes Go.WideShapes Go.ChangeAt Go.RowKit

/-! ### append to an empty row of the call's own, from whatever slice -/
theorem run_append_new {P : Program} {w : World} (base g : Nat) (t ty e : TypeId) (i : TypeInfo) (z : Value) (size bytes : Nat) (ht : P.underlying t = some (.slice e)) (hi : P.info? e = some i) (hz : i.zero = some z)
    (hsize : i.size = size) (hby : i.bytes = bytes) (hzs : z.cells.size = size) (hsz : 0 < size) (hown : w.ownsRow base e size (.slice (some ⟨g, 0, none⟩) 0 0) 0 [])
    (ad : Option Addr) (m c : Nat) (news : List Value) (hl : news.length = m * size) (hnone : ad = none → m = 0) (hnews : ∀ a, ad = some a → ∀ j u, news[j]? = some u → w.cell? (a.add j) = some u) (h1 : ∀ u ∈ news, u.oneCell' = true)
    (h63 : m ≤ maxLen) (hbytes : m * bytes ≤ 140737488355328) (hbase : base ≤ w.heap.size) :
    ∃ v' w', (Builtin.append_ #[t, t] ty #[.slice (some ⟨g, 0, none⟩) 0 0, .slice ad m c]).run P w = .ok v' w' ∧ w'.ownsRow base e size v' m news ∧ w.grownBy w' (some g) ∧ (v'.ownBlock = some g ∨ v'.ownBlock = some w.heap.size) := by
  cases ad with
  | none =>
    obtain rfl := hnone rfl
    have hl0 : news = [] := List.length_eq_zero_iff.1 (by omega)
    subst hl0
    have h := run_append_room_src w t t ty e i ht hi g 0 0 0 (.slice none 0 c) 0 [] (Src.ofNil w ht c) (Nat.le_refl _) (fun j hj => absurd hj (Nat.not_lt_zero _)) (fun j hj => absurd hj (Nat.not_lt_zero _))
    exact ⟨_, _, h, hown, World.grownBy.refl w _, .inl rfl⟩
  | some a =>
    obtain ⟨v', w', hr, h2, h3, _, h5⟩ := run_append_own_at (P := P) (w := w) base t ty e i z size bytes ht hi hz hsize hby hzs hsz _ 0 [] hown a m c news hl (hnews a rfl) h1 (by omega) (by rw [Nat.zero_add]; exact hbytes) hbase
    rw [Nat.zero_add, List.nil_append] at h2
    exact ⟨v', w', hr, h2, h3, h5⟩
theorem wpList_append_new {P : Program} {w : World} {ops : Array Oper} {rest : List Oper} {o : Oper} {a : Act} {Q : Exit → Act → World → Prop} (hgd : o.guard = none) (s x : Operand) (t : TypeId)
    (ho : o.op = .call { callee := .builtin .append, args := #[s, x], argTypes := #[t, t] })
    (base g : Nat) (e : TypeId) (i : TypeInfo) (z : Value) (size bytes : Nat) (ht : P.underlying t = some (.slice e)) (hi : P.info? e = some i) (hz : i.zero = some z)
    (hsize : i.size = size) (hby : i.bytes = bytes) (hzs : z.cells.size = size) (hsz : 0 < size)
    (hs : a.eval s = .slice (some ⟨g, 0, none⟩) 0 0) (hown : w.ownsRow base e size (.slice (some ⟨g, 0, none⟩) 0 0) 0 [])
    (ad : Option Addr) (m c : Nat) (news : List Value) (hx : a.eval x = .slice ad m c) (hl : news.length = m * size) (hnone : ad = none → m = 0) (hnews : ∀ q, ad = some q → ∀ j u, news[j]? = some u → w.cell? (q.add j) = some u) (h1 : ∀ u ∈ news, u.oneCell' = true)
    (h63 : m ≤ maxLen) (hbytes : m * bytes ≤ 140737488355328) (hbase : base ≤ w.heap.size)
    (h : ∀ v' w', w'.ownsRow base e size v' m news → w.grownBy w' (some g) → (v'.ownBlock = some g ∨ v'.ownBlock = some w.heap.size) → wpList P ops Q rest (a.put o.dst v') w') :
    wpList P ops Q (o :: rest) a w := by
  refine wpList_plain hgd fun K hK => ?_
  obtain ⟨v', w', hr, h2, h3, h5⟩ := run_append_new (P := P) (w := w) base g t o.type e i z size bytes ht hi hz hsize hby hzs hsz hown ad m c news hl hnone hnews h1 h63 hbytes hbase
  unfold Oper.wp execOp
  simp only [ho, resolve, invoke, builtin, Sem.run_bind, Sem.run_pure, Result.andThen_ok, List.map_toArray, List.map_cons, List.map_nil, hs, hx, hr]
  exact hK _ _ (h v' w' h2 h3 h5)
/-- The cells of a slice of nodes, of numbers, in whatever later world. -/
theorem nodes_src {w : World} {v : Value} {l : List Nd} (h : ReadsN w v l) : ∃ ad cap, v = .slice ad l.length cap ∧ (ad = none → l.length = 0) ∧ ∀ W, Below w.heap.size w W → ∀ q, ad = some q → ∀ j u, (rowN l)[j]? = some u → W.cell? (q.add j) = some u := by
  rcases h with ⟨rfl, ad, cap, rfl⟩ | ⟨b, o, more, rfl, hb, hnds⟩
  · exact ⟨ad, cap, rfl, fun _ => rfl, fun W _ q _ j u hu => by simp [rowN] at hu⟩
  · exact ⟨some ⟨b, o, none⟩, l.length + more, rfl, fun e => (by cases e), fun W hW q e j u hu => by cases e; exact nds_cells (fun i x hx => (hnds i x hx).below hb hW) j u hu⟩
def rowI (l : List Int) : List Value := l.map (Value.int .i64)
theorem rowI_len (l : List Int) : (rowI l).length = l.length := List.length_map ..
theorem rowI_one (l : List Int) : ∀ u ∈ rowI l, u.oneCell' = true := by
  intro u hu
  unfold rowI at hu
  obtain ⟨x, _, rfl⟩ := List.mem_map.1 hu
  rfl
theorem ints_src {w : World} {v : Value} {l : List Int} (h : ReadsI w v l) : ∃ ad cap, v = .slice ad l.length cap ∧ (ad = none → l.length = 0) ∧ ∀ W, Below w.heap.size w W → ∀ q, ad = some q → ∀ j u, (rowI l)[j]? = some u → W.cell? (q.add j) = some u := by
  rcases h with ⟨rfl, ad, cap, rfl⟩ | ⟨b, o, more, rfl, hb, ht⟩
  · exact ⟨ad, cap, rfl, fun _ => rfl, fun W _ q _ j u hu => by simp [rowI] at hu⟩
  · refine ⟨some ⟨b, o, none⟩, l.length + more, rfl, fun e => (by cases e), fun W hW q e j u hu => ?_⟩
    cases e
    unfold rowI at hu
    rw [List.getElem?_map] at hu
    cases hx : l[j]? with
    | none => rw [hx] at hu; cases hu
    | some x =>
      rw [hx] at hu
      cases hu
      rw [Addr.add_mid]
      exact (hW.cell (p := ⟨b, _, none⟩) hb).trans (ht j x hx)
theorem own_readsI {w : World} {base : Nat} {v : Value} {l : List Int} (h : w.ownsRow base 3 1 v l.length (rowI l)) : ReadsI w v l := by
  rcases h.2 with ⟨rfl, h0⟩ | ⟨g, cap, cur, rfl, hb, hg, hnc, _⟩
  · rw [List.length_eq_zero_iff] at h0
    subst h0
    exact .inl ⟨rfl, _, _, rfl⟩
  · refine .inr ⟨g, 0, cap - l.length, by rw [Nat.add_sub_cancel' hnc], (Array.getElem?_eq_some_iff.1 hg).1, fun i x hx => ?_⟩
    have hcc := h.cells (g := g) rfl i (.int .i64 x) (by unfold rowI; rw [List.getElem?_map, hx]; rfl)
    rwa [Addr.add_mid] at hcc
theorem info_nd8 : (Tryz.prog.info? 43).map (fun i => (i.zero, i.size, i.bytes)) = some (some (.agg #[.int .u8 0, .int .i64 0, .int .i64 0, .int .i64 0, .int .i64 0]), 5, 40) := by kernel_rfl
theorem info_int8 : (Tryz.prog.info? 3).map (fun i => (i.zero, i.size, i.bytes)) = some (some (.int .i64 0), 1, 8) := by kernel_rfl

/-! ### Twin -/
/-- What Twin leaves: a query of slices of its own, which lie apart. -/
def TwinEnds (w : World) (q : Qy) (e : Ending) (w' : World) : Prop :=
  ∃ (s : Sl) (b2 : Nat), e = .returned (qyVal s q) ∧ ReadsQ w' s q ∧ Below w.heap.size w w' ∧
      w'.ownsRow w.heap.size 43 5 s.arg q.arg.length (rowN q.arg) ∧ w'.ownsRow b2 43 5 s.cond q.cond.length (rowN q.cond) ∧ w'.ownsRow b2 3 1 s.src q.src.length (rowI q.src) ∧
      (∀ k, s.arg.ownBlock = some k → k < b2) ∧ w.heap.size ≤ b2 ∧ (∀ k, s.src.ownBlock = some k → ∀ j, s.cond.ownBlock = some j → j < k)
end Go.Proofs.YtdinaedknlkicaaGreatDoor.Nodes

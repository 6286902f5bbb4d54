/-
  Contract of the reference of layer 4: Made, for at most two parts.
-/
import Derived.Test.YtflmpjejlkhpcaaDoorRefNode
import Derived.Test.YtflmpjejlkhpcaaDoorNodeRows
import Derived.Test.YtflmpjejlkhpcaaDoorNodeLaws
import Derived.Test.YtflmpjejlkhpcaaDoorRefSizes
import Derived.Maps.AppendAt
import Derived.Outline
namespace Go.Proofs.YtflmpjejlkhpcaaDoor.Nodes
open Go.ChangeShapes Go.WideShapes Go.ChangeAt Go.RowKit

/-- The parts behind each other. -/
def outO (ps : List (List Nd)) : List Nd := ps.foldl (fun o p => o ++ p.map (shift (-(o.length : Int)))) []
theorem outO_snoc (ps : List (List Nd)) (p : List Nd) : outO (ps ++ [p]) = outO ps ++ p.map (shift (-((outO ps).length : Int))) := by unfold outO; rw [List.foldl_append]; rfl
theorem outO_one (p : List Nd) : outO [p] = p := by
  show [] ++ p.map (shift (-((([] : List Nd).length : Nat) : Int))) = p
  rw [List.nil_append]
  conv => rhs; rw [← List.map_id p]
  exact List.map_congr_left fun x _ => shift_zero x
theorem outO_two (p q : List Nd) : outO [p, q] = p ++ q.map (shift (-(p.length : Int))) := by
  have := outO_snoc [p] q
  rw [outO_one] at this
  exact this
/-- The indices of the parts of the whole, behind so many of them. -/
def aO (ps : List (List Nd)) (i : Nat) : Int := if i = 0 then 0 else ((outO (ps.take 1)).length : Int) - 1
def bO (ps : List (List Nd)) (i : Nat) : Int := if i ≤ 1 then 0 else ((outO (ps.take 2)).length : Int) - 1
theorem made_outO (k n p : Int) (ps : List (List Nd)) (h : ps.length ≤ 2) : madeL k n p ps = outO ps ++ [⟨k, n, aO ps ps.length, bO ps ps.length, p⟩] := by
  match ps, h with
  | [], _ => rfl
  | [a], _ => show a ++ [_] = _; rw [outO_one]; simp only [aO, bO, List.length_singleton, List.take_succ_cons, List.take_nil, Nat.le_refl, if_true, Nat.one_ne_zero, if_false, outO_one]
  | [a, b], _ =>
    show a ++ b.map _ ++ [_] = _
    have e1 : aO [a, b] 2 = (a.length : Int) - 1 := by
      show (if (2 : Nat) = 0 then (0 : Int) else ((outO [a]).length : Int) - 1) = _
      rw [if_neg (by decide), outO_one]
    have e2 : bO [a, b] 2 = (a.length : Int) + b.length - 1 := by
      show (if (2 : Nat) ≤ 1 then (0 : Int) else ((outO [a, b]).length : Int) - 1) = _
      rw [if_neg (by decide), outO_two, List.length_append, List.length_map]
      omega
    show _ = outO [a, b] ++ [⟨k, n, aO [a, b] 2, bO [a, b] 2, p⟩]
    rw [e1, e2, outO_two]
/-- A node in a block of its own, whole. -/
def XAt (w : World) (b : Nat) (k n A B p : Int) : Prop := w.heap[b]? = some (.cells #[.int .u8 k, .int .i64 n, .int .i64 A, .int .i64 B, .int .i64 p] 31 (0, 0))
theorem XAt.facts {w : World} {b : Nat} {k n A B p : Int} (h : XAt w b k n A B p) : w.cell? ⟨b, 0, none⟩ = some (.int .u8 k) ∧ w.cell? ⟨b, 1, none⟩ = some (.int .i64 n) ∧ w.cell? ⟨b, 2, none⟩ = some (.int .i64 A) ∧ w.cell? ⟨b, 3, none⟩ = some (.int .i64 B) ∧ w.cell? ⟨b, 4, none⟩ = some (.int .i64 p) ∧ w.frozen? ⟨b, 2, none⟩ = false ∧ w.frozen? ⟨b, 3, none⟩ = false := by
  refine ⟨(cell_of h 0).trans rfl, (cell_of h 1).trans rfl, (cell_of h 2).trans rfl, (cell_of h 3).trans rfl, (cell_of h 4).trans rfl, ?_, ?_⟩
  · unfold XAt at h; simp [World.frozen?, h]
  · unfold XAt at h; simp [World.frozen?, h]
theorem XAt.kept {w w' : World} {b : Nat} {k n A B p : Int} (h : XAt w b k n A B p) (e : w'.heap[b]? = w.heap[b]?) : XAt w' b k n A B p := e.trans h
def PartSmall (p : List Nd) : Prop := p.length ≤ 1000 ∧ ∀ x ∈ p, 0 ≤ x.a ∧ x.a ≤ 1000 ∧ 0 ≤ x.b ∧ x.b ≤ 1000
theorem ReadsP.part {w : World} {v : Value} {ps : List (List Nd)} (h : ReadsP w v ps) (i : Nat) (hi : i < ps.length) : ∃ b o cap vi, v = .slice (some ⟨b, o, none⟩) ps.length cap ∧ b < w.heap.size ∧ w.cell? ⟨b, o + i, none⟩ = some vi ∧ ReadsN w vi ps[i] := by
  rcases h with ⟨rfl, _⟩ | ⟨b, o, cap, rfl, hb, ht⟩
  · simp at hi
  · obtain ⟨vi, h1, h2⟩ := ht i _ (List.getElem?_eq_getElem hi)
    exact ⟨b, o, cap, vi, rfl, hb, h1, h2⟩
theorem ReadsP.shape {w : World} {v : Value} {ps : List (List Nd)} (h : ReadsP w v ps) : ∃ ad cap, v = .slice ad ps.length cap := by
  rcases h with ⟨rfl, ad, cap, rfl⟩ | ⟨b, o, cap, rfl, _⟩
  · exact ⟨ad, cap, rfl⟩
  · exact ⟨_, _, rfl⟩
theorem ReadsP.below {w w' : World} {v : Value} {ps : List (List Nd)} (h : ReadsP w v ps) (hb : Below w.heap.size w w') : ReadsP w' v ps := by
  rcases h with h | ⟨b, o, cap, rfl, hlt, ht⟩
  · exact .inl h
  · refine .inr ⟨b, o, cap, rfl, Nat.lt_of_lt_of_le hlt hb.size, fun i p hp => ?_⟩
    obtain ⟨vi, h1, h2⟩ := ht i p hp
    exact ⟨vi, (hb.cell (p := ⟨b, _, none⟩) hlt).trans h1, h2.below hb⟩
theorem take_shift (p : List Nd) (d : Int) {j : Nat} (hj : j < p.length) : (p.take (j + 1)).map (shift d) = (p.take j).map (shift d) ++ [shift d p[j]] := by
  rw [List.take_succ_eq_append_getElem hj, List.map_append]; rfl
theorem out_len (o p : List Nd) (d : Int) {j : Nat} (hj : j ≤ p.length) : (o ++ (p.take j).map (shift d)).length = o.length + j := by
  rw [List.length_append, List.length_map, List.length_take, Nat.min_eq_left hj]
theorem grown_block {w w' : World} {base n : Nat} {e : TypeId} {size : Nat} {v : Value} {xs : List Value} (h : w.ownsRow base e size v n xs) (hg : w.grownBy w' v.ownBlock) {b : Nat} (hb : b < base) (hlt : b < w.heap.size) : w'.heap[b]? = w.heap[b]? :=
  hg.block b hlt fun e => by have := (h.lt b e.symm).1; omega
/-- The cells of what there is behind j nodes of a part. -/
def rowK (oo p : List Nd) (F j : Nat) : List Value := rowN (oo ++ (p.take j).map (shift (-(F : Int))))
theorem rowK_zero (oo p : List Nd) (F : Nat) : rowK oo p F 0 = rowN oo := by unfold rowK; rw [List.take_zero, List.map_nil, List.append_nil]
theorem rowK_all (oo p : List Nd) (F : Nat) : rowK oo p F p.length = rowN (oo ++ p.map (shift (-(F : Int)))) := by unfold rowK; rw [List.take_length]
theorem rowK_next (oo p : List Nd) (F : Nat) {j : Nat} (hj : j < p.length) : rowK oo p F (j + 1) = rowK oo p F j ++ ndCells (shift (-(F : Int)) p[j]) := by
  unfold rowK
  rw [take_shift p _ hj, ← List.append_assoc, rowN_add]
theorem XAt.alloc {w : World} {b : Nat} {k n A B p : Int} (h : XAt w b k n A B p) (o : Obj) : XAt (w.alloc o) b k n A B p :=
  h.kept (((Below.refl w.heap.size w).alloc (Nat.le_refl _) o).block b (Array.getElem?_eq_some_iff.1 h).1)
theorem XAt.grown {w w' : World} {base m : Nat} {e : TypeId} {size : Nat} {v : Value} {xs : List Value} {b : Nat} {k n A B p : Int} (h : XAt w b k n A B p) (ho : w.ownsRow base e size v m xs) (hg : w.grownBy w' v.ownBlock) (hb : b < base) : XAt w' b k n A B p :=
  h.kept (grown_block ho hg hb (Array.getElem?_eq_some_iff.1 h).1)
theorem XAt.setA {w : World} {b : Nat} {k n A B p : Int} (h : XAt w b k n A B p) (A' : Int) : XAt (w.setCell ⟨b, 2, none⟩ (.int .i64 A')) b k n A' B p := by
  unfold XAt at h ⊢
  show (w.heap.modify b _)[b]? = _
  rw [Array.getElem?_modify, if_pos rfl, h]
  rfl
theorem XAt.setB {w : World} {b : Nat} {k n A B p : Int} (h : XAt w b k n A B p) (B' : Int) : XAt (w.setCell ⟨b, 3, none⟩ (.int .i64 B')) b k n A B' p := by
  unfold XAt at h ⊢
  show (w.heap.modify b _)[b]? = _
  rw [Array.getElem?_modify, if_pos rfl, h]
  rfl
set_option maxRecDepth 100000 in
set_option maxHeartbeats 6000000 in
theorem refMade_any (k n at_ : Int) (v : Value) (ps : List (List Nd)) (w : World) (hR : ReadsP w v ps) (h2 : ps.length ≤ 2) (hs : ∀ p ∈ ps, PartSmall p) :
    Calls Tryd.prog 14 #[.int .u8 k, .int .i64 n, .int .i64 at_, v] w fun e w' => ∃ vo, e = .returned vo ∧ w'.ownsRow w.heap.size 31 5 vo (madeL k n at_ ps).length (rowN (madeL k n at_ ps)) ∧ Below w.heap.size w w' := by
  obtain ⟨i0, hi, hz0, hz1, hz2⟩ := info_parts info_nd
  have HI := Lib.hid (And.intro hi (And.intro hz0 (And.intro hz1 hz2)))
  obtain ⟨ad, cap, rfl⟩ := hR.shape
  have HR := Lib.hid hR
  have HSM := Lib.hid hs
  have HML := Lib.hid (made_outO k n at_ ps h2)
  have HX0 : Hid (XAt (w.alloc (Obj.cells #[.int .u8 k, .int .i64 n, .int .i64 0, .int .i64 0, .int .i64 at_] 31)) w.heap.size k n (aO ps 0) (bO ps 0) at_) := Lib.hid (heap_alloc_new w _)
  have HB0 : Hid (Below w.heap.size w (w.alloc (Obj.cells #[.int .u8 k, .int .i64 n, .int .i64 0, .int .i64 0, .int .i64 at_] 31))) := Lib.hid ((Below.refl _ _).alloc (Nat.le_refl _) _)
  clear hR hs hi hz0 hz1 hz2
  go_enter Tryd.func14, Tryd.ntmps14
  go_wp2_with fail
  go_loopg [9, 11] ps.length (fun g s9 s11 wx => ∃ i : Nat, i + g = ps.length ∧ s11 = .int .i64 i ∧ Hid (wx.ownsRow (w.heap.size + 1) 31 5 s9 (outO (ps.take i)).length (rowN (outO (ps.take i)))) ∧ Hid (XAt wx w.heap.size k n (aO ps i) (bO ps i) at_) ∧ Hid (Below w.heap.size w wx) ∧ Hid (w.heap.size < wx.heap.size) ∧ Hid ((outO (ps.take i)).length ≤ 2000))
  case atStart => exact ⟨0, by omega, rfl, Lib.hid (World.ownsRow_nil _ _ _ _), HX0, HB0, Lib.hid (by simp), Lib.hid (Nat.zero_le 2000)⟩
  case round =>
    obtain ⟨i, hig, rfl, HO, HX, HB, HL, HN⟩ := hrel
    obtain ⟨adO, capO, hO⟩ := own_shape HO.out
    subst hO
    cases gk with
    | zero =>
      obtain rfl : i = ps.length := by omega
      have HO2 := HO.out
      have HN2 := HN.out
      rw [List.take_length] at HO2 HN2
      have HML2 := HML.out
      obtain ⟨A, hA⟩ : ∃ A, aO ps ps.length = A := ⟨_, rfl⟩
      obtain ⟨B, hB⟩ : ∃ B, bO ps ps.length = B := ⟨_, rfl⟩
      have HXX := HX.out
      rw [hA, hB] at HML2 HXX
      obtain ⟨c0, c1, c2, c3, c4, f2, f3⟩ := HXX.facts
      obtain ⟨L, hL⟩ : ∃ L, (outO ps).length = L := ⟨_, rfl⟩
      obtain ⟨rw0, hrw⟩ : ∃ r, rowN (outO ps) = r := ⟨_, rfl⟩
      have hml : (madeL k n at_ ps).length = L + 1 := by rw [HML2, List.length_append, hL]; rfl
      have hmr : rowN (madeL k n at_ ps) = rw0 ++ [.int .u8 k, .int .i64 n, .int .i64 A, .int .i64 B, .int .i64 at_] := by rw [HML2, rowN_add, hrw]; rfl
      rw [hL, hrw] at HO2
      rw [hL] at HN2
      have HLL : Hid ((outO (ps.take ps.length)).length = L) := Lib.hid (by rw [List.take_length, hL])
      rw [HLL.out] at HO ⊢
      have OWN := Lib.hid HO2
      have HM := Lib.hid (And.intro hml hmr)
      have HSZ := HL.out
      clear HO2 HML2 hml hmr hL hrw hA hB hig HXX f2 f3 HO
      go_wp2_with (at_builtin; refine wpList_append_own _ rfl _ _ 32 rfl (w.heap.size + 1) 31 i0 (.agg #[.int .u8 0, .int .i64 0, .int .i64 0, .int .i64 0, .int .i64 0]) 5 40 Tryd.underlying32 HI.out.1 HI.out.2.1 HI.out.2.2.1 HI.out.2.2.2 rfl (by decide) _ _ _ rfl (OWN.out.alloc _) ⟨wr.heap.size, 0, none⟩ 1 1 [.int .u8 k, .int .i64 n, .int .i64 A, .int .i64 B, .int .i64 at_] rfl rfl ?c1 ?c2 ?c3 ?c4 ?c5 ?_)
      case c1 =>
        intro q u hq
        match q with
        | 0 => simp at hq; subst hq; simp [go_sem, Addr.add]
        | 1 => simp at hq; subst hq; simp [go_sem, Addr.add]
        | 2 => simp at hq; subst hq; simp [go_sem, Addr.add]
        | 3 => simp at hq; subst hq; simp [go_sem, Addr.add]
        | 4 => simp at hq; subst hq; simp [go_sem, Addr.add]
        | q + 5 => simp at hq
      case c2 => intro u hu; simp at hu; rcases hu with rfl | rfl | rfl | rfl | rfl <;> rfl
      case c3 => unfold maxLen; omega
      case c4 => omega
      case c5 => skip; simp at *; omega
      intro v1 w4 hown hgrow _
      have HB4 := Lib.hid ((HB.out.alloc HB.out.size _).grown hgrow (by have := HB.out.size; simp; omega) (fun j hj => by have := (OWN.out.lt j hj).1; omega))
      have HO4 := Lib.hid (own_lower hown (Nat.le_succ _))
      clear hown hgrow
      go_wp2_with fail
      go_ret
      exact ⟨_, rfl, by rw [HM.out.1, HM.out.2]; exact HO4.out, HB4.out⟩
    | succ g =>
      have hlt : i < ps.length := by omega
      obtain ⟨b, o, cap', vi, hv, hbw, hvi, hRi⟩ := HR.out.part i hlt
      cases hv
      have hps := HSM.out _ (List.getElem_mem hlt)
      have HNX := outO_snoc (ps.take i) ps[i]
      rw [← List.take_succ_eq_append_getElem hlt] at HNX
      obtain ⟨p, hp⟩ : ∃ p, ps[i] = p := ⟨_, rfl⟩
      rw [hp] at hRi hps HNX
      obtain ⟨oo, hoo⟩ : ∃ oo, outO (ps.take i) = oo := ⟨_, rfl⟩
      rw [hoo] at HO HN HNX ⊢
      obtain ⟨hpl, hpx⟩ := hps
      obtain ⟨ad2, cap2, rfl⟩ := hRi.shape
      have RI := Lib.hid hRi
      have HPX := Lib.hid hpx
      have HN2 := HN.out
      have CI : Hid (∀ wy : World, Below w.heap.size w wy → wy.cell? ⟨b, o + i, none⟩ = some (.slice ad2 p.length cap2)) := Lib.hid fun wy h => (h.cell (p := ⟨b, _, none⟩) hbw).trans hvi
      obtain ⟨F, hF⟩ : ∃ F, oo.length = F := ⟨_, rfl⟩
      rw [hF] at HO HN2 ⊢
      have HO0 : Hid (wr.ownsRow (w.heap.size + 1) 31 5 (.slice adO F capO) (F + 0) (rowK oo p F 0)) := Lib.hid (by rw [rowK_zero]; exact HO.out)
      have HNX2 : Hid (outO (ps.take (i + 1)) = oo ++ p.map (shift (-(F : Int)))) := Lib.hid (by rw [HNX, hF])
      have hi1 : (i : Int) < ps.length := by omega
      have HOO := Lib.hid (And.intro hoo hF)
      clear hRi hpx HNX hp hoo hF hvi
      go_wp2_with fail
      go_loopg [9, 13] p.length (fun g2 s9 s13 wy => ∃ j : Nat, j + g2 = p.length ∧ s13 = .int .i64 j ∧ Hid (wy.ownsRow (w.heap.size + 1) 31 5 s9 (F + j) (rowK oo p F j)) ∧ Hid (XAt wy w.heap.size k n (aO ps i) (bO ps i) at_) ∧ Hid (Below w.heap.size w wy) ∧ Hid (w.heap.size < wy.heap.size))
      case atStart => exact ⟨0, by omega, rfl, HO0, HX, HB, HL⟩
      case round =>
        obtain ⟨j, hj, rfl, HO2, HX2, HB2, HL2⟩ := hrel
        obtain ⟨adO2, capO2, hO2⟩ := own_shape HO2.out
        subst hO2
        have hci := CI.out _ HB2.out
        cases gk with
        | zero =>
          obtain rfl : j = p.length := by omega
          have HOF := HO2.out
          rw [rowK_all, ← HNX2.out] at HOF
          obtain ⟨L, hL⟩ : ∃ L, F + p.length = L := ⟨_, rfl⟩
          have hLL : (outO (ps.take (i + 1))).length = L := by rw [HNX2.out, List.length_append, List.length_map, HOO.out.2]; exact hL
          rw [hL] at HOF ⊢
          have OWN : Hid (wr.ownsRow (w.heap.size + 1) 31 5 (.slice adO2 L capO2) (outO (ps.take (i + 1))).length (rowN (outO (ps.take (i + 1))))) := Lib.hid (by rw [hLL]; exact HOF)
          have HNN : Hid ((outO (ps.take (i + 1))).length ≤ 2000) := Lib.hid (by
            rw [hLL]
            by_cases h1 : i = 0
            · have h3 := HOO.out
              subst h1
              have : F = 0 := by rw [← h3.2, ← h3.1]; rfl
              omega
            · have : ps.length = 2 := by omega
              have h1' : i = 1 := by omega
              have h3 := HOO.out
              subst h1'
              match ps, this with
              | [pa, pb], _ =>
                have : F = pa.length := by rw [← h3.2, ← h3.1]; show (outO [pa]).length = _; rw [outO_one]
                have := (HSM.out pa (by simp)).1
                omega)
          obtain ⟨c0, c1, c2, c3, c4, f2, f3⟩ := HX2.out.facts
          have hL1 : L ≤ 100000 := by have := HNN.out; omega
          have HL2x := HL2.out
          rcases (show i = 0 ∨ i = 1 by omega) with rfl | rfl
          · have HA : Hid (XAt (wr.setCell ⟨w.heap.size, 2, none⟩ (.int .i64 ((L : Int) - 1))) w.heap.size k n (aO ps 1) (bO ps 1) at_) := Lib.hid (by
              have h1 := HX2.out.setA ((L : Int) - 1)
              have e1 : aO ps 1 = (L : Int) - 1 := by unfold aO; rw [if_neg (by decide)]; have := hLL; simp only [Nat.zero_add] at this; rw [this]
              have e2 : bO ps 1 = bO ps 0 := rfl
              rw [e1, e2]; exact h1)
            have hci0 := hci
            simp only [Nat.add_zero] at hci0
            clear HOF hLL hj
            go_wp2_with fail
            go_roundg g
            case measure => omega
            case rel => exact ⟨1, by omega, rfl, Lib.hid (own_set OWN.out (fun e => by have := (OWN.out.lt _ e).1; omega) _ _), HA, Lib.hid (HB2.out.setCell (Nat.le_refl _) _), Lib.hid (by simpa [World.setCell] using HL2.out), HNN⟩
          · have HA : Hid (XAt (wr.setCell ⟨w.heap.size, 3, none⟩ (.int .i64 ((L : Int) - 1))) w.heap.size k n (aO ps 2) (bO ps 2) at_) := Lib.hid (by
              have h1 := HX2.out.setB ((L : Int) - 1)
              have e1 : aO ps 2 = aO ps 1 := rfl
              have e2 : bO ps 2 = (L : Int) - 1 := by unfold bO; rw [if_neg (by decide)]; rw [← hLL]
              rw [e1, e2]; exact h1)
            clear HOF hLL hj
            go_wp2_with fail
            go_roundg g
            case measure => omega
            case rel => exact ⟨2, by omega, rfl, Lib.hid (own_set OWN.out (fun e => by have := (OWN.out.lt _ e).1; omega) _ _), HA, Lib.hid (HB2.out.setCell (Nat.le_refl _) _), Lib.hid (by simpa [World.setCell] using HL2.out), HNN⟩
        | succ g2 =>
          have hjp : j < p.length := by omega
          obtain ⟨bb, ob, cap3, hv3, hbb, hnd⟩ := (RI.out.below HB2.out).nd j hjp
          cases hv3
          have hsm := HPX.out _ (List.getElem_mem hjp)
          obtain ⟨x, hx⟩ : ∃ x, p[j] = x := ⟨_, rfl⟩
          rw [hx] at hnd hsm
          obtain ⟨xk, xn, xa, xb, xp⟩ := x
          have CN := Lib.hid (refCount_any xk)
          obtain ⟨c0, c1, c2, c3, c4⟩ := hnd
          simp only at c0 c1 c2 c3 c4 hsm
          obtain ⟨m1, m2, m3, m4⟩ := hsm
          have hjp1 : (j : Int) < p.length := by omega
          rcases arity_cases xk with h0 | h0 | h0
          · have HNX : Hid (rowK oo p F (j + 1) = rowK oo p F j ++ [.int .u8 xk, .int .i64 xn, .int .i64 xa, .int .i64 xb, .int .i64 xp]) := Lib.hid (by
              rw [rowK_next oo p F hjp, hx]
              congr 1
              unfold shift ndCells
              simp [h0])
            rw [h0] at CN
            have OWN : Hid ((wr.alloc (Obj.cells #[.int .u8 xk, .int .i64 xn, .int .i64 xa, .int .i64 xb, .int .i64 xp] 31)).ownsRow (w.heap.size + 1) 31 5 (.slice adO2 (F + j) capO2) (F + j) (rowK oo p F j)) := Lib.hid (HO2.out.alloc _)
            have HX3 : Hid (XAt (wr.alloc (Obj.cells #[.int .u8 xk, .int .i64 xn, .int .i64 xa, .int .i64 xb, .int .i64 xp] 31)) w.heap.size k n (aO ps i) (bO ps i) at_) := Lib.hid (HX2.out.alloc _)
            have HB3 : Hid (Below w.heap.size w (wr.alloc (Obj.cells #[.int .u8 xk, .int .i64 xn, .int .i64 xa, .int .i64 xb, .int .i64 xp] 31))) := Lib.hid (HB2.out.alloc HB2.out.size _)
            clear hx h0
            go_wp2_with fail
            refine (CN.out _).mono ?_
            rintro e w3 ⟨rfl, rfl⟩
            go_wp2_with fail
            refine (CN.out _).mono ?_
            rintro e w3 ⟨rfl, rfl⟩
            go_wp2_with (at_builtin; refine wpList_append_own _ rfl _ _ 32 rfl (w.heap.size + 1) 31 i0 (.agg #[.int .u8 0, .int .i64 0, .int .i64 0, .int .i64 0, .int .i64 0]) 5 40 Tryd.underlying32 HI.out.1 HI.out.2.1 HI.out.2.2.1 HI.out.2.2.2 rfl (by decide) _ _ _ rfl (OWN.out.alloc _) ⟨wr.heap.size + 1, 0, none⟩ 1 1 [.int .u8 xk, .int .i64 xn, .int .i64 xa, .int .i64 xb, .int .i64 xp] rfl rfl ?c1 ?c2 ?c3 ?c4 ?c5 ?_)
            case c1 =>
              intro q u hq
              match q with
              | 0 => simp at hq; subst hq; simp [go_sem, Addr.add]
              | 1 => simp at hq; subst hq; simp [go_sem, Addr.add]
              | 2 => simp at hq; subst hq; simp [go_sem, Addr.add]
              | 3 => simp at hq; subst hq; simp [go_sem, Addr.add]
              | 4 => simp at hq; subst hq; simp [go_sem, Addr.add]
              | q + 5 => simp at hq
            case c2 => intro u hu; simp at hu; rcases hu with rfl | rfl | rfl | rfl | rfl <;> rfl
            case c3 => unfold maxLen; omega
            case c4 => omega
            case c5 => have hz9 := HL2.out; simp at *; omega
            intro v1 w4 hown hgrow _
            have HB4 := Lib.hid ((HB3.out.alloc HB3.out.size _).grown hgrow (by have := HB3.out.size; simp at *; omega) (fun q hq => by have := (OWN.out.lt q hq).1; omega))
            have HX4 := Lib.hid ((HX3.out.alloc _).grown (OWN.out.alloc _) hgrow (Nat.lt_succ_self _))
            have HO4 : Hid (w4.ownsRow (w.heap.size + 1) 31 5 v1 (F + (j + 1)) (rowK oo p F (j + 1))) := Lib.hid (by
              rw [HNX.out]
              exact hown)
            have HL4 : Hid (w.heap.size < w4.heap.size) := Lib.hid (by have := hgrow.size; have := HL2.out; simp at *; omega)
            clear hown hgrow
            go_wp2_with fail
            go_roundg g2
            case measure => omega
            case rel => exact ⟨j + 1, by omega, by go_num, HO4, HX4, HB4, HL4⟩
          · have HNX : Hid (rowK oo p F (j + 1) = rowK oo p F j ++ [.int .u8 xk, .int .i64 xn, .int .i64 (xa + F), .int .i64 xb, .int .i64 xp]) := Lib.hid (by
              rw [rowK_next oo p F hjp, hx]
              congr 1
              unfold shift ndCells
              simp [h0])
            rw [h0] at CN
            have OWN : Hid ((wr.alloc (Obj.cells #[.int .u8 xk, .int .i64 xn, .int .i64 (xa + F), .int .i64 xb, .int .i64 xp] 31)).ownsRow (w.heap.size + 1) 31 5 (.slice adO2 (F + j) capO2) (F + j) (rowK oo p F j)) := Lib.hid (HO2.out.alloc _)
            have HX3 : Hid (XAt (wr.alloc (Obj.cells #[.int .u8 xk, .int .i64 xn, .int .i64 (xa + F), .int .i64 xb, .int .i64 xp] 31)) w.heap.size k n (aO ps i) (bO ps i) at_) := Lib.hid (HX2.out.alloc _)
            have HB3 : Hid (Below w.heap.size w (wr.alloc (Obj.cells #[.int .u8 xk, .int .i64 xn, .int .i64 (xa + F), .int .i64 xb, .int .i64 xp] 31))) := Lib.hid (HB2.out.alloc HB2.out.size _)
            clear hx h0
            go_wp2_with fail
            refine (CN.out _).mono ?_
            rintro e w3 ⟨rfl, rfl⟩
            go_wp2_with fail
            refine (CN.out _).mono ?_
            rintro e w3 ⟨rfl, rfl⟩
            go_wp2_with (at_builtin; refine wpList_append_own _ rfl _ _ 32 rfl (w.heap.size + 1) 31 i0 (.agg #[.int .u8 0, .int .i64 0, .int .i64 0, .int .i64 0, .int .i64 0]) 5 40 Tryd.underlying32 HI.out.1 HI.out.2.1 HI.out.2.2.1 HI.out.2.2.2 rfl (by decide) _ _ _ rfl (OWN.out.alloc _) ⟨wr.heap.size + 1, 0, none⟩ 1 1 [.int .u8 xk, .int .i64 xn, .int .i64 (xa + F), .int .i64 xb, .int .i64 xp] rfl rfl ?c1 ?c2 ?c3 ?c4 ?c5 ?_)
            case c1 =>
              intro q u hq
              match q with
              | 0 => simp at hq; subst hq; simp [go_sem, Addr.add]
              | 1 => simp at hq; subst hq; simp [go_sem, Addr.add]
              | 2 => simp at hq; subst hq; simp [go_sem, Addr.add]
              | 3 => simp at hq; subst hq; simp [go_sem, Addr.add]
              | 4 => simp at hq; subst hq; simp [go_sem, Addr.add]
              | q + 5 => simp at hq
            case c2 => intro u hu; simp at hu; rcases hu with rfl | rfl | rfl | rfl | rfl <;> rfl
            case c3 => unfold maxLen; omega
            case c4 => omega
            case c5 => have hz9 := HL2.out; simp at *; omega
            intro v1 w4 hown hgrow _
            have HB4 := Lib.hid ((HB3.out.alloc HB3.out.size _).grown hgrow (by have := HB3.out.size; simp at *; omega) (fun q hq => by have := (OWN.out.lt q hq).1; omega))
            have HX4 := Lib.hid ((HX3.out.alloc _).grown (OWN.out.alloc _) hgrow (Nat.lt_succ_self _))
            have HO4 : Hid (w4.ownsRow (w.heap.size + 1) 31 5 v1 (F + (j + 1)) (rowK oo p F (j + 1))) := Lib.hid (by
              rw [HNX.out]
              exact hown)
            have HL4 : Hid (w.heap.size < w4.heap.size) := Lib.hid (by have := hgrow.size; have := HL2.out; simp at *; omega)
            clear hown hgrow
            go_wp2_with fail
            go_roundg g2
            case measure => omega
            case rel => exact ⟨j + 1, by omega, by go_num, HO4, HX4, HB4, HL4⟩
          · have HNX : Hid (rowK oo p F (j + 1) = rowK oo p F j ++ [.int .u8 xk, .int .i64 xn, .int .i64 (xa + F), .int .i64 (xb + F), .int .i64 xp]) := Lib.hid (by
              rw [rowK_next oo p F hjp, hx]
              congr 1
              unfold shift ndCells
              simp [h0])
            rw [h0] at CN
            have OWN : Hid ((wr.alloc (Obj.cells #[.int .u8 xk, .int .i64 xn, .int .i64 (xa + F), .int .i64 (xb + F), .int .i64 xp] 31)).ownsRow (w.heap.size + 1) 31 5 (.slice adO2 (F + j) capO2) (F + j) (rowK oo p F j)) := Lib.hid (HO2.out.alloc _)
            have HX3 : Hid (XAt (wr.alloc (Obj.cells #[.int .u8 xk, .int .i64 xn, .int .i64 (xa + F), .int .i64 (xb + F), .int .i64 xp] 31)) w.heap.size k n (aO ps i) (bO ps i) at_) := Lib.hid (HX2.out.alloc _)
            have HB3 : Hid (Below w.heap.size w (wr.alloc (Obj.cells #[.int .u8 xk, .int .i64 xn, .int .i64 (xa + F), .int .i64 (xb + F), .int .i64 xp] 31))) := Lib.hid (HB2.out.alloc HB2.out.size _)
            clear hx h0
            go_wp2_with fail
            refine (CN.out _).mono ?_
            rintro e w3 ⟨rfl, rfl⟩
            go_wp2_with fail
            refine (CN.out _).mono ?_
            rintro e w3 ⟨rfl, rfl⟩
            go_wp2_with (at_builtin; refine wpList_append_own _ rfl _ _ 32 rfl (w.heap.size + 1) 31 i0 (.agg #[.int .u8 0, .int .i64 0, .int .i64 0, .int .i64 0, .int .i64 0]) 5 40 Tryd.underlying32 HI.out.1 HI.out.2.1 HI.out.2.2.1 HI.out.2.2.2 rfl (by decide) _ _ _ rfl (OWN.out.alloc _) ⟨wr.heap.size + 1, 0, none⟩ 1 1 [.int .u8 xk, .int .i64 xn, .int .i64 (xa + F), .int .i64 (xb + F), .int .i64 xp] rfl rfl ?c1 ?c2 ?c3 ?c4 ?c5 ?_)
            case c1 =>
              intro q u hq
              match q with
              | 0 => simp at hq; subst hq; simp [go_sem, Addr.add]
              | 1 => simp at hq; subst hq; simp [go_sem, Addr.add]
              | 2 => simp at hq; subst hq; simp [go_sem, Addr.add]
              | 3 => simp at hq; subst hq; simp [go_sem, Addr.add]
              | 4 => simp at hq; subst hq; simp [go_sem, Addr.add]
              | q + 5 => simp at hq
            case c2 => intro u hu; simp at hu; rcases hu with rfl | rfl | rfl | rfl | rfl <;> rfl
            case c3 => unfold maxLen; omega
            case c4 => omega
            case c5 => have hz9 := HL2.out; simp at *; omega
            intro v1 w4 hown hgrow _
            have HB4 := Lib.hid ((HB3.out.alloc HB3.out.size _).grown hgrow (by have := HB3.out.size; simp at *; omega) (fun q hq => by have := (OWN.out.lt q hq).1; omega))
            have HX4 := Lib.hid ((HX3.out.alloc _).grown (OWN.out.alloc _) hgrow (Nat.lt_succ_self _))
            have HO4 : Hid (w4.ownsRow (w.heap.size + 1) 31 5 v1 (F + (j + 1)) (rowK oo p F (j + 1))) := Lib.hid (by
              rw [HNX.out]
              exact hown)
            have HL4 : Hid (w.heap.size < w4.heap.size) := Lib.hid (by have := hgrow.size; have := HL2.out; simp at *; omega)
            clear hown hgrow
            go_wp2_with fail
            go_roundg g2
            case measure => omega
            case rel => exact ⟨j + 1, by omega, by go_num, HO4, HX4, HB4, HL4⟩
end Go.Proofs.YtflmpjejlkhpcaaDoor.Nodes

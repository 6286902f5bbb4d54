/-
  Contracts of the reference of layer 3 that read lists of tokens: Great, Same, Alike, Join.
-/
import Derived.Test.YtighmcooilcmfaaDoorRefValid
import Derived.Outline
namespace Go.Proofs.YtighmcooilcmfaaDoor
open Go.ChangeShapes Go.WideShapes Go.ChangeAt Go.RowKit

/-- Three cells for each token, from an offset of a block on. -/
def TokAt (w : World) (b o : Nat) (ts : List Tok) : Prop :=
  ∀ i t, ts[i]? = some t → w.cell? ⟨b, o + i * 3, none⟩ = some (.int .u8 t.kind) ∧ w.cell? ⟨b, o + i * 3 + 1, none⟩ = some (.string ⟨t.text.toArray⟩) ∧ w.cell? ⟨b, o + i * 3 + 2, none⟩ = some (.int .i64 t.at_)
/-- A slice that reads as these tokens: an empty one, at whatever address, or one whose cells hold them. -/
def Reads (w : World) (v : Value) (ts : List Tok) : Prop :=
  (ts = [] ∧ ∃ ad cap, v = .slice ad 0 cap) ∨ ∃ b o cap, v = .slice (some ⟨b, o, none⟩) ts.length cap ∧ b < w.heap.size ∧ TokAt w b o ts
theorem TokAt.below {w w' : World} {b o : Nat} {ts : List Tok} (h : TokAt w b o ts) (hb : b < w.heap.size) (hw : Below w.heap.size w w') : TokAt w' b o ts := fun i t ht => by
  obtain ⟨h0, h1, h2⟩ := h i t ht
  exact ⟨(hw.cell (p := ⟨b, _, none⟩) hb).trans h0, (hw.cell (p := ⟨b, _, none⟩) hb).trans h1, (hw.cell (p := ⟨b, _, none⟩) hb).trans h2⟩
theorem Reads.below {w w' : World} {v : Value} {ts : List Tok} (h : Reads w v ts) (hw : Below w.heap.size w w') : Reads w' v ts := by
  rcases h with h | ⟨b, o, cap, rfl, hb, ht⟩
  · exact .inl h
  · exact .inr ⟨b, o, cap, rfl, Nat.lt_of_lt_of_le hb hw.size, ht.below hb hw⟩
theorem Reads.shape {w : World} {v : Value} {ts : List Tok} (h : Reads w v ts) : ∃ ad cap, v = .slice ad ts.length cap := by
  rcases h with ⟨rfl, ad, cap, rfl⟩ | ⟨b, o, cap, rfl, _⟩
  · exact ⟨ad, cap, rfl⟩
  · exact ⟨_, cap, rfl⟩
theorem rowCells_at (ts : List Tok) (i : Nat) (t : Tok) (h : ts[i]? = some t) : (rowCells ts)[i * 3]? = some (.int .u8 t.kind) ∧ (rowCells ts)[i * 3 + 1]? = some (.string ⟨t.text.toArray⟩) ∧ (rowCells ts)[i * 3 + 2]? = some (.int .i64 t.at_) := by
  induction ts generalizing i with
  | nil => simp at h
  | cons u ts ih =>
    cases i with
    | zero =>
      simp at h; subst h
      exact ⟨rfl, rfl, rfl⟩
    | succ i =>
      have := ih i (by simpa using h)
      rw [show (i + 1) * 3 = i * 3 + 3 by omega]
      exact this
/-- What All returns reads as its tokens. -/
theorem own_reads {w : World} {base : Nat} {v : Value} {ts : List Tok} (h : w.ownsRow base 30 3 v ts.length (rowCells ts)) : Reads w v ts := by
  rcases h.2 with ⟨rfl, h0⟩ | ⟨g, cap, cur, rfl, hb, hg, _⟩
  · rw [List.length_eq_zero_iff] at h0
    subst h0
    exact .inl ⟨rfl, _, _, rfl⟩
  · refine .inr ⟨g, 0, cap, rfl, (Array.getElem?_eq_some_iff.1 hg).1, fun i t ht => ?_⟩
    have hcc := h.cells (g := g) rfl
    obtain ⟨h0, h1, h2⟩ := rowCells_at ts i t ht
    have e : ∀ j, (⟨g, 0, none⟩ : Addr).add j = ⟨g, 0 + j, none⟩ := fun j => Addr.add_mid g 0 j
    refine ⟨?_, ?_, ?_⟩
    · have := hcc _ _ h0; rwa [e] at this
    · have := hcc _ _ h1; rwa [e] at this
    · have := hcc _ _ h2; rwa [e] at this

/-- The token at a place of a slice. -/
theorem Reads.tok {w : World} {v : Value} {ts : List Tok} (h : Reads w v ts) (k : Nat) (hk : k < ts.length) :
    ∃ b o cap x, v = .slice (some ⟨b, o, none⟩) ts.length cap ∧ x.data.toList = ts[k].text ∧ b < w.heap.size ∧ w.cell? ⟨b, o + k * 3, none⟩ = some (.int .u8 ts[k].kind) ∧ w.cell? ⟨b, o + k * 3 + 1, none⟩ = some (.string x) ∧ w.cell? ⟨b, o + k * 3 + 2, none⟩ = some (.int .i64 ts[k].at_) := by
  rcases h with ⟨rfl, _⟩ | ⟨b, o, cap, rfl, hb, ht⟩
  · simp at hk
  · obtain ⟨h0, h1, h2⟩ := ht k _ (List.getElem?_eq_getElem hk)
    exact ⟨b, o, cap, ⟨ts[k].text.toArray⟩, rfl, rfl, hb, h0, h1, h2⟩
def bigTok (t : Tok) : Bool := decide (500 < t.text.length)
def greatB (ts : List Tok) : Bool := decide (220 < ts.length) || (ts.take 220).any bigTok
set_option maxRecDepth 100000 in
theorem great_any (v : Value) (ts : List Tok) (w : World) (h : Reads w v ts) (hn : ts.length ≤ 9223372036854775807) :
    Calls Tryd.prog 14 #[v] w fun e w' => e = .returned (.bool (greatB ts)) ∧ w = w' := by
  obtain ⟨ad, cap, rfl⟩ := h.shape
  have HR := Lib.hid h
  clear h
  go_enter Tryd.func14, Tryd.ntmps14
  go_wp2_with fail
  go_loopg [3] ts.length (fun g i wx => ∃ k : Nat, k + g = ts.length ∧ i = .int .i64 k ∧ Hid (k ≤ 220 ∧ (ts.take k).any bigTok = false) ∧ w = wx)
  case atStart => exact ⟨0, by omega, rfl, Lib.hid ⟨Nat.zero_le _, rfl⟩, rfl⟩
  case round =>
    obtain ⟨k, hk, rfl, HK, rfl⟩ := hrel
    cases gk with
    | zero =>
      obtain rfl : k = ts.length := by omega
      have H : Hid (greatB ts = false) := Lib.hid (by
        obtain ⟨h1, h2⟩ := HK.out
        rw [List.take_length] at h2
        unfold greatB
        rw [List.take_of_length_le h1, h2, decide_eq_false (by omega)]; rfl)
      clear hk
      go_wp2_with fail
      go_ret
      exact ⟨by rw [H.out]; rfl, rfl⟩
    | succ g =>
      have hlt : k < ts.length := by omega
      obtain ⟨b, o, cap', x, hv, hx, hb, c0, c1, c2⟩ := HR.out.tok k hlt
      cases hv
      have hxs : x.size = ts[k].text.length := by rw [← hx]; simp
      by_cases h220 : (220 : Int) ≤ k
      · have H : Hid (greatB ts = true) := Lib.hid (by unfold greatB; rw [decide_eq_true (by omega)]; rfl)
        clear hx hxs
        go_wp2_with fail
        go_ret
        exact ⟨by rw [H.out]; rfl, rfl⟩
      · by_cases h500 : (500 : Int) < x.size
        · have H : Hid (greatB ts = true) := Lib.hid (by
            unfold greatB
            have hm : ts[k] ∈ ts.take 220 := by
              rw [List.mem_take_iff_getElem]
              exact ⟨k, by omega, rfl⟩
            rw [Bool.or_eq_true, List.any_eq_true]
            exact .inr ⟨_, hm, decide_eq_true (by omega)⟩)
          clear hx hxs
          go_wp2_with fail
          go_ret
          exact ⟨by rw [H.out]; rfl, rfl⟩
        · have H : Hid (k + 1 ≤ 220 ∧ (ts.take (k + 1)).any bigTok = false) := Lib.hid (by
            refine ⟨by omega, ?_⟩
            rw [List.take_succ_eq_append_getElem hlt, List.any_append, HK.out.2]
            simp only [List.any_cons, List.any_nil, Bool.or_false, Bool.false_or]
            exact decide_eq_false (by omega))
          clear hx hxs
          go_wp2_with fail
          go_roundg g
          case measure => omega
          case rel => exact ⟨k + 1, by omega, by go_num, H, rfl⟩

set_option maxRecDepth 100000 in
set_option maxHeartbeats 1000000 in
theorem alike_any (va vb : Value) (a b : List Tok) (w : World) (hA : Reads w va a) (hB : Reads w vb b) (_hn : a.length ≤ 9223372036854775807) :
    Calls Tryd.prog 20 #[va, vb] w fun e w' => e = .returned (.bool (alikeB a b)) ∧ Draws w w' := by
  obtain ⟨ad, cap, rfl⟩ := hA.shape
  obtain ⟨ad2, cap2, rfl⟩ := hB.shape
  have RA := Lib.hid hA
  have RB := Lib.hid hB
  clear hA hB
  by_cases hl : a.length = b.length
  · have q0 : ((a.length : Int) != b.length) = false := by rw [bne_eq_false_iff_eq]; omega
    have HL := Lib.hid hl
    clear hl
    go_enter Tryd.func20, Tryd.ntmps20
    go_wp2_with fail
    go_loopg [5] a.length (fun g i wx => ∃ k : Nat, k + g = a.length ∧ i = .int .i64 k ∧ Hid ((a.take k).map core = (b.take k).map core) ∧ Hid (Draws w wx))
    case atStart => exact ⟨0, by omega, rfl, Lib.hid rfl, Lib.hid (Draws.refl _)⟩
    case round =>
      obtain ⟨k, hk, rfl, HK, DX⟩ := hrel
      cases gk with
      | zero =>
        obtain rfl : k = a.length := by omega
        have H : Hid (alikeB a b = true) := Lib.hid (by
          have := HK.out
          rw [List.take_length, HL.out, List.take_length] at this
          exact decide_eq_true this)
        clear hk
        go_wp2_with fail
        go_ret
        exact ⟨by rw [H.out]; rfl, DX.out⟩
      | succ g =>
        have hlt : k < a.length := by omega
        have hlt2 : k < b.length := by have := HL.out; omega
        obtain ⟨ba, oa, capa, x, hva, hx, hba, c0, c1, c2⟩ := (RA.out.below (DX.out.below _)).tok k hlt
        obtain ⟨bb, ob, capb, y, hvb, hy, hbb, d0, d1, d2⟩ := (RB.out.below (DX.out.below _)).tok k hlt2
        cases hva
        cases hvb
        cases hq : (a[k].kind != b[k].kind)
        · cases hq2 : (x.toList == y.toList)
          · have H : Hid (alikeB a b = false) := Lib.hid (decide_eq_false (map_differ hlt hlt2 (fun e => by
              have := congrArg Prod.snd e
              rw [beq_eq_false_iff_ne, ByteArray.toList_eq, ByteArray.toList_eq, hx, hy] at hq2
              exact hq2 this)))
            clear hx hy c2 d2
            go_wp2_with fail
            go_quiet (fail)
            go_wp2_with fail
            go_ret
            exact ⟨by rw [H.out]; rfl, DX.out.drewN _⟩
          · have H := Lib.hid (map_more hlt hlt2 HK.out (show core a[k] = core b[k] by
              rw [bne_eq_false_iff_eq] at hq
              rw [beq_iff_eq, ByteArray.toList_eq, ByteArray.toList_eq, hx, hy] at hq2
              unfold core
              rw [hq, hq2]))
            clear hx hy c2 d2
            go_wp2_with fail
            go_quiet (fail)
            go_wp2_with fail
            go_roundg g
            case measure => omega
            case rel => exact ⟨k + 1, by omega, by go_num, H, Lib.hid (DX.out.drewN _)⟩
        · have H : Hid (alikeB a b = false) := Lib.hid (decide_eq_false (map_differ hlt hlt2 (fun e => by
            have := congrArg Prod.fst e
            rw [bne_iff_ne] at hq
            exact hq this)))
          clear hx hy c1 c2 d1 d2
          go_wp2_with fail
          go_quiet (fail)
          go_wp2_with fail
          go_ret
          exact ⟨by rw [H.out]; rfl, DX.out.drewN _⟩
  · have q0 : ((a.length : Int) != b.length) = true := by rw [bne_iff_ne]; omega
    have H : Hid (alikeB a b = false) := Lib.hid (decide_eq_false (map_len hl))
    clear hl
    go_enter Tryd.func20, Tryd.ntmps20
    go_wp2_with fail
    go_ret
    exact ⟨by rw [H.out]; rfl, Draws.refl _⟩
set_option maxRecDepth 100000 in
set_option maxHeartbeats 1000000 in
theorem same_any (va vb : Value) (a b : List Tok) (w : World) (hA : Reads w va a) (hB : Reads w vb b) (_hn : a.length ≤ 9223372036854775807) :
    Calls Tryd.prog 18 #[va, vb] w fun e w' => e = .returned (.bool (sameB a b)) ∧ Draws w w' := by
  obtain ⟨ad, cap, rfl⟩ := hA.shape
  obtain ⟨ad2, cap2, rfl⟩ := hB.shape
  have RA := Lib.hid hA
  have RB := Lib.hid hB
  clear hA hB
  by_cases hl : a.length = b.length
  · have q0 : ((a.length : Int) != b.length) = false := by rw [bne_eq_false_iff_eq]; omega
    have HL := Lib.hid hl
    clear hl
    go_enter Tryd.func18, Tryd.ntmps18
    go_wp2_with fail
    go_loopg [5] a.length (fun g i wx => ∃ k : Nat, k + g = a.length ∧ i = .int .i64 k ∧ Hid ((a.take k).map full = (b.take k).map full) ∧ Hid (Draws w wx))
    case atStart => exact ⟨0, by omega, rfl, Lib.hid rfl, Lib.hid (Draws.refl _)⟩
    case round =>
      obtain ⟨k, hk, rfl, HK, DX⟩ := hrel
      cases gk with
      | zero =>
        obtain rfl : k = a.length := by omega
        have H : Hid (sameB a b = true) := Lib.hid (by
          have := HK.out
          rw [List.take_length, HL.out, List.take_length] at this
          exact decide_eq_true this)
        clear hk
        go_wp2_with fail
        go_ret
        exact ⟨by rw [H.out]; rfl, DX.out⟩
      | succ g =>
        have hlt : k < a.length := by omega
        have hlt2 : k < b.length := by have := HL.out; omega
        obtain ⟨ba, oa, capa, x, hva, hx, hba, c0, c1, c2⟩ := (RA.out.below (DX.out.below _)).tok k hlt
        obtain ⟨bb, ob, capb, y, hvb, hy, hbb, d0, d1, d2⟩ := (RB.out.below (DX.out.below _)).tok k hlt2
        cases hva
        cases hvb
        have hf : ((a[k].kind == b[k].kind) && ((x.toList == y.toList) && (a[k].at_ == b[k].at_))) = decide (full a[k] = full b[k]) := by
          unfold full
          rw [ByteArray.toList_eq, ByteArray.toList_eq, hx, hy, Bool.eq_iff_iff, decide_eq_true_iff]
          simp
        by_cases hq : full a[k] = full b[k]
        · have H := Lib.hid (map_more hlt hlt2 HK.out hq)
          rw [decide_eq_true hq] at hf
          simp only [Bool.and_eq_true] at hf
          obtain ⟨q1, q2, q3⟩ := hf
          clear hx hy hq
          go_wp2_with fail
          go_quiet (fail)
          go_wp2_with fail
          go_roundg g
          case measure => omega
          case rel => exact ⟨k + 1, by omega, by go_num, H, Lib.hid (DX.out.drewN _)⟩
        · have H : Hid (sameB a b = false) := Lib.hid (decide_eq_false (map_differ hlt hlt2 hq))
          rw [decide_eq_false hq] at hf
          clear hx hy hq
          cases q1 : (a[k].kind == b[k].kind)
          · clear hf
            go_wp2_with fail
            go_quiet (fail)
            go_wp2_with fail
            go_ret
            exact ⟨by rw [H.out]; rfl, DX.out.drewN _⟩
          · cases q2 : (x.toList == y.toList)
            · clear hf
              go_wp2_with fail
              go_quiet (fail)
              go_wp2_with fail
              go_ret
              exact ⟨by rw [H.out]; rfl, DX.out.drewN _⟩
            · cases q3 : (a[k].at_ == b[k].at_)
              · clear hf
                go_wp2_with fail
                go_quiet (fail)
                go_wp2_with fail
                go_ret
                exact ⟨by rw [H.out]; rfl, DX.out.drewN _⟩
              · rw [q1, q2, q3] at hf
                cases hf
  · have q0 : ((a.length : Int) != b.length) = true := by rw [bne_iff_ne]; omega
    have H : Hid (sameB a b = false) := Lib.hid (decide_eq_false (map_len hl))
    clear hl
    go_enter Tryd.func18, Tryd.ntmps18
    go_wp2_with fail
    go_ret
    exact ⟨by rw [H.out]; rfl, Draws.refl _⟩
end Go.Proofs.YtighmcooilcmfaaDoor

/-
  Texts of this seat in one: ParserCx; ParserRead; ParserExpr; ParserNum; ParserLens; ParserSrc; ParserArg; ParserAgg; ParserFrom; ParserWin; ParserQuery; ParserParse; ParserHelp.
-/
import Derived.Test.YtdinaedknlkicaaGreatDoorPackA1
import Derived.Test.YtdinaedknlkicaaGreatDoorPackE1
import Derived.Test.YtdinaedknlkicaaGreatDoorPackB1
import Derived.Test.YtdinaedknlkicaaGreatDoorqRefTwin
import Derived.Deep.QuietTactic
import Derived.BigQuiet
import Derived.Outline
import Derived.Deep.RegionWith
import Derived.Laws.ByValue
import Derived.Deep.AppendSrc
import Derived.Laws.ResultCell
import Derived.Laws.Rows
import Derived.Deep.RegionHeld3
import Derived.Test.YtdinaedknlkicaaGreatDoorPackD1
/-
  The reader of package parser in memory (layer 9): its block, the query that it writes to, what its calls leave as it was.
-/
namespace Go.Proofs.YtdinaedknlkicaaGreatDoor.ParserW
open Nodes Exprs ExprW Prs
open Go.ChangeShapes Go.WideShapes Go.ChangeAt Go.RowKit

/-- What the calls of package parser read. -/
def ParFix (w : World) : Prop := ExprFix w ∧ NameFix w
theorem ParFix.below {w w' : World} (h : ParFix w) (hb : Below w.heap.size w w') : ParFix w' := ⟨h.1.below hb, h.2.below hb⟩
abbrev rdBox (tv : Value) (a : Nat) : Obj := .cells #[tv, .int .i64 (a : Int)] 61
def RdAt (w : World) (b : Nat) (tv : Value) (a : Nat) : Prop := w.heap[b]? = some (rdBox tv a)
theorem RdAt.lt {w : World} {b : Nat} {tv : Value} {a : Nat} (h : RdAt w b tv a) : b < w.heap.size := (Array.getElem?_eq_some_iff.1 h).1
theorem RdAt.cells {w : World} {b : Nat} {tv : Value} {a : Nat} (h : RdAt w b tv a) : w.cell? ⟨b, 0, none⟩ = some tv ∧ w.cell? ⟨b, 1, none⟩ = some (.int .i64 (a : Int)) := by
  unfold RdAt at h
  unfold World.cell?
  simp only [h]
  exact ⟨rfl, rfl⟩
theorem RdAt.frz {w : World} {b : Nat} {tv : Value} {a : Nat} (h : RdAt w b tv a) (j : Nat) : w.frozen? ⟨b, j, none⟩ = false := by
  unfold RdAt at h
  simp [World.frozen?, h]
theorem RdAt.set {w : World} {b : Nat} {tv : Value} {a : Nat} (h : RdAt w b tv a) (c : Nat) : RdAt (w.setCell ⟨b, 1, none⟩ (.int .i64 (c : Int))) b tv c := by
  unfold RdAt at h ⊢
  show (w.heap.modify b _)[b]? = _
  rw [Array.getElem?_modify, if_pos rfl, h]
  rfl
theorem RdAt.far {w : World} {b : Nat} {tv : Value} {a : Nat} (h : RdAt w b tv a) {b2 : Nat} (hb : b2 ≠ b) (j : Nat) (v : Value) : RdAt (w.setCell ⟨b2, j, none⟩ v) b tv a := by
  unfold RdAt at h ⊢
  show (w.heap.modify b2 _)[b]? = _
  rw [Array.getElem?_modify, if_neg hb]
  exact h
theorem RdAt.below {w w' : World} {b : Nat} {tv : Value} {a : Nat} (h : RdAt w b tv a) (hb : Below w.heap.size w w') : RdAt w' b tv a := (hb.block _ h.lt).trans h
theorem rd_at (w : World) (tv : Value) (a : Nat) : RdAt (w.alloc (rdBox tv a)) w.heap.size tv a := heap_alloc_new _ _

/-- Below B the world is as it was, but for two blocks. -/
structure Kept (B rb qb : Nat) (w w' : World) : Prop where
  os : w'.os = w.os
  tape : w'.tape = w.tape
  output : w'.output = w.output
  size : w.heap.size ≤ w'.heap.size
  block : ∀ k, k < B → k ≠ rb → k ≠ qb → w'.heap[k]? = w.heap[k]?
theorem Kept.refl (B rb qb : Nat) (w : World) : Kept B rb qb w w := ⟨rfl, rfl, rfl, Nat.le_refl _, fun _ _ _ _ => rfl⟩
theorem Kept.trans {B rb qb : Nat} {a b c : World} (h : Kept B rb qb a b) (k : Kept B rb qb b c) : Kept B rb qb a c :=
  ⟨k.os.trans h.os, k.tape.trans h.tape, k.output.trans h.output, Nat.le_trans h.size k.size, fun i hi h1 h2 => (k.block i hi h1 h2).trans (h.block i hi h1 h2)⟩
theorem Kept.mono {B B' rb qb : Nat} {w w' : World} (h : Kept B rb qb w w') (hB : B' ≤ B) : Kept B' rb qb w w' := ⟨h.os, h.tape, h.output, h.size, fun k hk => h.block k (Nat.lt_of_lt_of_le hk hB)⟩
theorem Kept.of {B rb qb : Nat} {w w' : World} (h : Below B w w') : Kept B rb qb w w' := ⟨h.os, h.tape, h.output, h.size, fun k hk _ _ => h.block k hk⟩
theorem Kept.two {B rb qb : Nat} {w w' : World} (h : Kept B rb rb w w') : Kept B rb qb w w' := ⟨h.os, h.tape, h.output, h.size, fun k hk h1 _ => h.block k hk h1 h1⟩
theorem Kept.below {B B' rb qb : Nat} {w0 w w' : World} (h : Kept B' rb qb w w') (h0 : Below B w0 w) (hB : B ≤ B') (hr : B ≤ rb) (hq : B ≤ qb) : Below B w0 w' :=
  h0.trans ⟨h.os, h.tape, h.output, h.size, fun k hk => h.block k (by omega) (by omega) (by omega)⟩
theorem Kept.step {rb qb : Nat} {w w1 w2 : World} {B : Nat} (h : Kept B rb qb w w1) (h2 : Kept w1.heap.size rb qb w1 w2) (hB : B ≤ w.heap.size) : Kept B rb qb w w2 := h.trans (h2.mono (Nat.le_trans hB h.size))
theorem Kept.steps {rb qb : Nat} {w w1 w2 : World} (h : Kept w.heap.size rb qb w w1) (h2 : Kept w1.heap.size rb qb w1 w2) : Kept w.heap.size rb qb w w2 := h.step h2 (Nat.le_refl _)
theorem Kept.alloc {B rb qb : Nat} {a w : World} (h : Kept B rb qb a w) (hB : B ≤ w.heap.size) (o : Obj) : Kept B rb qb a (w.alloc o) := h.trans (Kept.of ((Below.refl B w).alloc hB o))
theorem Kept.drew {B rb qb : Nat} {a w : World} (h : Kept B rb qb a w) : Kept B rb qb a w.drew := ⟨h.os, h.tape, h.output, h.size, h.block⟩
theorem Kept.setR {B rb qb : Nat} {a w : World} (h : Kept B rb qb a w) (j : Nat) (v : Value) : Kept B rb qb a (w.setCell ⟨rb, j, none⟩ v) :=
  h.trans ⟨rfl, rfl, rfl, by simp [World.setCell], fun k _ h1 _ => Below.heap_setCell _ _ _ _ h1⟩
theorem Kept.setQ {B rb qb : Nat} {a w : World} (h : Kept B rb qb a w) (j : Nat) (v : Value) : Kept B rb qb a (w.setCell ⟨qb, j, none⟩ v) :=
  h.trans ⟨rfl, rfl, rfl, by simp [World.setCell], fun k _ _ h2 => Below.heap_setCell _ _ _ _ h2⟩
theorem Kept.grown {B rb qb : Nat} {a w w' : World} {row : Option Nat} (h : Kept B rb qb a w) (hg : w.grownBy w' row) (hB : B ≤ w.heap.size) (hr : ∀ k, row = some k → B ≤ k) : Kept B rb qb a w' :=
  h.trans (Kept.of ((Below.refl B w).grown hg hB hr))

/-- What stays: where the tokens are, the blocks of the reader and of the query. -/
structure Still (w0 : World) (tv : Value) (ts : List Tok) (rb : Nat) : Prop where
  fix : ParFix w0
  reads : Go.Proofs.YtdinaedknlkicaaGreatDoor.Reads w0 tv ts
  ok : TsOk ts
  short : ∀ t ∈ ts, t.text.length ≤ 281474976710656
  rb : w0.heap.size ≤ rb
/-- The reader at a token. -/
structure Rs (w0 : World) (tv : Value) (ts : List Tok) (rb : Nat) (W : World) (a : Nat) : Prop where
  base : Below w0.heap.size w0 W
  rd : RdAt W rb tv a
  le : a ≤ ts.length
theorem Rs.below {w0 : World} {tv : Value} {ts : List Tok} {rb : Nat} {W W' : World} {a : Nat} (h : Rs w0 tv ts rb W a) (hb : Below W.heap.size W W') : Rs w0 tv ts rb W' a :=
  ⟨h.base.trans (hb.mono h.base.size), h.rd.below hb, h.le⟩
theorem Rs.reads {w0 : World} {tv : Value} {ts : List Tok} {rb : Nat} {W : World} {a : Nat} (h : Rs w0 tv ts rb W a) (s : Still w0 tv ts rb) : Go.Proofs.YtdinaedknlkicaaGreatDoor.Reads W tv ts := s.reads.below h.base
theorem Rs.fix {w0 : World} {tv : Value} {ts : List Tok} {rb : Nat} {W : World} {a : Nat} (h : Rs w0 tv ts rb W a) (s : Still w0 tv ts rb) : ParFix W := s.fix.below h.base
theorem Rs.set {w0 : World} {tv : Value} {ts : List Tok} {rb : Nat} {W : World} {a : Nat} (h : Rs w0 tv ts rb W a) (s : Still w0 tv ts rb) {c : Nat} (hc : c ≤ ts.length) : Rs w0 tv ts rb (W.setCell ⟨rb, 1, none⟩ (.int .i64 (c : Int))) c :=
  ⟨h.base.setCell s.rb _, h.rd.set c, hc⟩
/-- The query so far: its slices are rows of the call's own. -/
structure QS (C : Nat) (W : World) (qb : Nat) (s : Sl) (q : Qy) : Prop where
  at_ : QyAt W qb s q
  arg : W.ownsRow C 43 5 s.arg q.arg.length (rowN q.arg)
  src : W.ownsRow C 3 1 s.src q.src.length (rowI q.src)
  cond : W.ownsRow C 43 5 s.cond q.cond.length (rowN q.cond)
  none : q.src = [] → s.src = .slice .none 0 0
theorem own_kept {C rb qb : Nat} {w w' : World} {e : TypeId} {size n : Nat} {v : Value} {xs : List Value} (h : w.ownsRow C e size v n xs) (hk : Kept w.heap.size rb qb w w') (hr : rb < C) (hq : qb < C) : w'.ownsRow C e size v n xs := by
  obtain ⟨h1, h2⟩ := h
  refine ⟨h1, ?_⟩
  rcases h2 with h2 | ⟨g, cap, cur, hv, hg, hh, r⟩
  · exact .inl h2
  · exact .inr ⟨g, cap, cur, hv, hg, (hk.block g (Array.getElem?_eq_some_iff.1 hh).1 (by omega) (by omega)).trans hh, r⟩
theorem QS.kept {C rb qb : Nat} {W W' : World} {s : Sl} {q q' : Qy} (h : QS C W qb s q) (hk : Kept W.heap.size rb qb W W') (hr : rb < C) (hq : qb < C) (ha : QyAt W' qb s q') (h1 : q'.arg = q.arg) (h2 : q'.src = q.src) (h3 : q'.cond = q.cond) : QS C W' qb s q' := by
  refine ⟨ha, ?_, ?_, ?_, ?_⟩
  · rw [h1]; exact own_kept h.arg hk hr hq
  · rw [h2]; exact own_kept h.src hk hr hq
  · rw [h3]; exact own_kept h.cond hk hr hq
  · rw [h2]; exact h.none
theorem QS.reads {C : Nat} {W : World} {qb : Nat} {s : Sl} {q : Qy} (h : QS C W qb s q) : ReadsQ W s q := ⟨own_readsN h.arg, own_readsI h.src, own_readsN h.cond⟩
/-- The reader and the query. -/
structure Ds (w0 : World) (tv : Value) (ts : List Tok) (rb qb C : Nat) (W : World) (a : Nat) (s : Sl) (q : Qy) : Prop where
  rs : Rs w0 tv ts rb W a
  qs : QS C W qb s q
  rq : rb < qb
  qC : qb < C
  CW : C ≤ W.heap.size
/-- .. behind a call that leaves the query's block as it was. -/
theorem Ds.on {w0 : World} {tv : Value} {ts : List Tok} {rb qb C : Nat} {W W' : World} {a a' : Nat} {s : Sl} {q : Qy} (h : Ds w0 tv ts rb qb C W a s q) (hr : Rs w0 tv ts rb W' a') (hk : Kept W.heap.size rb rb W W') : Ds w0 tv ts rb qb C W' a' s q :=
  ⟨hr, h.qs.kept hk.two (by have := h.rq; have := h.qC; omega) h.qC ((hk.block qb h.qs.at_.lt (by have := h.rq; omega) (by have := h.rq; omega)).trans h.qs.at_) rfl rfl rfl, h.rq, h.qC, Nat.le_trans h.CW hk.size⟩
theorem Ds.below {w0 : World} {tv : Value} {ts : List Tok} {rb qb C : Nat} {W W' : World} {a : Nat} {s : Sl} {q : Qy} (h : Ds w0 tv ts rb qb C W a s q) (hb : Below W.heap.size W W') : Ds w0 tv ts rb qb C W' a s q := h.on (h.rs.below hb) (Kept.of hb)
/-- .. behind a store to a field of the query that is no slice. -/
theorem Ds.put {w0 : World} {tv : Value} {ts : List Tok} {rb qb C : Nat} {W : World} {a : Nat} {s : Sl} {q q' : Qy} (h : Ds w0 tv ts rb qb C W a s q) (st : Still w0 tv ts rb) (j : Nat) (v : Value) (ha : QyAt (W.setCell ⟨qb, j, none⟩ v) qb s q') (h1 : q'.arg = q.arg) (h2 : q'.src = q.src) (h3 : q'.cond = q.cond) : Ds w0 tv ts rb qb C (W.setCell ⟨qb, j, none⟩ v) a s q' :=
  ⟨⟨h.rs.base.setCell (show w0.heap.size ≤ qb by have := st.rb; have := h.rq; omega) _, h.rs.rd.far (by have := h.rq; omega) _ _, h.rs.le⟩, h.qs.kept ((Kept.refl _ rb qb W).setQ j v) (by have := h.rq; have := h.qC; omega) h.qC ha h1 h2 h3, h.rq, h.qC, by rw [set_size8]; exact h.CW⟩
/-- What a clause ends with. -/
def ClEnds (w0 : World) (tv : Value) (ts : List Tok) (rb qb C : Nat) (W : World) (o : Out) (e : Ending) (W' : World) : Prop :=
  e = .returned (.int .i64 o.e) ∧ ∃ a s, ts.drop a = o.l ∧ Ds w0 tv ts rb qb C W' a s o.q ∧ Kept W.heap.size rb qb W W'
/-- What a call of the reader alone ends with. -/
def RsEnds (w0 : World) (tv : Value) (ts : List Tok) (rb : Nat) (W : World) (l : List Tok) (W' : World) : Prop :=
  ∃ a, ts.drop a = l ∧ Rs w0 tv ts rb W' a ∧ Kept W.heap.size rb rb W W'
theorem hd_txt (ts : List Tok) (a : Nat) : hd (ts.drop a) = txt ts a := by
  rcases Nat.lt_or_ge a ts.length with h | h
  · rw [List.drop_eq_getElem_cons h, txt_at h]; rfl
  · rw [List.drop_eq_nil_of_le h, txt_end h]; rfl
theorem tail_drop (ts : List Tok) (a : Nat) : (ts.drop a).tail = ts.drop (a + 1) := List.tail_drop
theorem hd_lt {ts : List Tok} {a : Nat} {x : List UInt8} (h : hd (ts.drop a) = x) (hx : x ≠ []) : a < ts.length := by
  rcases Nat.lt_or_ge a ts.length with h1 | h1
  · exact h1
  · rw [List.drop_eq_nil_of_le h1] at h; exact absurd h.symm hx
end Go.Proofs.YtdinaedknlkicaaGreatDoor.ParserW
/-
  Contracts of package parser at the landed code (layer 9): ended, text, accept, expect.
-/
namespace Go.Proofs.YtdinaedknlkicaaGreatDoor.ParserW
open Nodes Exprs ExprW Prs
open Go.ChangeShapes Go.WideShapes Go.ChangeAt Go.RowKit

abbrev ptr (b : Nat) : Value := .pointer (some ⟨b, 0, none⟩)
set_option maxRecDepth 100000 in
theorem ended_any (w0 : World) (tv : Value) (ts : List Tok) (rb : Nat) (S : Still w0 tv ts rb) (W : World) (a : Nat) (h : Rs w0 tv ts rb W a) :
    Calls Tryz.prog 25 #[ptr rb] W fun e W' => e = .returned (.bool (decide (a = ts.length))) ∧ Draws W W' := by
  obtain ⟨c0, c1⟩ := h.rd.cells
  obtain ⟨ad, cap, rfl⟩ := (h.reads S).shape
  by_cases hq : a = ts.length
  · have q0 : ((a : Int) == (ts.length : Int)) = true := by rw [beq_iff_eq]; omega
    have H : Hid (decide (a = ts.length) = true) := Lib.hid (decide_eq_true hq)
    clear h S hq
    go_enter Tryz.func25, Tryz.ntmps25
    go_wp2_with fail
    go_quiet (fail)
    go_wp2_with fail
    go_ret
    exact ⟨by rw [H.out]; rfl, (Draws.refl _).drewN _⟩
  · have q0 : ((a : Int) == (ts.length : Int)) = false := by rw [beq_eq_false_iff_ne]; omega
    have H : Hid (decide (a = ts.length) = false) := Lib.hid (decide_eq_false hq)
    clear h S hq
    go_enter Tryz.func25, Tryz.ntmps25
    go_wp2_with fail
    go_quiet (fail)
    go_wp2_with fail
    go_ret
    exact ⟨by rw [H.out]; rfl, (Draws.refl _).drewN _⟩
theorem Rs.draws {w0 : World} {tv : Value} {ts : List Tok} {rb : Nat} {W W' : World} {a : Nat} (h : Rs w0 tv ts rb W a) (hd : Draws W W') : Rs w0 tv ts rb W' a := h.below (hd.below _)
set_option maxRecDepth 100000 in
theorem text_any (w0 : World) (tv : Value) (ts : List Tok) (rb : Nat) (S : Still w0 tv ts rb) (W : World) (a : Nat) (h : Rs w0 tv ts rb W a) :
    Calls Tryz.prog 78 #[ptr rb] W fun e W' => e = .returned (.string ⟨(hd (ts.drop a)).toArray⟩) ∧ Draws W W' := by
  have E := Lib.hid (fun W h => ended_any w0 tv ts rb S W a h)
  have HR := Lib.hid h
  have HS := Lib.hid S
  by_cases hq : a = ts.length
  · have H : Hid (hd (ts.drop a) = []) := Lib.hid (by rw [hd_txt, txt_end (by omega)])
    rw [show decide (a = ts.length) = true from decide_eq_true hq] at E
    clear h S hq
    go_enter Tryz.func78, Tryz.ntmps78
    go_wp2_with fail
    refine (E.out _ HR.out).mono ?_
    rintro e w1 ⟨rfl, hdr⟩
    go_wp2_with fail
    go_ret
    exact ⟨by rw [H.out]; rfl, hdr⟩
  · have hlt : a < ts.length := by have := h.le; omega
    rw [show decide (a = ts.length) = false from decide_eq_false hq] at E
    have L := Lib.hid hlt
    clear h S hq hlt
    go_enter Tryz.func78, Tryz.ntmps78
    go_wp2_with fail
    refine (E.out _ HR.out).mono ?_
    rintro e w1 ⟨rfl, hdr⟩
    have R1 := HR.out.draws hdr
    obtain ⟨c0, c1⟩ := R1.rd.cells
    obtain ⟨b, o, cap, x, hv, hx, hb, d0, d1, d2⟩ := (R1.reads HS.out).tok a L.out
    subst hv
    have H : Hid ((⟨(hd (ts.drop a)).toArray⟩ : ByteArray) = x) := Lib.hid (by rw [hd_txt, txt_at L.out, ← hx])
    have HD := Lib.hid hdr
    have l1 : (a : Int) < (ts.length : Int) := by have := L.out; omega
    clear hdr R1 hx d0 d2
    go_wp2_with fail
    go_quiet (fail)
    go_wp2_with fail
    go_ret
    exact ⟨by rw [H.out]; rfl, HD.out.drewN _⟩
/-! ### accept -/
theorem Kept.draws {B rb qb : Nat} {w w' : World} (h : Draws w w') : Kept B rb qb w w' := Kept.of (h.below B)
theorem ts_short {ts : List Tok} {w0 : World} {tv : Value} {rb : Nat} (S : Still w0 tv ts rb) : ts.length ≤ 200 := S.ok.1
set_option maxRecDepth 100000 in
theorem accept_yes (w0 : World) (tv : Value) (ts : List Tok) (rb : Nat) (S : Still w0 tv ts rb) (x : ByteArray) (hx : x.data.toList ≠ []) (W : World) (a : Nat) (h : Rs w0 tv ts rb W a) (hy : hd (ts.drop a) = x.data.toList) :
    Calls Tryz.prog 74 #[ptr rb, .string x] W fun e W' => e = .returned (.bool true) ∧ Rs w0 tv ts rb W' (a + 1) ∧ Kept W.heap.size rb rb W W' := by
  have T := Lib.hid (text_any w0 tv ts rb S W a h)
  have hlt := hd_lt hy hx
  obtain ⟨y, hyy⟩ : ∃ y, hd (ts.drop a) = y := ⟨_, rfl⟩
  rw [hyy] at T hy
  have t1 : (y == x.toList) = true := by rw [beq_iff_eq, ByteArray.toList_eq]; exact hy
  have t2 : (y != x.toList) = false := by rw [bne_eq_false_iff_eq, ByteArray.toList_eq]; exact hy
  have HR := Lib.hid h
  have HS := Lib.hid S
  have hle := ts_short S
  have b1 : (a : Int) ≤ 200 := by omega
  have L := Lib.hid hlt
  clear h S hy hyy hx hlt hle
  go_enter Tryz.func74, Tryz.ntmps74
  go_wp2_with fail
  refine T.out.mono ?_
  rintro e w1 ⟨rfl, hdr⟩
  have R1 := Lib.hid (HR.out.draws hdr)
  have K1 : Hid (Kept W.heap.size rb rb W w1) := Lib.hid (Kept.draws hdr)
  obtain ⟨c0, c1⟩ := R1.out.rd.cells
  have f1 := R1.out.rd.frz 1
  clear hdr c0
  go_wp2_with fail
  go_ret
  refine ⟨rfl, ?_, ?_⟩
  · have := R1.out.set HS.out (c := a + 1) (by have := L.out; omega)
    rwa [show ((a + 1 : Nat) : Int) = (a : Int) + 1 by omega] at this
  · exact K1.out.setR _ _
set_option maxRecDepth 100000 in
theorem accept_no (w0 : World) (tv : Value) (ts : List Tok) (rb : Nat) (S : Still w0 tv ts rb) (x : ByteArray) (W : World) (a : Nat) (h : Rs w0 tv ts rb W a) (hy : hd (ts.drop a) ≠ x.data.toList) :
    Calls Tryz.prog 74 #[ptr rb, .string x] W fun e W' => e = .returned (.bool false) ∧ Rs w0 tv ts rb W' a ∧ Kept W.heap.size rb rb W W' := by
  have T := Lib.hid (text_any w0 tv ts rb S W a h)
  obtain ⟨y, hyy⟩ : ∃ y, hd (ts.drop a) = y := ⟨_, rfl⟩
  rw [hyy] at T hy
  have t1 : (y == x.toList) = false := by rw [beq_eq_false_iff_ne, ByteArray.toList_eq]; exact hy
  have t2 : (y != x.toList) = true := by rw [bne_iff_ne, ByteArray.toList_eq]; exact hy
  have HR := Lib.hid h
  clear h S hy hyy
  go_enter Tryz.func74, Tryz.ntmps74
  go_wp2_with fail
  refine T.out.mono ?_
  rintro e w1 ⟨rfl, hdr⟩
  have R1 := Lib.hid (HR.out.draws hdr)
  have K1 : Hid (Kept W.heap.size rb rb W w1) := Lib.hid (Kept.draws hdr)
  clear hdr
  go_wp2_with fail
  go_ret
  exact ⟨rfl, R1.out, K1.out⟩

/-! ### expect -/
/-- Texts in a block. -/
def StrsAt (W : World) (b : Nat) (xs : List (List UInt8)) : Prop := b < W.heap.size ∧ ∀ i x, xs[i]? = some x → W.cell? ⟨b, i, none⟩ = some (.string ⟨x.toArray⟩)
theorem StrsAt.kept {W W' : World} {b rb : Nat} {xs : List (List UInt8)} (h : StrsAt W b xs) (hk : Kept W.heap.size rb rb W W') (hb : b ≠ rb) : StrsAt W' b xs :=
  ⟨Nat.lt_of_lt_of_le h.1 hk.size, fun i x hx => (World.cell?_of_block (w := W) (a := ⟨b, i, none⟩) (hk.block b h.1 hb hb)).trans (h.2 i x hx)⟩
theorem exp_step {xs : List (List UInt8)} {l : List Tok} {k : Nat} (hk : k < xs.length) (h : hd l = xs[k]) : expP (xs.drop k) l = expP (xs.drop (k + 1)) l.tail := by
  rw [List.drop_eq_getElem_cons hk]
  show (if hd l = xs[k] then _ else _) = _
  rw [if_pos h]
theorem exp_stop {xs : List (List UInt8)} {l : List Tok} {k : Nat} (hk : k < xs.length) (h : hd l ≠ xs[k]) : expP (xs.drop k) l = (12, l) := by
  rw [List.drop_eq_getElem_cons hk]
  show (if hd l = xs[k] then _ else _) = _
  rw [if_neg h]
set_option maxRecDepth 100000 in
set_option maxHeartbeats 1000000 in
theorem expect_any (w0 : World) (tv : Value) (ts : List Tok) (rb : Nat) (S : Still w0 tv ts rb) (xs : List (List UInt8)) (hx : ∀ x ∈ xs, x ≠ []) (n : Nat) (hn : xs.length = n) (hn1 : n ≤ 3) (W : World) (a b : Nat) (h : Rs w0 tv ts rb W a) (hs : StrsAt W b xs) (hb : b ≠ rb) :
    Calls Tryz.prog 73 #[ptr rb, .slice (some ⟨b, 0, none⟩) n n] W fun e W' => e = .returned (.int .i64 (expP xs (ts.drop a)).1) ∧ RsEnds w0 tv ts rb W (expP xs (ts.drop a)).2 W' := by
  obtain ⟨r, hr⟩ : ∃ r, expP xs (ts.drop a) = r := ⟨_, rfl⟩
  rw [hr]
  have HR := Lib.hid h
  have HS := Lib.hid S
  have HX := Lib.hid hx
  have HN := Lib.hid hn
  have HT := Lib.hid hs
  have HB := Lib.hid hb
  have E0 : Hid (expP (xs.drop 0) (ts.drop a) = r) := Lib.hid hr
  clear h S hx hs hr hb hn
  go_enter Tryz.func73, Tryz.ntmps73
  go_wp2_with fail
  go_loopg [9] n (fun g i wx => ∃ k c : Nat, k + g = n ∧ i = .int .i64 k ∧ Hid (expP (xs.drop k) (ts.drop c) = r) ∧ Hid (Rs w0 tv ts rb wx c) ∧ Hid (Kept W.heap.size rb rb W wx) ∧ Hid (StrsAt wx b xs))
  case atStart => exact ⟨0, a, by omega, rfl, E0, HR, Lib.hid (Kept.refl _ _ _ _), HT⟩
  case round =>
    obtain ⟨k, c, hk, rfl, EX, RX, KX, TX⟩ := hrel
    cases gk with
    | zero =>
      obtain rfl : k = n := by omega
      have H : Hid ((0, ts.drop c) = r) := Lib.hid (by
        have := EX.out
        rw [List.drop_of_length_le (by rw [HN.out]; exact Nat.le_refl _)] at this
        exact this)
      clear hk
      go_wp2_with fail
      go_ret
      refine ⟨by rw [← H.out]; rfl, c, by rw [← H.out], RX.out, KX.out⟩
    | succ g =>
      have hlt : k < xs.length := by have := HN.out; omega
      have hlt2 : (k : Int) < n := by omega
      have cx := TX.out.2 k _ (List.getElem?_eq_getElem hlt)
      obtain ⟨x, hxx⟩ : ∃ x, xs[k] = x := ⟨_, rfl⟩
      rw [hxx] at cx
      by_cases hq : hd (ts.drop c) = x
      · have A := Lib.hid (accept_yes w0 tv ts rb HS.out ⟨x.toArray⟩ (by
          have := HX.out _ (List.getElem_mem hlt)
          rw [hxx] at this
          simpa using this) _ c RX.out (by simpa using hq))
        have E2 : Hid (expP (xs.drop (k + 1)) (ts.drop (c + 1)) = r) := Lib.hid (by
          rw [← EX.out, exp_step hlt (by rw [hxx]; exact hq), tail_drop])
        clear hq hxx
        go_wp2_with fail
        refine A.out.mono ?_
        rintro e w1 ⟨rfl, hr1, hk1⟩
        have R1 := Lib.hid hr1
        have K1 := Lib.hid (KX.out.steps hk1)
        have T1 := Lib.hid (TX.out.kept hk1 HB.out)
        clear hr1 hk1
        go_wp2_with fail
        go_roundg g
        case measure => omega
        case rel => exact ⟨k + 1, c + 1, by omega, by go_num, E2, R1, K1, T1⟩
      · have A := Lib.hid (accept_no w0 tv ts rb HS.out ⟨x.toArray⟩ _ c RX.out (by simpa using hq))
        have H : Hid ((12, ts.drop c) = r) := Lib.hid (by
          rw [← EX.out, exp_stop hlt (by rw [hxx]; exact hq)])
        clear hq hxx
        go_wp2_with fail
        refine A.out.mono ?_
        rintro e w1 ⟨rfl, hr1, hk1⟩
        have R1 := Lib.hid hr1
        have K1 := Lib.hid (KX.out.steps hk1)
        clear hr1 hk1
        go_wp2_with fail
        go_ret
        refine ⟨by rw [← H.out]; rfl, c, by rw [← H.out], R1.out, K1.out⟩
end Go.Proofs.YtdinaedknlkicaaGreatDoor.ParserW
/-
  Contracts of package parser at the landed code (layer 9): expression.
-/
namespace Go.Proofs.YtdinaedknlkicaaGreatDoor.ParserW
open Nodes Exprs ExprW Prs
open Go.ChangeShapes Go.WideShapes Go.ChangeAt Go.RowKit

theorem expr_at {ts : List Tok} (h : TsOk ts) {a : Nat} (ha : a ≤ ts.length) : ∃ c : Nat, c ≤ ts.length ∧ parseV ts (a : Int) = ((exprP (ts.drop a)).2.1, (c : Int), (exprP (ts.drop a)).1) ∧ ts.drop c = (exprP (ts.drop a)).2.2 := by
  have hv : askedV ts (a : Int) = 0 := asked_ok.2 ⟨h.1, h.2, by omega, by omega⟩
  have hl : (syms (ts.drop a)).length = ts.length - a := by unfold syms; rw [List.length_map, List.length_drop]
  have hd : (ts.drop a).length = ts.length - a := List.length_drop
  unfold parseV
  rw [if_pos hv, Int.toNat_natCast]
  unfold exprP
  cases hp : parse (syms (ts.drop a)) with
  | ok x rest =>
    have h1 := go_less hp
    rw [hl] at h1
    refine ⟨ts.length - rest.length, by omega, ?_, ?_⟩
    · show (x, ((ts.length : Int) - rest.length), (0 : Int)) = (x, ((ts.length - rest.length : Nat) : Int), 0)
      rw [show ((ts.length : Int) - rest.length) = ((ts.length - rest.length : Nat) : Int) by omega]
    · show ts.drop (ts.length - rest.length) = (ts.drop a).drop ((ts.drop a).length - rest.length)
      rw [List.drop_drop, hd]; congr 1; omega
  | err c rest =>
    have h1 := (parse_err hp).2.length_le
    rw [hl] at h1
    refine ⟨ts.length - rest.length, by omega, ?_, ?_⟩
    · show (([] : List Nd), ((ts.length : Int) - rest.length), c) = ([], ((ts.length - rest.length : Nat) : Int), c)
      rw [show ((ts.length : Int) - rest.length) = ((ts.length - rest.length : Nat) : Int) by omega]
    · show ts.drop (ts.length - rest.length) = (ts.drop a).drop ((ts.drop a).length - rest.length)
      rw [List.drop_drop, hd]; congr 1; omega
set_option maxRecDepth 100000 in
set_option maxHeartbeats 1000000 in
theorem expression_any (w0 : World) (tv : Value) (ts : List Tok) (rb : Nat) (S : Still w0 tv ts rb) (W : World) (a : Nat) (h : Rs w0 tv ts rb W a) (qb j : Nat) (hq : qb < W.heap.size) (hne : qb ≠ rb) (cs : Array Value) (T : TypeId) (hcs : W.heap[qb]? = some (.cells cs T)) (hj : j < cs.size) :
    Calls Tryz.prog 77 #[ptr rb, .pointer (some ⟨qb, j, none⟩)] W fun e W' => e = .returned (.int .i64 (exprP (ts.drop a)).1) ∧
      ∃ w1 v c, Below W.heap.size W w1 ∧ w1.ownsRow W.heap.size 43 5 v (exprP (ts.drop a)).2.1.length (rowN (exprP (ts.drop a)).2.1) ∧ c ≤ ts.length ∧ ts.drop c = (exprP (ts.drop a)).2.2 ∧ (w1.setCell ⟨qb, j, none⟩ v).setCell ⟨rb, 1, none⟩ (.int .i64 ((c : Nat) : Int)) = W' := by
  obtain ⟨c, hc1, hp, hc2⟩ := expr_at S.ok h.le
  have hshort := ts_short S
  have P := Lib.hid (fun W' (hR : Rs w0 tv ts rb W' a) => exprsParse_any tv ts (a : Int) W' (hR.fix S).1 (hR.reads S) (by omega) S.short)
  obtain ⟨e0, he⟩ : ∃ e0, (exprP (ts.drop a)).1 = e0 := ⟨_, rfl⟩
  obtain ⟨x, hx⟩ : ∃ x, (exprP (ts.drop a)).2.1 = x := ⟨_, rfl⟩
  rw [hp, he, hx] at P
  rw [he, hx]
  obtain ⟨c0, c1⟩ := h.rd.cells
  have HR := Lib.hid h
  have HC := Lib.hid hcs
  have HJ := Lib.hid hj
  have HQ := Lib.hid hq
  have HE := Lib.hid hne
  have HD := Lib.hid (And.intro hc1 hc2)
  obtain ⟨ad, cap, rfl⟩ := (h.reads S).shape
  clear h S hp he hx hcs hj hc1 hc2 hshort hq hne
  go_enter Tryz.func77, Tryz.ntmps77
  go_wp2_with fail
  go_region_with (go_at_call 21; refine (P.out _ (by first | exact HR.out | exact HR.out.draws ((Draws.refl _).drew))).mono ?_; rintro e w1 ⟨v, rfl, ho, hb⟩; obtain ⟨ad2, cap2, rfl⟩ := own_shape ho; have B1 : Hid (Below W.heap.size W w1) := Lib.hid (by first | exact hb | exact (Below.drew (Below.refl _ _)).trans hb); have O1 : Hid (w1.ownsRow W.heap.size 43 5 (.slice ad2 x.length cap2) x.length (rowN x)) := Lib.hid ho; have hR1 := HR.out.rd.below B1.out; have hq1 : w1.heap[qb]? = some (.cells cs T) := (B1.out.block qb HQ.out).trans HC.out; have f2 : w1.frozen? ⟨qb, j, none⟩ = false := (by simp [World.frozen?, hq1]); have k2 : w1.cell? ⟨qb, j, none⟩ = some (cs[j]'(HJ.out)) := (by rw [cell_of hq1, Array.getElem?_eq_getElem HJ.out]); have f3 : (w1.setCell ⟨qb, j, none⟩ (.slice ad2 x.length cap2)).frozen? ⟨rb, 1, none⟩ = false := (hR1.far HE.out j _).frz 1; have k3 := (hR1.far HE.out j (.slice ad2 x.length cap2)).cells.2; clear hb ho hR1 hq1)
  all_goals
    go_wp2_with fail
    go_ret
    exact ⟨rfl, w1, _, c, B1.out, O1.out, HD.out.1, HD.out.2, rfl⟩
end Go.Proofs.YtdinaedknlkicaaGreatDoor.ParserW
/-
  Contracts of package parser at the landed code (layer 9): the two closures of lengths, number.
-/
namespace Go.Proofs.YtdinaedknlkicaaGreatDoor.ParserW
open Nodes Exprs ExprW Prs
open Go.ChangeShapes Go.WideShapes Go.ChangeAt Go.RowKit

/-! ### The closures -/
theorem iWin9 : (Tryz.prog.info? 26).map (·.size) = some 3 := by kernel_rfl
theorem ret_win {fn : Func} {p : Tmp} (h : fn.results = #[.cell p 26]) (tmps : Array Value) (w : World) (b : Nat) (x : Wn) (hp : tmps.getD p undef = .pointer (some ⟨b, 0, none⟩)) (hq : WinAt w b x) :
    (results fn tmps).run Tryz.prog w = .ok (winVal x) w := by
  exact results_cell_row h tmps w b _ _ _ _ hp hq Tryz.underlying26 rfl iWin9
theorem with_tumble (n : Int) (W : World) : Calls Tryz.prog 96 #[.int .i64 n] W fun e W' => e = .returned (winVal (wTumble n)) ∧ Below W.heap.size W W' := by
  go_enter Tryz.func96, Tryz.ntmps96
  go_wp2_with fail
  refine bodyPost_ret (ret_win rfl _ _ W.heap.size (wTumble n) rfl (win_at W (wTumble n))) rfl ?_
  exact ⟨rfl, Nodes.box_below _ _⟩
theorem with_slide (n s : Int) (sb : Nat) (W : World) (hs : W.cell? ⟨sb, 0, none⟩ = some (.int .i64 s)) : Calls Tryz.prog 97 #[.int .i64 n, ptr sb] W fun e W' => e = .returned (winVal (wSlide s n)) ∧ Below W.heap.size W W' := by
  have hs2 : ∀ o, (W.alloc o).cell? ⟨sb, 0, none⟩ = some (.int .i64 s) := fun o => (World.cell?_of_block (w := W) (a := ⟨sb, 0, none⟩) (Below.heap_alloc W o sb (World.block_lt_of_cell? W _ hs))).trans hs
  go_enter Tryz.func97, Tryz.ntmps97
  go_wp2_with fail
  refine bodyPost_ret (ret_win rfl _ _ W.heap.size (wSlide s n) rfl (win_at W (wSlide s n))) rfl ?_
  exact ⟨rfl, Nodes.box_below _ _⟩

/-! ### number -/
theorem hd_short {w0 : World} {tv : Value} {ts : List Tok} {rb : Nat} (S : Still w0 tv ts rb) (a : Nat) : (hd (ts.drop a)).length ≤ 281474976710656 := by
  rcases Nat.lt_or_ge a ts.length with h | h
  · rw [hd_txt, txt_at h]; exact S.short _ (List.getElem_mem h)
  · rw [hd_txt, txt_end h]; exact Nat.zero_le _
theorem num_form {ok : Int → Wn} {l : List Tok} {y : List UInt8} (h : hd l = y) (he : rdE y ≠ 0) : numP ok l = (0, rdE y, l) := by
  unfold numP; rw [h, if_pos he]
theorem num_range {ok : Int → Wn} {l : List Tok} {y : List UInt8} (h : hd l = y) (he : rdE y = 0) (hw : windowV (ok (rdV y)) ≠ 0) : numP ok l = (0, 16, l) := by
  unfold numP; rw [h, if_neg (by rw [he]; exact fun e => e rfl), if_pos hw]
theorem num_good {ok : Int → Wn} {l : List Tok} {y : List UInt8} (h : hd l = y) (he : rdE y = 0) (hw : windowV (ok (rdV y)) = 0) : numP ok l = (rdV y, 0, l.tail) := by
  unfold numP; rw [h, if_neg (by rw [he]; exact fun e => e rfl), if_neg (by rw [hw]; exact fun e => e rfl)]
set_option maxRecDepth 100000 in
set_option maxHeartbeats 1000000 in
theorem number_tumble (w0 : World) (tv : Value) (ts : List Tok) (rb : Nat) (S : Still w0 tv ts rb) (W : World) (a : Nat) (h : Rs w0 tv ts rb W a) :
    Calls Tryz.prog 95 #[ptr rb, .func (.func 96) #[] #[]] W fun e W' => e = .returned (.tuple #[.int .i64 (numP wTumble (ts.drop a)).1, .int .i64 (numP wTumble (ts.drop a)).2.1]) ∧ RsEnds w0 tv ts rb W (numP wTumble (ts.drop a)).2.2 W' := by
  have T := Lib.hid (text_any w0 tv ts rb S W a h)
  have hsh := hd_short S a
  obtain ⟨y, hy⟩ : ∃ y, hd (ts.drop a) = y := ⟨_, rfl⟩
  rw [hy] at T hsh
  have R := Lib.hid (fun W' (hf : ErrFix W') => read_any ⟨y.toArray⟩ (by simpa [ByteArray.size] using hsh) W' hf)
  rw [show (⟨y.toArray⟩ : ByteArray).data.toList = y by simp] at R
  have HR := Lib.hid h
  have HS := Lib.hid S
  by_cases he : rdE y = 0
  · rw [he] at R
    have HW := Lib.hid (fun n W' => clWindow_any (wTumble n) W')
    obtain ⟨n, hn⟩ : ∃ n, rdV y = n := ⟨_, rfl⟩
    rw [hn] at R
    by_cases hw : windowV (wTumble n) = 0
    · have NP := num_good (ok := wTumble) hy he (by rw [hn]; exact hw)
      have hlt : a < ts.length := by
        refine hd_lt (x := y) hy ?_
        intro e
        rw [e] at he
        exact absurd he (by decide)
      rw [NP, hn]
      have V := Lib.hid (fun W' => HW.out n W')
      rw [hw] at V
      have L := Lib.hid hlt
      have hle := ts_short S
      have b1 : (a : Int) ≤ 200 := by omega
      clear h S hy hsh he hn hw NP hlt hle
      go_enter Tryz.func95, Tryz.ntmps95
      go_wp2_with fail
      refine T.out.mono ?_
      rintro e w1 ⟨rfl, hdr⟩
      have R1 := Lib.hid (HR.out.draws hdr)
      have K1 : Hid (Kept W.heap.size rb rb W w1) := Lib.hid (Kept.draws hdr)
      clear hdr
      go_wp2_with fail
      refine (R.out _ (R1.out.fix HS.out).1.1.1).mono ?_
      rintro e w2 ⟨rfl, hb⟩
      have R2 := Lib.hid (R1.out.below hb)
      have K2 := Lib.hid (K1.out.steps (Kept.of hb))
      clear hb
      go_wp2_with fail
      refine (with_tumble _ _).mono ?_
      rintro e w3 ⟨rfl, hb⟩
      have R3 := Lib.hid (R2.out.below hb)
      have K3 := Lib.hid (K2.out.steps (Kept.of hb))
      clear hb
      go_wp2_with fail
      refine (V.out _).mono ?_
      rintro e w4 ⟨rfl, hb⟩
      have R4 := Lib.hid (R3.out.below hb)
      have K4 := Lib.hid (K3.out.steps (Kept.of hb))
      clear hb
      obtain ⟨c0, c1⟩ := R4.out.rd.cells
      have f1 := R4.out.rd.frz 1
      clear c0
      go_wp2_with fail
      go_ret2
      refine ⟨rfl, a + 1, ?_, ?_, ?_⟩
      · exact (tail_drop ts a).symm
      · have := R4.out.set HS.out (c := a + 1) (by have := L.out; omega)
        rwa [show ((a + 1 : Nat) : Int) = (a : Int) + 1 by omega] at this
      · exact K4.out.setR _ _
    · have NP := num_range (ok := wTumble) hy he (by rw [hn]; exact hw)
      rw [NP]
      have V := Lib.hid (fun W' => HW.out n W')
      have hc : (windowV (wTumble n) != 0) = true := by rw [bne_iff_ne]; exact hw
      obtain ⟨cc, hcc⟩ : ∃ cc, windowV (wTumble n) = cc := ⟨_, rfl⟩
      rw [hcc] at V hc
      clear h S hy hsh he hn hw NP hcc
      go_enter Tryz.func95, Tryz.ntmps95
      go_wp2_with fail
      refine T.out.mono ?_
      rintro e w1 ⟨rfl, hdr⟩
      have R1 := Lib.hid (HR.out.draws hdr)
      have K1 : Hid (Kept W.heap.size rb rb W w1) := Lib.hid (Kept.draws hdr)
      clear hdr
      go_wp2_with fail
      refine (R.out _ (R1.out.fix HS.out).1.1.1).mono ?_
      rintro e w2 ⟨rfl, hb⟩
      have R2 := Lib.hid (R1.out.below hb)
      have K2 := Lib.hid (K1.out.steps (Kept.of hb))
      clear hb
      go_wp2_with fail
      refine (with_tumble _ _).mono ?_
      rintro e w3 ⟨rfl, hb⟩
      have R3 := Lib.hid (R2.out.below hb)
      have K3 := Lib.hid (K2.out.steps (Kept.of hb))
      clear hb
      go_wp2_with fail
      refine (V.out _).mono ?_
      rintro e w4 ⟨rfl, hb⟩
      have R4 := Lib.hid (R3.out.below hb)
      have K4 := Lib.hid (K3.out.steps (Kept.of hb))
      clear hb
      go_wp2_with fail
      go_ret2
      exact ⟨rfl, a, rfl, R4.out, K4.out⟩
  · have NP := num_form (ok := wTumble) hy he
    rw [NP]
    have hc : (rdE y != 0) = true := by rw [bne_iff_ne]; exact he
    obtain ⟨cc, hcc⟩ : ∃ cc, rdE y = cc := ⟨_, rfl⟩
    rw [hcc] at R hc ⊢
    clear h S hy hsh he NP hcc
    go_enter Tryz.func95, Tryz.ntmps95
    go_wp2_with fail
    refine T.out.mono ?_
    rintro e w1 ⟨rfl, hdr⟩
    have R1 := Lib.hid (HR.out.draws hdr)
    have K1 : Hid (Kept W.heap.size rb rb W w1) := Lib.hid (Kept.draws hdr)
    clear hdr
    go_wp2_with fail
    refine (R.out _ (R1.out.fix HS.out).1.1.1).mono ?_
    rintro e w2 ⟨rfl, hb⟩
    have R2 := Lib.hid (R1.out.below hb)
    have K2 := Lib.hid (K1.out.steps (Kept.of hb))
    clear hb
    go_wp2_with fail
    go_ret2
    exact ⟨rfl, a, rfl, R2.out, K2.out⟩
set_option maxRecDepth 100000 in
set_option maxHeartbeats 1000000 in
theorem number_slide (w0 : World) (tv : Value) (ts : List Tok) (rb : Nat) (S : Still w0 tv ts rb) (W : World) (a : Nat) (h : Rs w0 tv ts rb W a) (s : Int) (sb : Nat) (hb : sb < W.heap.size) (hz : W.cell? ⟨sb, 0, none⟩ = some (.int .i64 s)) :
    Calls Tryz.prog 95 #[ptr rb, .func (.func 97) #[] #[ptr sb]] W fun e W' => e = .returned (.tuple #[.int .i64 (numP (wSlide s) (ts.drop a)).1, .int .i64 (numP (wSlide s) (ts.drop a)).2.1]) ∧ RsEnds w0 tv ts rb W (numP (wSlide s) (ts.drop a)).2.2 W' := by
  have T := Lib.hid (text_any w0 tv ts rb S W a h)
  have hsh := hd_short S a
  obtain ⟨y, hy⟩ : ∃ y, hd (ts.drop a) = y := ⟨_, rfl⟩
  rw [hy] at T hsh
  have R := Lib.hid (fun W' (hf : ErrFix W') => read_any ⟨y.toArray⟩ (by simpa [ByteArray.size] using hsh) W' hf)
  rw [show (⟨y.toArray⟩ : ByteArray).data.toList = y by simp] at R
  have HR := Lib.hid h
  have HS := Lib.hid S
  have HB := Lib.hid hb
  have HZ := Lib.hid hz
  clear hb hz
  by_cases he : rdE y = 0
  · rw [he] at R
    have HW := Lib.hid (fun n W' => clWindow_any ((wSlide s) n) W')
    obtain ⟨n, hn⟩ : ∃ n, rdV y = n := ⟨_, rfl⟩
    rw [hn] at R
    by_cases hw : windowV ((wSlide s) n) = 0
    · have NP := num_good (ok := (wSlide s)) hy he (by rw [hn]; exact hw)
      have hlt : a < ts.length := by
        refine hd_lt (x := y) hy ?_
        intro e
        rw [e] at he
        exact absurd he (by decide)
      rw [NP, hn]
      have V := Lib.hid (fun W' => HW.out n W')
      rw [hw] at V
      have L := Lib.hid hlt
      have hle := ts_short S
      have b1 : (a : Int) ≤ 200 := by omega
      clear h S hy hsh he hn hw NP hlt hle
      go_enter Tryz.func95, Tryz.ntmps95
      go_wp2_with fail
      refine T.out.mono ?_
      rintro e w1 ⟨rfl, hdr⟩
      have R1 := Lib.hid (HR.out.draws hdr)
      have K1 : Hid (Kept W.heap.size rb rb W w1) := Lib.hid (Kept.draws hdr)
      have Z1 : Hid (w1.cell? ⟨sb, 0, none⟩ = some (.int .i64 s)) := Lib.hid (((hdr.below _).cell (p := ⟨sb, 0, none⟩) HB.out).trans HZ.out)
      have Y1 : Hid (sb < w1.heap.size) := Lib.hid (Nat.lt_of_lt_of_le HB.out (hdr.below W.heap.size).size)
      clear hdr
      go_wp2_with fail
      refine (R.out _ (R1.out.fix HS.out).1.1.1).mono ?_
      rintro e w2 ⟨rfl, hb⟩
      have R2 := Lib.hid (R1.out.below hb)
      have K2 := Lib.hid (K1.out.steps (Kept.of hb))
      have Z2 : Hid (w2.cell? ⟨sb, 0, none⟩ = some (.int .i64 s)) := Lib.hid ((hb.cell (p := ⟨sb, 0, none⟩) Y1.out).trans Z1.out)
      clear hb
      go_wp2_with fail
      refine (with_slide _ s sb _ Z2.out).mono ?_
      rintro e w3 ⟨rfl, hb⟩
      have R3 := Lib.hid (R2.out.below hb)
      have K3 := Lib.hid (K2.out.steps (Kept.of hb))
      clear hb
      go_wp2_with fail
      refine (V.out _).mono ?_
      rintro e w4 ⟨rfl, hb⟩
      have R4 := Lib.hid (R3.out.below hb)
      have K4 := Lib.hid (K3.out.steps (Kept.of hb))
      clear hb
      obtain ⟨c0, c1⟩ := R4.out.rd.cells
      have f1 := R4.out.rd.frz 1
      clear c0
      go_wp2_with fail
      go_ret2
      refine ⟨rfl, a + 1, ?_, ?_, ?_⟩
      · exact (tail_drop ts a).symm
      · have := R4.out.set HS.out (c := a + 1) (by have := L.out; omega)
        rwa [show ((a + 1 : Nat) : Int) = (a : Int) + 1 by omega] at this
      · exact K4.out.setR _ _
    · have NP := num_range (ok := (wSlide s)) hy he (by rw [hn]; exact hw)
      rw [NP]
      have V := Lib.hid (fun W' => HW.out n W')
      have hc : (windowV ((wSlide s) n) != 0) = true := by rw [bne_iff_ne]; exact hw
      obtain ⟨cc, hcc⟩ : ∃ cc, windowV ((wSlide s) n) = cc := ⟨_, rfl⟩
      rw [hcc] at V hc
      clear h S hy hsh he hn hw NP hcc
      go_enter Tryz.func95, Tryz.ntmps95
      go_wp2_with fail
      refine T.out.mono ?_
      rintro e w1 ⟨rfl, hdr⟩
      have R1 := Lib.hid (HR.out.draws hdr)
      have K1 : Hid (Kept W.heap.size rb rb W w1) := Lib.hid (Kept.draws hdr)
      have Z1 : Hid (w1.cell? ⟨sb, 0, none⟩ = some (.int .i64 s)) := Lib.hid (((hdr.below _).cell (p := ⟨sb, 0, none⟩) HB.out).trans HZ.out)
      have Y1 : Hid (sb < w1.heap.size) := Lib.hid (Nat.lt_of_lt_of_le HB.out (hdr.below W.heap.size).size)
      clear hdr
      go_wp2_with fail
      refine (R.out _ (R1.out.fix HS.out).1.1.1).mono ?_
      rintro e w2 ⟨rfl, hb⟩
      have R2 := Lib.hid (R1.out.below hb)
      have K2 := Lib.hid (K1.out.steps (Kept.of hb))
      have Z2 : Hid (w2.cell? ⟨sb, 0, none⟩ = some (.int .i64 s)) := Lib.hid ((hb.cell (p := ⟨sb, 0, none⟩) Y1.out).trans Z1.out)
      clear hb
      go_wp2_with fail
      refine (with_slide _ s sb _ Z2.out).mono ?_
      rintro e w3 ⟨rfl, hb⟩
      have R3 := Lib.hid (R2.out.below hb)
      have K3 := Lib.hid (K2.out.steps (Kept.of hb))
      clear hb
      go_wp2_with fail
      refine (V.out _).mono ?_
      rintro e w4 ⟨rfl, hb⟩
      have R4 := Lib.hid (R3.out.below hb)
      have K4 := Lib.hid (K3.out.steps (Kept.of hb))
      clear hb
      go_wp2_with fail
      go_ret2
      exact ⟨rfl, a, rfl, R4.out, K4.out⟩
  · have NP := num_form (ok := (wSlide s)) hy he
    rw [NP]
    have hc : (rdE y != 0) = true := by rw [bne_iff_ne]; exact he
    obtain ⟨cc, hcc⟩ : ∃ cc, rdE y = cc := ⟨_, rfl⟩
    rw [hcc] at R hc ⊢
    clear h S hy hsh he NP hcc
    go_enter Tryz.func95, Tryz.ntmps95
    go_wp2_with fail
    refine T.out.mono ?_
    rintro e w1 ⟨rfl, hdr⟩
    have R1 := Lib.hid (HR.out.draws hdr)
    have K1 : Hid (Kept W.heap.size rb rb W w1) := Lib.hid (Kept.draws hdr)
    clear hdr
    go_wp2_with fail
    refine (R.out _ (R1.out.fix HS.out).1.1.1).mono ?_
    rintro e w2 ⟨rfl, hb⟩
    have R2 := Lib.hid (R1.out.below hb)
    have K2 := Lib.hid (K1.out.steps (Kept.of hb))
    clear hb
    go_wp2_with fail
    go_ret2
    exact ⟨rfl, a, rfl, R2.out, K2.out⟩
end Go.Proofs.YtdinaedknlkicaaGreatDoor.ParserW
/-
  Contracts of package parser at the landed code (layer 9): lengths.
-/
namespace Go.Proofs.YtdinaedknlkicaaGreatDoor.ParserW
open Nodes Exprs ExprW Prs
open Go.ChangeShapes Go.WideShapes Go.ChangeAt Go.RowKit

abbrev strBox (l : List Value) : Obj := .cells l.toArray 9
theorem strs_one (W : World) (x : ByteArray) (b : Nat) (hb : b = W.heap.size) : StrsAt (W.alloc (.cells #[.string x] 9)) b [x.data.toList] := by
  subst hb
  refine ⟨by simp, fun i y hy => ?_⟩
  match i, hy with
  | 0, hy =>
    simp at hy
    subst hy
    rw [World.cell?_alloc_at _ _ _ _ rfl]
    rfl
  | i + 1, hy => simp at hy
theorem strs_three (W : World) (x y z : ByteArray) (b : Nat) (hb : b = W.heap.size) : StrsAt (W.alloc (.cells #[.string x, .string y, .string z] 9)) b [x.data.toList, y.data.toList, z.data.toList] := by
  subst hb
  refine ⟨by simp, fun i u hu => ?_⟩
  match i, hu with
  | 0, hu => simp at hu; subst hu; rw [World.cell?_alloc_at _ _ _ _ rfl]; rfl
  | 1, hu => simp at hu; subst hu; rw [World.cell?_alloc_at _ _ _ _ rfl]; rfl
  | 2, hu => simp at hu; subst hu; rw [World.cell?_alloc_at _ _ _ _ rfl]; rfl
  | i + 3, hu => simp at hu
theorem Ds.alloc {w0 : World} {tv : Value} {ts : List Tok} {rb qb C : Nat} {W : World} {a : Nat} {s : Sl} {q : Qy} (h : Ds w0 tv ts rb qb C W a s q) (o : Obj) : Ds w0 tv ts rb qb C (W.alloc o) a s q := h.below ((Below.refl _ _).alloc (Nat.le_refl _) o)
theorem Rs.alloc {w0 : World} {tv : Value} {ts : List Tok} {rb : Nat} {W : World} {a : Nat} (h : Rs w0 tv ts rb W a) (o : Obj) : Rs w0 tv ts rb (W.alloc o) a := h.below ((Below.refl _ _).alloc (Nat.le_refl _) o)
/-- One text that is wanted, in a world whose block of it is new. -/
theorem want_one (w0 : World) (tv : Value) (ts : List Tok) (rb : Nat) (S : Still w0 tv ts rb) (x : ByteArray) (hx : x.data.toList ≠ []) (W : World) (a : Nat) (h : Rs w0 tv ts rb W a) (b : Nat) (hb : b = W.heap.size) :
    Calls Tryz.prog 73 #[ptr rb, .slice (some ⟨b, 0, none⟩) 1 1] (W.alloc (.cells #[.string x] 9)) fun e W' => e = .returned (.int .i64 (expP [x.data.toList] (ts.drop a)).1) ∧ RsEnds w0 tv ts rb W (expP [x.data.toList] (ts.drop a)).2 W' := by
  refine (expect_any w0 tv ts rb S [x.data.toList] (by simpa using hx) 1 rfl (by decide) _ a b (h.alloc _) (strs_one W x b hb) (by have := h.rd.lt; omega)).mono ?_
  rintro e W' ⟨rfl, c, h1, h2, h3⟩
  exact ⟨rfl, c, h1, h2, ((Kept.refl _ _ _ _).alloc (Nat.le_refl _) _).step h3 (Nat.le_refl _)⟩
theorem lens_bad {l : List Tok} {q : Qy} {n e : Int} {m : List Tok} (h : numP wTumble l = (n, e, m)) (he : e ≠ 0) : lensP l q = ⟨e, m, q⟩ := by
  unfold lensP; rw [h]; exact if_pos he
theorem lens_plain {l : List Tok} {q : Qy} {n : Int} {m : List Tok} (h : numP wTumble l = (n, 0, m)) (hk : q.win.kind ≠ 2) : lensP l q = ⟨0, m, withWin q ⟨q.win.kind, n, q.win.every⟩⟩ := by
  unfold lensP; rw [h]; simp only; rw [if_neg (fun e => e rfl), if_pos hk]
theorem lens_none {l : List Tok} {q : Qy} {n : Int} {m : List Tok} (h : numP wTumble l = (n, 0, m)) (hk : q.win.kind = 2) {e2 : Int} {m2 : List Tok} (h2 : expP [tEvery] m = (e2, m2)) (he : e2 ≠ 0) : lensP l q = ⟨e2, m2, withWin q ⟨q.win.kind, n, q.win.every⟩⟩ := by
  unfold lensP; rw [h]; simp only; rw [if_neg (fun e => e rfl), if_neg (fun e => e hk)]
  unfold needP
  rw [h2, Prs.then_bad he]
theorem lens_slide {l : List Tok} {q : Qy} {n : Int} {m : List Tok} (h : numP wTumble l = (n, 0, m)) (hk : q.win.kind = 2) {m2 : List Tok} (h2 : expP [tEvery] m = (0, m2)) {n3 e3 : Int} {m3 : List Tok} (h3 : numP (wSlide n) m2 = (n3, e3, m3)) : lensP l q = ⟨e3, m3, withWin q ⟨q.win.kind, n, n3⟩⟩ := by
  unfold lensP; rw [h]; simp only; rw [if_neg (fun e => e rfl), if_neg (fun e => e hk)]
  unfold needP
  rw [h2, Prs.then_ok rfl]
  simp only
  rw [h3]; rfl
set_option maxRecDepth 100000 in
set_option maxHeartbeats 1000000 in
theorem lengths_any (w0 : World) (tv : Value) (ts : List Tok) (rb qb C : Nat) (S : Still w0 tv ts rb) (W : World) (a : Nat) (s : Sl) (q : Qy) (h : Ds w0 tv ts rb qb C W a s q) :
    Calls Tryz.prog 79 #[ptr rb, .pointer (some ⟨qb, 5, none⟩)] W (ClEnds w0 tv ts rb qb C W (lensP (ts.drop a) q)) := by
  have N1 := Lib.hid (number_tumble w0 tv ts rb S W a h.rs)
  obtain ⟨n, e1, m, hn⟩ : ∃ n e m, numP wTumble (ts.drop a) = (n, e, m) := ⟨_, _, _, rfl⟩
  rw [hn] at N1
  have HD := Lib.hid h
  have HS := Lib.hid S
  by_cases he : e1 = 0
  · subst he
    by_cases hk : q.win.kind = 2
    · obtain ⟨e2, m2, hx⟩ : ∃ e m2, expP [tEvery] m = (e, m2) := ⟨_, _, rfl⟩
      by_cases he2 : e2 = 0
      · subst he2
        obtain ⟨n3, e3, m3, hn3⟩ : ∃ u e m3, numP (wSlide n) m2 = (u, e, m3) := ⟨_, _, _, rfl⟩
        rw [lens_slide hn hk hx hn3]
        have HX := Lib.hid hx
        have HN3 := Lib.hid hn3
        have HK := Lib.hid hk
        clear h S hn hk hx hn3
        go_enter Tryz.func79, Tryz.ntmps79
        go_wp2_with fail
        refine N1.out.mono ?_
        rintro e w1 ⟨rfl, a1, hm1, hr1, hk1⟩
        have D1 := Lib.hid (HD.out.on hr1 hk1)
        have K1 : Hid (Kept W.heap.size rb qb W w1) := Lib.hid hk1.two
        have M1 := Lib.hid hm1
        clear hr1 hk1 hm1
        have D2 := D1.out.alloc (.cells #[.int .i64 n] 2)
        have f6 := D2.qs.at_.frz 6
        have c6 := D2.qs.at_.cells.2.2.2.2.2.2.1
        have z2 : (w1.alloc (.cells #[.int .i64 n] 2)).cell? ⟨w1.heap.size, 0, none⟩ = some (.int .i64 n) := by rw [World.cell?_alloc_at _ _ _ _ rfl]; rfl
        have D3 : Hid (Ds w0 tv ts rb qb C ((w1.alloc (.cells #[.int .i64 n] 2)).setCell ⟨qb, 6, none⟩ (.int .i64 n)) a1 s (withWin q ⟨q.win.kind, n, q.win.every⟩)) := Lib.hid (D2.put HS.out 6 _ (D2.qs.at_.set_ws n) rfl rfl rfl)
        have c5 : ((w1.alloc (.cells #[.int .i64 n] 2)).setCell ⟨qb, 6, none⟩ (.int .i64 n)).cell? ⟨qb, 5, none⟩ = some (.int .u8 q.win.kind) := D3.out.qs.at_.cells.2.2.2.2.2.1
        have k2 : (q.win.kind != 2) = false := by rw [bne_eq_false_iff_eq]; exact HK.out
        have Z3 : Hid (((w1.alloc (.cells #[.int .i64 n] 2)).setCell ⟨qb, 6, none⟩ (.int .i64 n)).cell? ⟨w1.heap.size, 0, none⟩ = some (.int .i64 n)) := Lib.hid ((World.cell?_of_block (Below.heap_setCell _ _ _ _ (show w1.heap.size ≠ qb by have := D1.out.qC; have := D1.out.CW; omega))).trans z2)
        have K3 : Hid (Kept W.heap.size rb qb W ((w1.alloc (.cells #[.int .i64 n] 2)).setCell ⟨qb, 6, none⟩ (.int .i64 n))) := Lib.hid ((K1.out.alloc K1.out.size _).setQ _ _)
        have V3 : Hid (((w1.alloc (.cells #[.int .i64 n] 2)).setCell ⟨qb, 6, none⟩ (.int .i64 n)).heap.size = w1.heap.size + 1) := Lib.hid (by rw [set_size8]; simp)
        clear D2
        go_wp2_with fail
        refine (want_one w0 tv ts rb HS.out { data := #[101, 118, 101, 114, 121] } (by decide) _ a1 D3.out.rs _ V3.out.symm).mono ?_
        rintro e w2 ⟨rfl, a2, hm2, hr2, hk2⟩
        have hx2 := HX.out
        rw [← M1.out] at hx2
        replace hx2 : expP [(⟨#[101, 118, 101, 114, 121]⟩ : ByteArray).data.toList] (ts.drop a1) = (0, m2) := hx2
        rw [hx2] at hm2 ⊢
        have D4 := Lib.hid (D3.out.on hr2 hk2)
        have Z4 : Hid (w2.cell? ⟨w1.heap.size, 0, none⟩ = some (.int .i64 n)) := Lib.hid ((World.cell?_of_block (hk2.block w1.heap.size (by rw [V3.out]; omega) (by have := D1.out.rs.rd.lt; omega) (by have := D1.out.rs.rd.lt; omega))).trans Z3.out)
        have Y4 : Hid (w1.heap.size < w2.heap.size) := Lib.hid (by have := hk2.size; rw [V3.out] at this; omega)
        have K4 := Lib.hid (K3.out.step hk2.two (Nat.le_refl _))
        have M2 := Lib.hid hm2
        clear hr2 hk2 hm2 hx2 c6 f6 z2 c5
        go_wp2_with fail
        refine (number_slide w0 tv ts rb HS.out _ a2 D4.out.rs n _ Y4.out Z4.out).mono ?_
        rintro e w3 ⟨rfl, a3, hm3, hr3, hk3⟩
        have hn3 := HN3.out
        rw [← M2.out] at hn3
        replace hn3 : numP (wSlide n) (ts.drop a2) = (n3, e3, m3) := hn3
        rw [hn3] at hm3 ⊢
        have D5 := Lib.hid (D4.out.on hr3 hk3)
        have K5 := Lib.hid (K4.out.step hk3.two (Nat.le_refl _))
        have M3 := Lib.hid hm3
        have f7 := D5.out.qs.at_.frz 7
        have c7 := D5.out.qs.at_.cells.2.2.2.2.2.2.2.1
        clear hr3 hk3 hm3 hn3
        go_wp2_with fail
        go_ret
        exact ⟨rfl, a3, s, M3.out, D5.out.put HS.out 7 _ (D5.out.qs.at_.set_we n3) rfl rfl rfl, K5.out.setQ _ _⟩
      · rw [lens_none hn hk hx he2]
        have HX := Lib.hid hx
        have HK := Lib.hid hk
        have q2 : (e2 != 0) = true := by rw [bne_iff_ne]; exact he2
        clear h S hn hk hx he2
        go_enter Tryz.func79, Tryz.ntmps79
        go_wp2_with fail
        refine N1.out.mono ?_
        rintro e w1 ⟨rfl, a1, hm1, hr1, hk1⟩
        have D1 := Lib.hid (HD.out.on hr1 hk1)
        have K1 : Hid (Kept W.heap.size rb qb W w1) := Lib.hid hk1.two
        have M1 := Lib.hid hm1
        clear hr1 hk1 hm1
        have D2 := D1.out.alloc (.cells #[.int .i64 n] 2)
        have f6 := D2.qs.at_.frz 6
        have c6 := D2.qs.at_.cells.2.2.2.2.2.2.1
        have z2 : (w1.alloc (.cells #[.int .i64 n] 2)).cell? ⟨w1.heap.size, 0, none⟩ = some (.int .i64 n) := by rw [World.cell?_alloc_at _ _ _ _ rfl]; rfl
        have D3 : Hid (Ds w0 tv ts rb qb C ((w1.alloc (.cells #[.int .i64 n] 2)).setCell ⟨qb, 6, none⟩ (.int .i64 n)) a1 s (withWin q ⟨q.win.kind, n, q.win.every⟩)) := Lib.hid (D2.put HS.out 6 _ (D2.qs.at_.set_ws n) rfl rfl rfl)
        have c5 : ((w1.alloc (.cells #[.int .i64 n] 2)).setCell ⟨qb, 6, none⟩ (.int .i64 n)).cell? ⟨qb, 5, none⟩ = some (.int .u8 q.win.kind) := D3.out.qs.at_.cells.2.2.2.2.2.1
        have k2 : (q.win.kind != 2) = false := by rw [bne_eq_false_iff_eq]; exact HK.out
        have K3 : Hid (Kept W.heap.size rb qb W ((w1.alloc (.cells #[.int .i64 n] 2)).setCell ⟨qb, 6, none⟩ (.int .i64 n))) := Lib.hid ((K1.out.alloc K1.out.size _).setQ _ _)
        have V3 : Hid (((w1.alloc (.cells #[.int .i64 n] 2)).setCell ⟨qb, 6, none⟩ (.int .i64 n)).heap.size = w1.heap.size + 1) := Lib.hid (by rw [set_size8]; simp)
        clear D2
        go_wp2_with fail
        refine (want_one w0 tv ts rb HS.out { data := #[101, 118, 101, 114, 121] } (by decide) _ a1 D3.out.rs _ V3.out.symm).mono ?_
        rintro e w2 ⟨rfl, a2, hm2, hr2, hk2⟩
        have hx2 := HX.out
        rw [← M1.out] at hx2
        replace hx2 : expP [(⟨#[101, 118, 101, 114, 121]⟩ : ByteArray).data.toList] (ts.drop a1) = (e2, m2) := hx2
        rw [hx2] at hm2 ⊢
        have D4 := Lib.hid (D3.out.on hr2 hk2)
        have K4 := Lib.hid (K3.out.step hk2.two (Nat.le_refl _))
        have M2 := Lib.hid hm2
        clear hr2 hk2 hm2 hx2 c6 f6 z2 c5
        go_wp2_with fail
        go_ret
        exact ⟨rfl, a2, s, M2.out, D4.out, K4.out⟩
    · rw [lens_plain hn hk]
      have HK := Lib.hid hk
      clear h S hn hk
      go_enter Tryz.func79, Tryz.ntmps79
      go_wp2_with fail
      refine N1.out.mono ?_
      rintro e w1 ⟨rfl, a1, hm1, hr1, hk1⟩
      have D1 := Lib.hid (HD.out.on hr1 hk1)
      have K1 : Hid (Kept W.heap.size rb qb W w1) := Lib.hid hk1.two
      have M1 := Lib.hid hm1
      clear hr1 hk1 hm1
      have D2 := D1.out.alloc (.cells #[.int .i64 n] 2)
      have f6 := D2.qs.at_.frz 6
      have c6 := D2.qs.at_.cells.2.2.2.2.2.2.1
      have z2 : (w1.alloc (.cells #[.int .i64 n] 2)).cell? ⟨w1.heap.size, 0, none⟩ = some (.int .i64 n) := by rw [World.cell?_alloc_at _ _ _ _ rfl]; rfl
      have D3 : Hid (Ds w0 tv ts rb qb C ((w1.alloc (.cells #[.int .i64 n] 2)).setCell ⟨qb, 6, none⟩ (.int .i64 n)) a1 s (withWin q ⟨q.win.kind, n, q.win.every⟩)) := Lib.hid (D2.put HS.out 6 _ (D2.qs.at_.set_ws n) rfl rfl rfl)
      have c5 : ((w1.alloc (.cells #[.int .i64 n] 2)).setCell ⟨qb, 6, none⟩ (.int .i64 n)).cell? ⟨qb, 5, none⟩ = some (.int .u8 q.win.kind) := D3.out.qs.at_.cells.2.2.2.2.2.1
      have k2 : (q.win.kind != 2) = true := by rw [bne_iff_ne]; exact HK.out
      have K3 : Hid (Kept W.heap.size rb qb W ((w1.alloc (.cells #[.int .i64 n] 2)).setCell ⟨qb, 6, none⟩ (.int .i64 n))) := Lib.hid ((K1.out.alloc K1.out.size _).setQ _ _)
      clear D2
      go_wp2_with fail
      go_ret
      exact ⟨rfl, a1, s, M1.out, D3.out, K3.out⟩
  · rw [lens_bad hn he]
    have q1 : (e1 != 0) = true := by rw [bne_iff_ne]; exact he
    clear h S hn he
    go_enter Tryz.func79, Tryz.ntmps79
    go_wp2_with fail
    refine N1.out.mono ?_
    rintro e w1 ⟨rfl, a1, hm1, hr1, hk1⟩
    have D1 := Lib.hid (HD.out.on hr1 hk1)
    have K1 : Hid (Kept W.heap.size rb qb W w1) := Lib.hid hk1.two
    have M1 := Lib.hid hm1
    clear hr1 hk1 hm1
    go_wp2_with fail
    go_ret
    exact ⟨rfl, a1, s, M1.out, D1.out.alloc _, K1.out.alloc K1.out.size _⟩
end Go.Proofs.YtdinaedknlkicaaGreatDoor.ParserW
/-
  Contracts of package parser at the landed code (layer 9): slices.Index, slices.Contains, source.
-/
namespace Go.Proofs.YtdinaedknlkicaaGreatDoor.ParserW
open Nodes Exprs ExprW Prs
open Go.ChangeShapes Go.WideShapes Go.ChangeAt Go.RowKit

/-! ### slices.Index, slices.Contains -/
def idxV (l : List Int) (x : Int) : Int := if x ∈ l then (l.idxOf x : Int) else -1
theorem idx_hit {l : List Int} {x : Int} {k : Nat} (hk : k < l.length) (hall : x ∉ l.take k) (h : l[k] = x) : idxV l x = (k : Int) := by
  have hm : x ∈ l := h ▸ List.getElem_mem hk
  unfold idxV
  rw [if_pos hm]
  have e : l = l.take k ++ x :: l.drop (k + 1) := by
    rw [← h, ← List.drop_eq_getElem_cons hk, List.take_append_drop]
  have hl : (l.take k).length = k := List.length_take_of_le (by omega)
  rw [e, List.idxOf_append, if_neg hall, List.idxOf_cons_self, hl, Nat.zero_add]
theorem idx_miss {l : List Int} {x : Int} (hall : x ∉ l.take l.length) : idxV l x = -1 := by
  rw [List.take_length] at hall
  unfold idxV; rw [if_neg hall]
theorem idx_sign (l : List Int) (x : Int) : decide (0 ≤ idxV l x) = decide (x ∈ l) := by
  unfold idxV
  by_cases h : x ∈ l
  · rw [if_pos h, decide_eq_true h, decide_eq_true (by omega)]
  · rw [if_neg h, decide_eq_false h, decide_eq_false (by omega)]
theorem not_take {l : List Int} {x : Int} {k : Nat} (hk : k < l.length) (hall : x ∉ l.take k) (h : l[k] ≠ x) : x ∉ l.take (k + 1) := by
  rw [List.take_succ_eq_append_getElem hk, List.mem_append]
  rintro (h1 | h1)
  · exact hall h1
  · simp at h1; exact h h1.symm
set_option maxRecDepth 100000 in
theorem index_any (v : Value) (l : List Int) (x : Int) (w : World) (hR : ReadsI w v l) (hn : l.length ≤ 1000) :
    Calls Tryz.prog 108 #[v, .int .i64 x] w fun e w' => e = .returned (.int .i64 (idxV l x)) ∧ w = w' := by
  obtain ⟨ad, cap, rfl⟩ := hR.shape
  have RI := Lib.hid hR
  clear hR
  go_enter Tryz.func108, Tryz.ntmps108
  go_wp2_with fail
  go_loopg [5, 8] l.length (fun g j i wx => ∃ k : Nat, k + g = l.length ∧ i = .int .i64 k ∧ Hid (x ∉ l.take k) ∧ w = wx)
  case atStart => exact ⟨0, by omega, rfl, Lib.hid (by simp), rfl⟩
  case round =>
    obtain ⟨k, hk, rfl, HK, rfl⟩ := hrel
    cases gk with
    | zero =>
      obtain rfl : k = l.length := by omega
      have H := Lib.hid (idx_miss HK.out)
      clear hk
      go_wp2_with fail
      go_ret
      exact ⟨by rw [H.out]; rfl, rfl⟩
    | succ g =>
      have hlt : k < l.length := by omega
      obtain ⟨b, o, cp, e, hb, hc⟩ := RI.out.num k hlt
      cases e
      obtain ⟨y, hy⟩ : ∃ y, l[k] = y := ⟨_, rfl⟩
      rw [hy] at hc
      by_cases hq : y = x
      · have H := Lib.hid (idx_hit hlt HK.out (by rw [hy]; exact hq))
        have t1 : (x == y) = true := by rw [beq_iff_eq]; exact hq.symm
        clear hq hy
        go_wp2_with fail
        go_ret
        exact ⟨by rw [H.out]; rfl, rfl⟩
      · have H := Lib.hid (not_take hlt HK.out (by rw [hy]; exact hq))
        have t1 : (x == y) = false := by rw [beq_eq_false_iff_ne]; exact fun e => hq e.symm
        clear hq hy
        go_wp2_with fail
        go_roundg g
        case measure => omega
        case rel => exact ⟨k + 1, by omega, by go_num, H, rfl⟩
theorem contains_any (v : Value) (l : List Int) (x : Int) (w : World) (hR : ReadsI w v l) (hn : l.length ≤ 1000) :
    Calls Tryz.prog 94 #[v, .int .i64 x] w fun e w' => e = .returned (.bool (decide (x ∈ l))) ∧ w = w' := by
  have I := Lib.hid (index_any v l x w hR hn)
  have H := Lib.hid (idx_sign l x)
  obtain ⟨i, hi⟩ : ∃ i, idxV l x = i := ⟨_, rfl⟩
  rw [hi] at I H
  clear hR hi
  go_enter Tryz.func94, Tryz.ntmps94
  go_wp2_with fail
  refine I.out.mono ?_
  rintro e w1 ⟨rfl, rfl⟩
  go_wp2_with fail
  go_ret
  exact ⟨by rw [← H.out]; rfl, rfl⟩
/-! ### source -/
structure Ss (w0 : World) (tv : Value) (ts : List Tok) (rb qb B : Nat) (W : World) (a : Nat) (s : Sl) (q : Qy) : Prop where
  rs : Rs w0 tv ts rb W a
  at_ : QyAt W qb s q
  src : W.ownsRow B 3 1 s.src q.src.length (rowI q.src)
  none : q.src = [] → s.src = .slice .none 0 0
  rq : rb < qb
  qB : qb < B
  BW : B ≤ W.heap.size
theorem Ss.below {w0 : World} {tv : Value} {ts : List Tok} {rb qb B : Nat} {W W' : World} {a : Nat} {s : Sl} {q : Qy} (h : Ss w0 tv ts rb qb B W a s q) (hb : Below W.heap.size W W') : Ss w0 tv ts rb qb B W' a s q :=
  ⟨h.rs.below hb, h.at_.below hb, keeps_own h.src hb, h.none, h.rq, h.qB, Nat.le_trans h.BW hb.size⟩
theorem Ss.on {w0 : World} {tv : Value} {ts : List Tok} {rb qb B : Nat} {W W' : World} {a a' : Nat} {s : Sl} {q : Qy} (h : Ss w0 tv ts rb qb B W a s q) (hr : Rs w0 tv ts rb W' a') (hk : Kept W.heap.size rb rb W W') : Ss w0 tv ts rb qb B W' a' s q :=
  ⟨hr, (hk.block qb h.at_.lt (by have := h.rq; omega) (by have := h.rq; omega)).trans h.at_, own_kept h.src hk (by have := h.rq; have := h.qB; omega) (by have := h.rq; have := h.qB; omega), h.none, h.rq, h.qB, Nat.le_trans h.BW hk.size⟩
def SrcEnds (w0 : World) (tv : Value) (ts : List Tok) (rb qb B : Nat) (W : World) (s : Sl) (o : Out) (e : Ending) (W' : World) : Prop :=
  e = .returned (.int .i64 o.e) ∧ ∃ a v, ts.drop a = o.l ∧ Ss w0 tv ts rb qb B W' a ⟨s.arg, v, s.cond⟩ o.q ∧ Kept B rb qb W W'
theorem src_form {l : List Tok} {q : Qy} {y : List UInt8} (h : hd l = y) (he : (sourceV ⟨y.toArray⟩).2 ≠ 0) : srcP l q = ⟨12, l, q⟩ := by
  unfold srcP; rw [h, if_pos he]
theorem src_there {l : List Tok} {q : Qy} {y : List UInt8} (h : hd l = y) (he : (sourceV ⟨y.toArray⟩).2 = 0) (hm : (sourceV ⟨y.toArray⟩).1 ∈ q.src) : srcP l q = ⟨43, l, q⟩ := by
  unfold srcP; rw [h, if_neg (by rw [he]; exact fun e => e rfl), if_pos hm]
theorem src_new {l : List Tok} {q : Qy} {y : List UInt8} (h : hd l = y) (he : (sourceV ⟨y.toArray⟩).2 = 0) (hm : (sourceV ⟨y.toArray⟩).1 ∉ q.src) : srcP l q = ⟨0, l.tail, withSrc q (q.src ++ [(sourceV ⟨y.toArray⟩).1])⟩ := by
  unfold srcP; rw [h, if_neg (by rw [he]; exact fun e => e rfl), if_neg hm]
set_option maxRecDepth 100000 in
set_option maxHeartbeats 1000000 in
theorem source_any (w0 : World) (tv : Value) (ts : List Tok) (rb qb B : Nat) (S : Still w0 tv ts rb) (W : World) (a : Nat) (s : Sl) (q : Qy) (h : Ss w0 tv ts rb qb B W a s q) (hl : q.src.length ≤ 100) :
    Calls Tryz.prog 76 #[ptr rb, ptr qb] W (SrcEnds w0 tv ts rb qb B W s (srcP (ts.drop a) q)) := by
  have T := Lib.hid (text_any w0 tv ts rb S W a h.rs)
  obtain ⟨y, hy⟩ : ∃ y, hd (ts.drop a) = y := ⟨_, rfl⟩
  rw [hy] at T
  have R := Lib.hid (fun W' (hf : NameFix W') => clSource_any ⟨y.toArray⟩ W' hf)
  have HS := Lib.hid S
  have HD := Lib.hid h
  obtain ⟨n, e0, hn⟩ : ∃ n e0, sourceV ⟨y.toArray⟩ = (n, e0) := ⟨_, _, rfl⟩
  rw [hn] at R
  by_cases he : e0 = 0
  · subst he
    have C := Lib.hid (fun v W' hR => contains_any v q.src n W' hR (by omega))
    by_cases hm : n ∈ q.src
    · rw [decide_eq_true hm] at C
      rw [src_there hy (by rw [hn]) (by rw [hn]; exact hm)]
      clear h S hy hn hm
      go_enter Tryz.func76, Tryz.ntmps76
      go_wp2_with fail
      refine T.out.mono ?_
      rintro e w1 ⟨rfl, hdr⟩
      have D1 := Lib.hid (HD.out.below (hdr.below _))
      have K1 : Hid (Kept B rb qb W w1) := Lib.hid (Kept.draws hdr)
      clear hdr
      go_wp2_with fail
      refine (R.out _ (D1.out.rs.fix HS.out).2).mono ?_
      rintro e w2 ⟨rfl, rfl⟩
      have c2 := D1.out.at_.cells.2.2.1
      go_wp2_with fail
      refine (C.out _ _ (own_readsI D1.out.src)).mono ?_
      rintro e w2 ⟨rfl, rfl⟩
      go_wp2_with fail
      go_ret
      exact ⟨rfl, a, s.src, rfl, D1.out, K1.out⟩
    · rw [decide_eq_false hm] at C
      have hlt : a < ts.length := by
        refine hd_lt (x := y) hy ?_
        intro e
        rw [e] at hn
        have h2 := congrArg Prod.snd hn
        rw [show (sourceV ⟨([] : List UInt8).toArray⟩).2 = 2 by decide] at h2
        cases h2
      rw [src_new hy (by rw [hn]) (by rw [hn]; exact hm), hn]
      obtain ⟨i0, hi, hz0, hz1, hz2⟩ := info_parts info_int8
      obtain ⟨ad, cap, hsv⟩ := own_shape h.src
      have HSV := Lib.hid hsv
      have L := Lib.hid hlt
      have hle := ts_short S
      have b1 : (a : Int) ≤ 200 := by omega
      clear h S hy hn hm hlt hle hsv
      go_enter Tryz.func76, Tryz.ntmps76
      go_wp2_with fail
      refine T.out.mono ?_
      rintro e w1 ⟨rfl, hdr⟩
      have D1 := Lib.hid (HD.out.below (hdr.below _))
      have K1 : Hid (Kept B rb qb W w1) := Lib.hid (Kept.draws hdr)
      clear hdr
      go_wp2_with fail
      refine (R.out _ (D1.out.rs.fix HS.out).2).mono ?_
      rintro e w2 ⟨rfl, rfl⟩
      have c2 := D1.out.at_.cells.2.2.1
      rw [HSV.out] at c2
      have O1 : Hid (w1.ownsRow B 3 1 (.slice ad q.src.length cap) q.src.length (rowI q.src)) := Lib.hid (by have := D1.out.src; rwa [HSV.out] at this)
      go_wp2_with fail
      refine (C.out _ _ (own_readsI O1.out)).mono ?_
      rintro e w2 ⟨rfl, rfl⟩
      go_wp2_with (at_builtin; refine wpList_append_own _ rfl _ _ 24 rfl B 3 i0 (.int .i64 0) 1 8 Tryz.underlying24 hi hz0 hz1 hz2 rfl (by decide) _ _ _ rfl (O1.out.alloc _) ⟨w1.heap.size, 0, none⟩ 1 1 [.int .i64 n] rfl rfl ?c1 ?c2 ?c3 ?c4 ?c5 ?_)
      case c1 =>
        intro j u hj
        match j, hj with
        | 0, hj => simp at hj; subst hj; simp [Addr.add]
      case c2 => intro u hu; simp at hu; subst hu; rfl
      case c3 => unfold maxLen; omega
      case c4 => omega
      case c5 => have := D1.out.BW; simp; omega
      intro v' w2 hown' hgrow _
      have e1 : rowI q.src ++ [.int .i64 n] = rowI (q.src ++ [n]) := by unfold rowI; rw [List.map_append]; rfl
      have e2 : (q.src ++ [n]).length = q.src.length + 1 := by simp
      have hvb := O1.out.lt
      have qlt := D1.out.at_.lt
      have qB := D1.out.qB
      have rq := D1.out.rq
      have hq2 : QyAt w2 qb s q := by
        unfold QyAt
        rw [hgrow.block qb (by simp; omega) (fun e => by have := (hvb qb e.symm).1; omega), Lib.alloc_old w1 _ qb qlt]
        exact D1.out.at_
      have hr2 : RdAt w2 rb tv a := by
        unfold RdAt
        rw [hgrow.block rb (by simp; omega) (fun e => by have := (hvb rb e.symm).1; omega), Lib.alloc_old w1 _ rb (by omega)]
        exact D1.out.rs.rd
      have hb2 : Below B w1 w2 := ((Below.refl B w1).alloc D1.out.BW _).grown hgrow (by have := D1.out.BW; simp; omega) (fun k hk => (hvb k hk).1)
      have K2 : Hid (Kept B rb qb W w2) := Lib.hid (K1.out.trans (Kept.of hb2))
      have hbw := D1.out.BW
      have hrb := HS.out.rb
      have hbase : Below w0.heap.size w0 w2 := D1.out.rs.base.trans (hb2.mono (by omega))
      obtain ⟨ad2, cap2, hv⟩ := own_shape hown'
      subst hv
      have f1 := hq2.frz 2
      have k1 := hq2.cells.2.2.1
      have HQ2 : Hid (QyAt (w2.setCell ⟨qb, 2, none⟩ (.slice ad2 (q.src.length + 1) cap2)) qb ⟨s.arg, .slice ad2 (q.src.length + 1) cap2, s.cond⟩ q) := Lib.hid (hq2.set_src _)
      have hr3 : RdAt (w2.setCell ⟨qb, 2, none⟩ (.slice ad2 (q.src.length + 1) cap2)) rb tv a := hr2.far (by omega) _ _
      have k3 := hr3.cells.2
      have f3 := hr3.frz 1
      have HR3 := Lib.hid hr3
      have HO : Hid (w2.ownsRow B 3 1 (.slice ad2 (q.src.length + 1) cap2) (q.src ++ [n]).length (rowI (q.src ++ [n]))) := Lib.hid (by rw [← e1, e2]; exact hown')
      have HN : Hid (qb ≠ rb ∧ rb ≠ qb ∧ w0.heap.size ≤ qb ∧ w0.heap.size ≤ rb ∧ rb < qb ∧ qb < B ∧ B ≤ w2.heap.size) := Lib.hid ⟨by omega, by omega, by omega, hrb, rq, qB, by have := hb2.size; omega⟩
      have HBase := Lib.hid hbase
      have HBl : Hid ((Value.slice ad2 (q.src.length + 1) cap2).ownBlock ≠ some qb ∧ (Value.slice ad2 (q.src.length + 1) cap2).ownBlock ≠ some rb) := Lib.hid ⟨fun e => by have := (hown'.lt _ e).1; omega, fun e => by have := (hown'.lt _ e).1; omega⟩
      clear hown' hgrow e1 e2 hvb qlt qB rq hq2 hr2 hb2 hbw hrb hbase hr3 c2
      go_wp2_with fail
      go_ret
      refine ⟨rfl, a + 1, .slice ad2 (q.src.length + 1) cap2, (tail_drop ts a).symm, ⟨⟨?_, ?_, ?_⟩, ?_, ?_, ?_, HN.out.2.2.2.2.1, HN.out.2.2.2.2.2.1, ?_⟩, (K2.out.setQ _ _).setR _ _⟩
      · exact (HBase.out.setCell (p := ⟨qb, 2, none⟩) HN.out.2.2.1 _).setCell (p := ⟨rb, 1, none⟩) HN.out.2.2.2.1 _
      · have := HR3.out.set (a + 1)
        rwa [show ((a + 1 : Nat) : Int) = (a : Int) + 1 by omega] at this
      · have := L.out; omega
      · exact HQ2.out.far HN.out.2.1 _ _
      · exact own_set (own_set HO.out HBl.out.1 2 _) HBl.out.2 1 _
      · intro e; simp [withSrc] at e
      · rw [set_size8, set_size8]; exact HN.out.2.2.2.2.2.2
  · rw [src_form hy (by rw [hn]; exact he)]
    have q1 : (e0 != 0) = true := by rw [bne_iff_ne]; exact he
    clear h S hy hn he
    go_enter Tryz.func76, Tryz.ntmps76
    go_wp2_with fail
    refine T.out.mono ?_
    rintro e w1 ⟨rfl, hdr⟩
    have D1 := Lib.hid (HD.out.below (hdr.below _))
    have K1 : Hid (Kept B rb qb W w1) := Lib.hid (Kept.draws hdr)
    clear hdr
    go_wp2_with fail
    refine (R.out _ (D1.out.rs.fix HS.out).2).mono ?_
    rintro e w2 ⟨rfl, rfl⟩
    go_wp2_with fail
    go_ret
    exact ⟨rfl, a, s.src, rfl, D1.out, K1.out⟩
end Go.Proofs.YtdinaedknlkicaaGreatDoor.ParserW
/-
  Contracts of package parser at the landed code (layer 9): expressions put where they belong, argument, aggregate, condition.
-/
namespace Go.Proofs.YtdinaedknlkicaaGreatDoor.ParserW
open Nodes Exprs ExprW Prs
open Go.ChangeShapes Go.WideShapes Go.ChangeAt Go.RowKit

theorem expr_arg (w0 : World) (tv : Value) (ts : List Tok) (rb qb C : Nat) (S : Still w0 tv ts rb) (W : World) (a : Nat) (s : Sl) (q : Qy) (h : Ds w0 tv ts rb qb C W a s q) :
    Calls Tryz.prog 77 #[ptr rb, .pointer (some ⟨qb, 1, none⟩)] W (ClEnds w0 tv ts rb qb C W ⟨(exprP (ts.drop a)).1, (exprP (ts.drop a)).2.2, withArg q (exprP (ts.drop a)).2.1⟩) := by
  have hrq := h.rq
  have hqC := h.qC
  have hCW := h.CW
  have hrb := S.rb
  refine (expression_any w0 tv ts rb S W a h.rs qb 1 h.qs.at_.lt (by omega) _ _ h.qs.at_ (by simp)).mono ?_
  rintro e W' ⟨rfl, w1, v, c, hb, ho, hc, hd, rfl⟩
  have hsz := hb.size
  have hvl := ho.lt
  have k1 : Kept W.heap.size rb qb W w1 := Kept.of hb
  have hs : ∀ {e : TypeId} {size n : Nat} {u : Value} {xs : List Value}, W.ownsRow C e size u n xs → ((w1.setCell ⟨qb, 1, none⟩ v).setCell ⟨rb, 1, none⟩ (.int .i64 ((c : Nat) : Int))).ownsRow C e size u n xs := fun hu =>
    own_set (own_set (own_kept hu k1 (by omega) hqC) (fun e => by have := (hu.lt _ e).1; omega) 1 _) (fun e => by have := (hu.lt _ e).1; omega) 1 _
  refine ⟨rfl, c, ⟨v, s.src, s.cond⟩, hd, ⟨⟨?_, ?_, hc⟩, ⟨?_, ?_, hs h.qs.src, hs h.qs.cond, h.qs.none⟩, hrq, hqC, ?_⟩, (k1.setQ _ _).setR _ _⟩
  · exact ((h.rs.base.trans (hb.mono h.rs.base.size)).setCell (p := ⟨qb, 1, none⟩) (show w0.heap.size ≤ qb by omega) _).setCell (p := ⟨rb, 1, none⟩) hrb _
  · exact ((h.rs.rd.below hb).far (by omega) _ _).set c
  · exact ((h.qs.at_.below hb).set_arg v).far (by omega) _ _
  · exact own_lower (own_set (own_set ho (fun e => by have := (hvl _ e).1; omega) 1 _) (fun e => by have := (hvl _ e).1; omega) 1 _) hCW
  · rw [set_size8, set_size8]; omega
theorem expr_cond (w0 : World) (tv : Value) (ts : List Tok) (rb qb C : Nat) (S : Still w0 tv ts rb) (W : World) (a : Nat) (s : Sl) (q : Qy) (h : Ds w0 tv ts rb qb C W a s q) :
    Calls Tryz.prog 77 #[ptr rb, .pointer (some ⟨qb, 4, none⟩)] W (ClEnds w0 tv ts rb qb C W ⟨(exprP (ts.drop a)).1, (exprP (ts.drop a)).2.2, withCond q (exprP (ts.drop a)).2.1⟩) := by
  have hrq := h.rq
  have hqC := h.qC
  have hCW := h.CW
  have hrb := S.rb
  refine (expression_any w0 tv ts rb S W a h.rs qb 4 h.qs.at_.lt (by omega) _ _ h.qs.at_ (by simp)).mono ?_
  rintro e W' ⟨rfl, w1, v, c, hb, ho, hc, hd, rfl⟩
  have hsz := hb.size
  have hvl := ho.lt
  have k1 : Kept W.heap.size rb qb W w1 := Kept.of hb
  have hs : ∀ {e : TypeId} {size n : Nat} {u : Value} {xs : List Value}, W.ownsRow C e size u n xs → ((w1.setCell ⟨qb, 4, none⟩ v).setCell ⟨rb, 1, none⟩ (.int .i64 ((c : Nat) : Int))).ownsRow C e size u n xs := fun hu =>
    own_set (own_set (own_kept hu k1 (by omega) hqC) (fun e => by have := (hu.lt _ e).1; omega) 4 _) (fun e => by have := (hu.lt _ e).1; omega) 1 _
  refine ⟨rfl, c, ⟨s.arg, s.src, v⟩, hd, ⟨⟨?_, ?_, hc⟩, ⟨?_, hs h.qs.arg, hs h.qs.src, ?_, h.qs.none⟩, hrq, hqC, ?_⟩, (k1.setQ _ _).setR _ _⟩
  · exact ((h.rs.base.trans (hb.mono h.rs.base.size)).setCell (p := ⟨qb, 4, none⟩) (show w0.heap.size ≤ qb by omega) _).setCell (p := ⟨rb, 1, none⟩) hrb _
  · exact ((h.rs.rd.below hb).far (by omega) _ _).set c
  · exact ((h.qs.at_.below hb).set_cond v).far (by omega) _ _
  · exact own_lower (own_set (own_set ho (fun e => by have := (hvl _ e).1; omega) 4 _) (fun e => by have := (hvl _ e).1; omega) 1 _) hCW
  · rw [set_size8, set_size8]; omega

/-! ### argument -/
theorem arg_open {l : List Tok} {q : Qy} {e : Int} {m : List Tok} (h : expP [tLeft] l = (e, m)) (he : e ≠ 0) : argP l q = ⟨e, m, q⟩ := by
  unfold argP needP; rw [h]; exact Prs.then_bad he
theorem arg_expr {l : List Tok} {q : Qy} {m : List Tok} (h : expP [tLeft] l = (0, m)) {e : Int} (h2 : (exprP m).1 = e) (he : e ≠ 0) : argP l q = ⟨e, (exprP m).2.2, withArg q (exprP m).2.1⟩ := by
  unfold argP needP; rw [h, Prs.then_ok rfl, Prs.then_bad (by show (exprP m).1 ≠ 0; rw [h2]; exact he), h2]
theorem arg_close {l : List Tok} {q : Qy} {m : List Tok} (h : expP [tLeft] l = (0, m)) (h2 : (exprP m).1 = 0) {e : Int} {m3 : List Tok} (h3 : expP [tRight] (exprP m).2.2 = (e, m3)) : argP l q = ⟨e, m3, withArg q (exprP m).2.1⟩ := by
  unfold argP needP; rw [h, Prs.then_ok rfl, Prs.then_ok (by exact h2)]; simp only; rw [h3]
/-- One text that is wanted, told by its tokens; the query stays. -/
theorem want_ds (w0 : World) (tv : Value) (ts : List Tok) (rb qb C : Nat) (S : Still w0 tv ts rb) (x : ByteArray) (y : List UInt8) (hxy : x.data.toList = y) (hy : y ≠ []) (W : World) (a : Nat) (s : Sl) (q : Qy) (h : Ds w0 tv ts rb qb C W a s q) (b : Nat) (hb : b = W.heap.size) (e0 : Int) (m : List Tok) (hm : expP [y] (ts.drop a) = (e0, m)) :
    Calls Tryz.prog 73 #[ptr rb, .slice (some ⟨b, 0, none⟩) 1 1] (W.alloc (.cells #[.string x] 9)) (ClEnds w0 tv ts rb qb C W ⟨e0, m, q⟩) := by
  subst hxy
  refine (want_one w0 tv ts rb S x hy W a h.rs b hb).mono ?_
  rintro e W' ⟨rfl, c, h1, h2, h3⟩
  rw [hm] at h1 ⊢
  exact ⟨rfl, c, s, h1, h.on h2 h3, h3.two⟩
set_option maxRecDepth 100000 in
set_option maxHeartbeats 1000000 in
theorem argument_any (w0 : World) (tv : Value) (ts : List Tok) (rb qb C : Nat) (S : Still w0 tv ts rb) (W : World) (a : Nat) (s : Sl) (q : Qy) (h : Ds w0 tv ts rb qb C W a s q) :
    Calls Tryz.prog 75 #[ptr rb, ptr qb] W (ClEnds w0 tv ts rb qb C W (argP (ts.drop a) q)) := by
  have HS := Lib.hid S
  have HD := Lib.hid h
  obtain ⟨e1, m, hx⟩ : ∃ e m, expP [tLeft] (ts.drop a) = (e, m) := ⟨_, _, rfl⟩
  have A := Lib.hid (want_ds w0 tv ts rb qb C S { data := #[40] } tLeft rfl (by decide) W a s q h _ rfl e1 m hx)
  by_cases he : e1 = 0
  · subst he
    obtain ⟨e2, h2⟩ : ∃ e2, (exprP m).1 = e2 := ⟨_, rfl⟩
    by_cases he2 : e2 = 0
    · subst he2
      obtain ⟨e3, m3, h3⟩ : ∃ e m3, expP [tRight] (exprP m).2.2 = (e, m3) := ⟨_, _, rfl⟩
      rw [arg_close hx h2 h3]
      have H2 := Lib.hid h2
      have H3 := Lib.hid h3
      clear h S hx h2 h3
      go_enter Tryz.func75, Tryz.ntmps75
      go_wp2_with fail
      refine A.out.mono ?_
      rintro e w1 ⟨rfl, a1, s1, hm1, hd1, hk1⟩
      have D1 := Lib.hid hd1
      have K1 := Lib.hid hk1
      have M1 := Lib.hid hm1
      clear hd1 hk1 hm1
      go_wp2_with fail
      refine (expr_arg w0 tv ts rb qb C HS.out _ a1 s1 q D1.out).mono ?_
      rintro e w2 ⟨rfl, a2, s2, hm2, hd2, hk2⟩
      have hh := H2.out
      rw [← M1.out] at hh
      have D2 := Lib.hid hd2
      have K2 := Lib.hid (K1.out.steps hk2)
      have M2 : Hid (ts.drop a2 = (exprP (ts.drop a1)).2.2) := Lib.hid hm2
      clear hd2 hk2 hm2
      simp only [hh]
      go_wp2_with fail
      refine (want_ds w0 tv ts rb qb C HS.out { data := #[41] } tRight rfl (by decide) _ a2 s2 _ D2.out _ rfl e3 m3 (by rw [M2.out, M1.out]; exact H3.out)).mono ?_
      rintro e w3 ⟨rfl, a3, s3, hm3, hd3, hk3⟩
      have D3 := Lib.hid hd3
      have K3 := Lib.hid (K2.out.steps hk3)
      have M3 := Lib.hid hm3
      clear hd3 hk3 hm3
      go_wp2_with fail
      go_ret
      exact ⟨rfl, a3, s3, M3.out, by rw [← M1.out]; exact D3.out, K3.out⟩
    · rw [arg_expr hx h2 he2]
      have H2 := Lib.hid h2
      have q2 : (e2 != 0) = true := by rw [bne_iff_ne]; exact he2
      clear h S hx h2 he2
      go_enter Tryz.func75, Tryz.ntmps75
      go_wp2_with fail
      refine A.out.mono ?_
      rintro e w1 ⟨rfl, a1, s1, hm1, hd1, hk1⟩
      have D1 := Lib.hid hd1
      have K1 := Lib.hid hk1
      have M1 := Lib.hid hm1
      clear hd1 hk1 hm1
      go_wp2_with fail
      refine (expr_arg w0 tv ts rb qb C HS.out _ a1 s1 q D1.out).mono ?_
      rintro e w2 ⟨rfl, a2, s2, hm2, hd2, hk2⟩
      have hh := H2.out
      rw [← M1.out] at hh
      have D2 := Lib.hid hd2
      have K2 := Lib.hid (K1.out.steps hk2)
      have M2 : Hid (ts.drop a2 = (exprP (ts.drop a1)).2.2) := Lib.hid hm2
      clear hd2 hk2 hm2
      simp only [hh]
      go_wp2_with fail
      go_ret
      exact ⟨rfl, a2, s2, by rw [M2.out, M1.out], by rw [← M1.out]; exact D2.out, K2.out⟩
  · rw [arg_open hx he]
    have q1 : (e1 != 0) = true := by rw [bne_iff_ne]; exact he
    clear h S hx he
    go_enter Tryz.func75, Tryz.ntmps75
    go_wp2_with fail
    refine A.out.mono ?_
    rintro e w1 ⟨rfl, a1, s1, hm1, hd1, hk1⟩
    have D1 := Lib.hid hd1
    have K1 := Lib.hid hk1
    have M1 := Lib.hid hm1
    clear hd1 hk1 hm1
    go_wp2_with fail
    go_ret
    exact ⟨rfl, a1, s1, M1.out, D1.out, K1.out⟩

/-! ### condition -/
set_option maxRecDepth 100000 in
theorem condition_any (w0 : World) (tv : Value) (ts : List Tok) (rb qb C : Nat) (S : Still w0 tv ts rb) (W : World) (a : Nat) (s : Sl) (q : Qy) (h : Ds w0 tv ts rb qb C W a s q) :
    Calls Tryz.prog 55 #[ptr rb, ptr qb] W (ClEnds w0 tv ts rb qb C W (condP (ts.drop a) q)) := by
  have HS := Lib.hid S
  have HD := Lib.hid h
  by_cases hw : hd (ts.drop a) = tWhere
  · have A := Lib.hid (accept_yes w0 tv ts rb S { data := #[119, 104, 101, 114, 101] } (by decide) W a h.rs hw)
    have E : condP (ts.drop a) q = ⟨(exprP (ts.drop (a + 1))).1, (exprP (ts.drop (a + 1))).2.2, withCond q (exprP (ts.drop (a + 1))).2.1⟩ := by unfold condP; rw [if_pos hw, tail_drop]
    rw [E]
    clear h S hw E
    go_enter Tryz.func55, Tryz.ntmps55
    go_wp2_with fail
    refine A.out.mono ?_
    rintro e w1 ⟨rfl, hr1, hk1⟩
    have D1 := Lib.hid (HD.out.on hr1 hk1)
    have K1 : Hid (Kept W.heap.size rb qb W w1) := Lib.hid hk1.two
    clear hr1 hk1
    go_wp2_with fail
    refine (expr_cond w0 tv ts rb qb C HS.out _ _ s q D1.out).mono ?_
    rintro e w2 ⟨rfl, a2, s2, hm2, hd2, hk2⟩
    have D2 := Lib.hid hd2
    have K2 := Lib.hid (K1.out.steps hk2)
    have M2 := Lib.hid hm2
    clear hd2 hk2 hm2
    go_wp2_with fail
    go_ret
    exact ⟨rfl, a2, s2, M2.out, D2.out, K2.out⟩
  · have A := Lib.hid (accept_no w0 tv ts rb S { data := #[119, 104, 101, 114, 101] } W a h.rs hw)
    have E : condP (ts.drop a) q = ⟨0, ts.drop a, q⟩ := by unfold condP; rw [if_neg hw]
    rw [E]
    clear h S hw E
    go_enter Tryz.func55, Tryz.ntmps55
    go_wp2_with fail
    refine A.out.mono ?_
    rintro e w1 ⟨rfl, hr1, hk1⟩
    have D1 := Lib.hid (HD.out.on hr1 hk1)
    have K1 : Hid (Kept W.heap.size rb qb W w1) := Lib.hid hk1.two
    clear hr1 hk1
    go_wp2_with fail
    go_ret
    exact ⟨rfl, a, s, rfl, D1.out, K1.out⟩
end Go.Proofs.YtdinaedknlkicaaGreatDoor.ParserW
/-
  Contracts of package parser at the landed code (layer 9): aggregate, sources, window, key, late.
-/
namespace Go.Proofs.YtdinaedknlkicaaGreatDoor.ParserW
open Nodes Exprs ExprW Prs
open Go.ChangeShapes Go.WideShapes Go.ChangeAt Go.RowKit

theorem agg_first {l : List Tok} {q : Qy} {e : Int} {m : List Tok} (h : expP [tSelect] l = (e, m)) (he : e ≠ 0) : aggP l q = ⟨e, m, q⟩ := by
  unfold aggP needP; rw [h]; exact Prs.then_bad he
theorem agg_then {l : List Tok} {q : Qy} {m : List Tok} (h : expP [tSelect] l = (0, m)) : aggP l q = (if hd m = tCount then needP [tLeft, tStar, tRight] m.tail (withAgg q 1)
    else if hd m = tSum then argP m.tail (withAgg q 2)
    else if hd m = tMin then argP m.tail (withAgg q 3)
    else if hd m = tMax then argP m.tail (withAgg q 4)
    else ⟨12, m, q⟩) := by
  unfold aggP
  have e : needP [tSelect] l q = ⟨0, m, q⟩ := by unfold needP; rw [h]
  rw [e, Prs.then_ok rfl]
/-- Three texts that are wanted. -/
theorem want_three (w0 : World) (tv : Value) (ts : List Tok) (rb qb C : Nat) (S : Still w0 tv ts rb) (W : World) (a : Nat) (s : Sl) (q : Qy) (h : Ds w0 tv ts rb qb C W a s q) (b : Nat) (hb : b = W.heap.size) (l : List Tok) (hl : ts.drop a = l) :
    Calls Tryz.prog 73 #[ptr rb, .slice (some ⟨b, 0, none⟩) 3 3] (W.alloc (.cells #[.string { data := #[40] }, .string { data := #[42] }, .string { data := #[41] }] 9)) (ClEnds w0 tv ts rb qb C W (needP [tLeft, tStar, tRight] l q)) := by
  subst hl
  refine (expect_any w0 tv ts rb S [tLeft, tStar, tRight] (by decide) 3 rfl (by decide) _ a b (h.rs.alloc _) (strs_three W ⟨#[40]⟩ ⟨#[42]⟩ ⟨#[41]⟩ b hb) (by have := h.rs.rd.lt; omega)).mono ?_
  rintro e W' ⟨rfl, c, h1, h2, h3⟩
  have k : Kept W.heap.size rb rb W W' := ((Kept.refl _ _ _ _).alloc (Nat.le_refl _) _).step h3 (Nat.le_refl _)
  exact ⟨rfl, c, s, h1, h.on h2 k, k.two⟩

set_option maxRecDepth 100000 in
set_option maxHeartbeats 1000000 in
theorem aggregate_any (w0 : World) (tv : Value) (ts : List Tok) (rb qb C : Nat) (S : Still w0 tv ts rb) (W : World) (a : Nat) (s : Sl) (q : Qy) (h : Ds w0 tv ts rb qb C W a s q) :
    Calls Tryz.prog 53 #[ptr rb, ptr qb] W (ClEnds w0 tv ts rb qb C W (aggP (ts.drop a) q)) := by
  have HS := Lib.hid S
  obtain ⟨e1, m, hx⟩ : ∃ e m, expP [tSelect] (ts.drop a) = (e, m) := ⟨_, _, rfl⟩
  have A := Lib.hid (want_ds w0 tv ts rb qb C S { data := #[115, 101, 108, 101, 99, 116] } tSelect rfl (by decide) W a s q h _ rfl e1 m hx)
  by_cases he : e1 = 0
  · subst he
    rw [agg_then hx]
    clear h S hx
    by_cases g0 : hd m = tCount
    · rw [if_pos g0]
      have G0 := Lib.hid g0
      clear g0
      go_enter Tryz.func53, Tryz.ntmps53
      go_wp2_with fail
      refine A.out.mono ?_
      rintro e w1 ⟨rfl, a1, s1, hm, hd, hk⟩
      have D1 := Lib.hid hd
      have K1 := Lib.hid hk
      have M1 := Lib.hid hm
      clear hd hk hm
      go_wp2_with fail
      refine (accept_yes w0 tv ts rb HS.out { data := #[99, 111, 117, 110, 116] } (by decide) _ a1 D1.out.rs (by rw [M1.out]; exact G0.out)).mono ?_
      rintro e w2 ⟨rfl, hr, hk⟩
      have D2 := Lib.hid (D1.out.on hr hk)
      have K2 : Hid (Kept W.heap.size rb qb W w2) := Lib.hid (K1.out.steps hk.two)
      clear hr hk
      have f0 := D2.out.qs.at_.frz 0
      have c0 := D2.out.qs.at_.cells.1
      have DS := Lib.hid (D2.out.put HS.out 0 _ (D2.out.qs.at_.set_agg 1) rfl rfl rfl)
      have KS := Lib.hid (K2.out.setQ 0 (.int .u8 1))
      have VS : Hid ((w2.setCell ⟨qb, 0, none⟩ (.int .u8 1)).heap.size = w2.heap.size) := Lib.hid (set_size8 _ _ _)
      go_wp2_with fail
      refine (want_three w0 tv ts rb qb C HS.out _ (a1 + 1) s1 _ DS.out _ VS.out.symm m.tail (by rw [← M1.out, tail_drop])).mono ?_
      rintro e wz ⟨rfl, az, sz, hm, hd, hk⟩
      have DZ := Lib.hid hd
      have KZ := Lib.hid (KS.out.step hk (Nat.le_refl _))
      have MZ := Lib.hid hm
      clear hd hk hm f0 c0
      go_wp2_with fail
      go_ret
      exact ⟨rfl, az, sz, MZ.out, DZ.out, KZ.out⟩
    rw [if_neg g0]
    by_cases g1 : hd m = tSum
    · rw [if_pos g1]
      have G0 := Lib.hid g0
      have G1 := Lib.hid g1
      clear g0 g1
      go_enter Tryz.func53, Tryz.ntmps53
      go_wp2_with fail
      refine A.out.mono ?_
      rintro e w1 ⟨rfl, a1, s1, hm, hd, hk⟩
      have D1 := Lib.hid hd
      have K1 := Lib.hid hk
      have M1 := Lib.hid hm
      clear hd hk hm
      go_wp2_with fail
      refine (accept_no w0 tv ts rb HS.out { data := #[99, 111, 117, 110, 116] } _ a1 D1.out.rs (by rw [M1.out]; exact G0.out)).mono ?_
      rintro e w2 ⟨rfl, hr, hk⟩
      have D2 := Lib.hid (D1.out.on hr hk)
      have K2 : Hid (Kept W.heap.size rb qb W w2) := Lib.hid (K1.out.steps hk.two)
      clear hr hk
      go_wp2_with fail
      refine (accept_yes w0 tv ts rb HS.out { data := #[115, 117, 109] } (by decide) _ a1 D2.out.rs (by rw [M1.out]; exact G1.out)).mono ?_
      rintro e w3 ⟨rfl, hr, hk⟩
      have D3 := Lib.hid (D2.out.on hr hk)
      have K3 : Hid (Kept W.heap.size rb qb W w3) := Lib.hid (K2.out.steps hk.two)
      clear hr hk
      have f0 := D3.out.qs.at_.frz 0
      have c0 := D3.out.qs.at_.cells.1
      have DS := Lib.hid (D3.out.put HS.out 0 _ (D3.out.qs.at_.set_agg 2) rfl rfl rfl)
      have KS := Lib.hid (K3.out.setQ 0 (.int .u8 2))
      have VS : Hid ((w3.setCell ⟨qb, 0, none⟩ (.int .u8 2)).heap.size = w3.heap.size) := Lib.hid (set_size8 _ _ _)
      go_wp2_with fail
      refine (argument_any w0 tv ts rb qb C HS.out _ (a1 + 1) s1 _ DS.out).mono ?_
      rintro e wz ⟨rfl, az, sz, hm, hd, hk⟩
      have DZ := Lib.hid hd
      have KZ := Lib.hid (KS.out.step hk (Nat.le_refl _))
      have MZ := Lib.hid hm
      clear hd hk hm f0 c0
      go_wp2_with fail
      go_ret
      rw [← M1.out, tail_drop]
      exact ⟨rfl, az, sz, MZ.out, DZ.out, KZ.out⟩
    rw [if_neg g1]
    by_cases g2 : hd m = tMin
    · rw [if_pos g2]
      have G0 := Lib.hid g0
      have G1 := Lib.hid g1
      have G2 := Lib.hid g2
      clear g0 g1 g2
      go_enter Tryz.func53, Tryz.ntmps53
      go_wp2_with fail
      refine A.out.mono ?_
      rintro e w1 ⟨rfl, a1, s1, hm, hd, hk⟩
      have D1 := Lib.hid hd
      have K1 := Lib.hid hk
      have M1 := Lib.hid hm
      clear hd hk hm
      go_wp2_with fail
      refine (accept_no w0 tv ts rb HS.out { data := #[99, 111, 117, 110, 116] } _ a1 D1.out.rs (by rw [M1.out]; exact G0.out)).mono ?_
      rintro e w2 ⟨rfl, hr, hk⟩
      have D2 := Lib.hid (D1.out.on hr hk)
      have K2 : Hid (Kept W.heap.size rb qb W w2) := Lib.hid (K1.out.steps hk.two)
      clear hr hk
      go_wp2_with fail
      refine (accept_no w0 tv ts rb HS.out { data := #[115, 117, 109] } _ a1 D2.out.rs (by rw [M1.out]; exact G1.out)).mono ?_
      rintro e w3 ⟨rfl, hr, hk⟩
      have D3 := Lib.hid (D2.out.on hr hk)
      have K3 : Hid (Kept W.heap.size rb qb W w3) := Lib.hid (K2.out.steps hk.two)
      clear hr hk
      go_wp2_with fail
      refine (accept_yes w0 tv ts rb HS.out { data := #[109, 105, 110] } (by decide) _ a1 D3.out.rs (by rw [M1.out]; exact G2.out)).mono ?_
      rintro e w4 ⟨rfl, hr, hk⟩
      have D4 := Lib.hid (D3.out.on hr hk)
      have K4 : Hid (Kept W.heap.size rb qb W w4) := Lib.hid (K3.out.steps hk.two)
      clear hr hk
      have f0 := D4.out.qs.at_.frz 0
      have c0 := D4.out.qs.at_.cells.1
      have DS := Lib.hid (D4.out.put HS.out 0 _ (D4.out.qs.at_.set_agg 3) rfl rfl rfl)
      have KS := Lib.hid (K4.out.setQ 0 (.int .u8 3))
      have VS : Hid ((w4.setCell ⟨qb, 0, none⟩ (.int .u8 3)).heap.size = w4.heap.size) := Lib.hid (set_size8 _ _ _)
      go_wp2_with fail
      refine (argument_any w0 tv ts rb qb C HS.out _ (a1 + 1) s1 _ DS.out).mono ?_
      rintro e wz ⟨rfl, az, sz, hm, hd, hk⟩
      have DZ := Lib.hid hd
      have KZ := Lib.hid (KS.out.step hk (Nat.le_refl _))
      have MZ := Lib.hid hm
      clear hd hk hm f0 c0
      go_wp2_with fail
      go_ret
      rw [← M1.out, tail_drop]
      exact ⟨rfl, az, sz, MZ.out, DZ.out, KZ.out⟩
    rw [if_neg g2]
    by_cases g3 : hd m = tMax
    · rw [if_pos g3]
      have G0 := Lib.hid g0
      have G1 := Lib.hid g1
      have G2 := Lib.hid g2
      have G3 := Lib.hid g3
      clear g0 g1 g2 g3
      go_enter Tryz.func53, Tryz.ntmps53
      go_wp2_with fail
      refine A.out.mono ?_
      rintro e w1 ⟨rfl, a1, s1, hm, hd, hk⟩
      have D1 := Lib.hid hd
      have K1 := Lib.hid hk
      have M1 := Lib.hid hm
      clear hd hk hm
      go_wp2_with fail
      refine (accept_no w0 tv ts rb HS.out { data := #[99, 111, 117, 110, 116] } _ a1 D1.out.rs (by rw [M1.out]; exact G0.out)).mono ?_
      rintro e w2 ⟨rfl, hr, hk⟩
      have D2 := Lib.hid (D1.out.on hr hk)
      have K2 : Hid (Kept W.heap.size rb qb W w2) := Lib.hid (K1.out.steps hk.two)
      clear hr hk
      go_wp2_with fail
      refine (accept_no w0 tv ts rb HS.out { data := #[115, 117, 109] } _ a1 D2.out.rs (by rw [M1.out]; exact G1.out)).mono ?_
      rintro e w3 ⟨rfl, hr, hk⟩
      have D3 := Lib.hid (D2.out.on hr hk)
      have K3 : Hid (Kept W.heap.size rb qb W w3) := Lib.hid (K2.out.steps hk.two)
      clear hr hk
      go_wp2_with fail
      refine (accept_no w0 tv ts rb HS.out { data := #[109, 105, 110] } _ a1 D3.out.rs (by rw [M1.out]; exact G2.out)).mono ?_
      rintro e w4 ⟨rfl, hr, hk⟩
      have D4 := Lib.hid (D3.out.on hr hk)
      have K4 : Hid (Kept W.heap.size rb qb W w4) := Lib.hid (K3.out.steps hk.two)
      clear hr hk
      go_wp2_with fail
      refine (accept_yes w0 tv ts rb HS.out { data := #[109, 97, 120] } (by decide) _ a1 D4.out.rs (by rw [M1.out]; exact G3.out)).mono ?_
      rintro e w5 ⟨rfl, hr, hk⟩
      have D5 := Lib.hid (D4.out.on hr hk)
      have K5 : Hid (Kept W.heap.size rb qb W w5) := Lib.hid (K4.out.steps hk.two)
      clear hr hk
      have f0 := D5.out.qs.at_.frz 0
      have c0 := D5.out.qs.at_.cells.1
      have DS := Lib.hid (D5.out.put HS.out 0 _ (D5.out.qs.at_.set_agg 4) rfl rfl rfl)
      have KS := Lib.hid (K5.out.setQ 0 (.int .u8 4))
      have VS : Hid ((w5.setCell ⟨qb, 0, none⟩ (.int .u8 4)).heap.size = w5.heap.size) := Lib.hid (set_size8 _ _ _)
      go_wp2_with fail
      refine (argument_any w0 tv ts rb qb C HS.out _ (a1 + 1) s1 _ DS.out).mono ?_
      rintro e wz ⟨rfl, az, sz, hm, hd, hk⟩
      have DZ := Lib.hid hd
      have KZ := Lib.hid (KS.out.step hk (Nat.le_refl _))
      have MZ := Lib.hid hm
      clear hd hk hm f0 c0
      go_wp2_with fail
      go_ret
      rw [← M1.out, tail_drop]
      exact ⟨rfl, az, sz, MZ.out, DZ.out, KZ.out⟩
    rw [if_neg g3]
    have G0 := Lib.hid g0
    have G1 := Lib.hid g1
    have G2 := Lib.hid g2
    have G3 := Lib.hid g3
    clear g0 g1 g2 g3
    go_enter Tryz.func53, Tryz.ntmps53
    go_wp2_with fail
    refine A.out.mono ?_
    rintro e w1 ⟨rfl, a1, s1, hm, hd, hk⟩
    have D1 := Lib.hid hd
    have K1 := Lib.hid hk
    have M1 := Lib.hid hm
    clear hd hk hm
    go_wp2_with fail
    refine (accept_no w0 tv ts rb HS.out { data := #[99, 111, 117, 110, 116] } _ a1 D1.out.rs (by rw [M1.out]; exact G0.out)).mono ?_
    rintro e w2 ⟨rfl, hr, hk⟩
    have D2 := Lib.hid (D1.out.on hr hk)
    have K2 : Hid (Kept W.heap.size rb qb W w2) := Lib.hid (K1.out.steps hk.two)
    clear hr hk
    go_wp2_with fail
    refine (accept_no w0 tv ts rb HS.out { data := #[115, 117, 109] } _ a1 D2.out.rs (by rw [M1.out]; exact G1.out)).mono ?_
    rintro e w3 ⟨rfl, hr, hk⟩
    have D3 := Lib.hid (D2.out.on hr hk)
    have K3 : Hid (Kept W.heap.size rb qb W w3) := Lib.hid (K2.out.steps hk.two)
    clear hr hk
    go_wp2_with fail
    refine (accept_no w0 tv ts rb HS.out { data := #[109, 105, 110] } _ a1 D3.out.rs (by rw [M1.out]; exact G2.out)).mono ?_
    rintro e w4 ⟨rfl, hr, hk⟩
    have D4 := Lib.hid (D3.out.on hr hk)
    have K4 : Hid (Kept W.heap.size rb qb W w4) := Lib.hid (K3.out.steps hk.two)
    clear hr hk
    go_wp2_with fail
    refine (accept_no w0 tv ts rb HS.out { data := #[109, 97, 120] } _ a1 D4.out.rs (by rw [M1.out]; exact G3.out)).mono ?_
    rintro e w5 ⟨rfl, hr, hk⟩
    have D5 := Lib.hid (D4.out.on hr hk)
    have K5 : Hid (Kept W.heap.size rb qb W w5) := Lib.hid (K4.out.steps hk.two)
    clear hr hk
    go_wp2_with fail
    go_ret
    exact ⟨rfl, a1, s1, M1.out, D5.out, K5.out⟩
  · rw [agg_first hx he]
    have q1 : (e1 != 0) = true := by rw [bne_iff_ne]; exact he
    clear h S hx he
    go_enter Tryz.func53, Tryz.ntmps53
    go_wp2_with fail
    refine A.out.mono ?_
    rintro e w1 ⟨rfl, a1, s1, hm, hd, hk⟩
    have D1 := Lib.hid hd
    have K1 := Lib.hid hk
    have M1 := Lib.hid hm
    clear hd hk hm
    go_wp2_with fail
    go_ret
    exact ⟨rfl, a1, s1, M1.out, D1.out, K1.out⟩
/-! ### key, late -/
set_option maxRecDepth 100000 in
set_option maxHeartbeats 1000000 in
theorem key_any (w0 : World) (tv : Value) (ts : List Tok) (rb qb C : Nat) (S : Still w0 tv ts rb) (W : World) (a : Nat) (s : Sl) (q : Qy) (h : Ds w0 tv ts rb qb C W a s q) :
    Calls Tryz.prog 57 #[ptr rb, ptr qb] W (ClEnds w0 tv ts rb qb C W (keyP (ts.drop a) q)) := by
  have HS := Lib.hid S
  have D0 := Lib.hid h
  by_cases hw : hd (ts.drop a) = tBy
  · have A := Lib.hid (accept_yes w0 tv ts rb S { data := #[98, 121] } (by decide) W a h.rs hw)
    obtain ⟨e1, m, hx⟩ : ∃ e m, expP [tKey] (ts.drop (a + 1)) = (e, m) := ⟨_, _, rfl⟩
    have E : keyP (ts.drop a) q = ⟨e1, m, withKey q true⟩ := by unfold keyP needP; rw [if_pos hw, tail_drop, hx]
    rw [E]
    have HX := Lib.hid hx
    clear h S hw E hx
    go_enter Tryz.func57, Tryz.ntmps57
    go_wp2_with fail
    refine A.out.mono ?_
    rintro e w1 ⟨rfl, hr, hk⟩
    have D1 := Lib.hid (D0.out.on hr hk)
    have K1 : Hid (Kept W.heap.size rb qb W w1) := Lib.hid hk.two
    clear hr hk
    have f8 := D1.out.qs.at_.frz 8
    have c8 := D1.out.qs.at_.cells.2.2.2.2.2.2.2.2.1
    have DS := Lib.hid (D1.out.put HS.out 8 _ (D1.out.qs.at_.set_key true) rfl rfl rfl)
    have KS := Lib.hid (K1.out.setQ 8 (.bool true))
    have VS : Hid ((w1.setCell ⟨qb, 8, none⟩ (.bool true)).heap.size = w1.heap.size) := Lib.hid (set_size8 _ _ _)
    go_wp2_with fail
    refine (want_ds w0 tv ts rb qb C HS.out { data := #[107, 101, 121] } tKey rfl (by decide) _ (a + 1) s _ DS.out _ VS.out.symm e1 m HX.out).mono ?_
    rintro e wz ⟨rfl, az, sz, hm, hd, hk⟩
    have DZ := Lib.hid hd
    have KZ := Lib.hid (KS.out.step hk (Nat.le_refl _))
    have MZ := Lib.hid hm
    clear hd hk hm f8 c8
    go_wp2_with fail
    go_ret
    exact ⟨rfl, az, sz, MZ.out, DZ.out, KZ.out⟩
  · have A := Lib.hid (accept_no w0 tv ts rb S { data := #[98, 121] } W a h.rs hw)
    have E : keyP (ts.drop a) q = ⟨0, ts.drop a, q⟩ := by unfold keyP; rw [if_neg hw]
    rw [E]
    clear h S hw E
    go_enter Tryz.func57, Tryz.ntmps57
    go_wp2_with fail
    refine A.out.mono ?_
    rintro e w1 ⟨rfl, hr, hk⟩
    have D1 := Lib.hid (D0.out.on hr hk)
    have K1 : Hid (Kept W.heap.size rb qb W w1) := Lib.hid hk.two
    clear hr hk
    go_wp2_with fail
    go_ret
    exact ⟨rfl, a, s, rfl, D1.out, K1.out⟩
set_option maxRecDepth 100000 in
set_option maxHeartbeats 1000000 in
theorem late_any (w0 : World) (tv : Value) (ts : List Tok) (rb qb C : Nat) (S : Still w0 tv ts rb) (W : World) (a : Nat) (s : Sl) (q : Qy) (h : Ds w0 tv ts rb qb C W a s q) :
    Calls Tryz.prog 58 #[ptr rb, ptr qb] W (ClEnds w0 tv ts rb qb C W (lateP (ts.drop a) q)) := by
  have HS := Lib.hid S
  have f9 := h.qs.at_.frz 9
  have c9 := h.qs.at_.cells.2.2.2.2.2.2.2.2.2
  have D0 := Lib.hid (h.put S 9 _ (h.qs.at_.set_late 1) rfl rfl rfl)
  have K0 : Hid (Kept W.heap.size rb qb W (W.setCell ⟨qb, 9, none⟩ (.int .u8 1))) := Lib.hid ((Kept.refl _ _ _ _).setQ 9 _)
  by_cases hw : hd (ts.drop a) = tLate
  · have G := Lib.hid hw
    by_cases hw2 : hd (ts.drop (a + 1)) = tDrop
    · have G2 := Lib.hid hw2
      have E : lateP (ts.drop a) q = ⟨0, ts.drop (a + 1 + 1), withLate q 1⟩ := by unfold lateP; rw [if_pos hw, tail_drop, if_pos hw2, tail_drop]
      rw [E]
      clear h S hw hw2 E
      go_enter Tryz.func58, Tryz.ntmps58
      go_wp2_with fail
      refine (accept_yes w0 tv ts rb HS.out { data := #[108, 97, 116, 101] } (by decide) _ a D0.out.rs G.out).mono ?_
      rintro e w1 ⟨rfl, hr, hk⟩
      have D1 := Lib.hid (D0.out.on hr hk)
      have K1 : Hid (Kept W.heap.size rb qb W w1) := Lib.hid (K0.out.steps hk.two)
      clear hr hk
      go_wp2_with fail
      refine (accept_yes w0 tv ts rb HS.out { data := #[100, 114, 111, 112] } (by decide) _ (a + 1) D1.out.rs G2.out).mono ?_
      rintro e w2 ⟨rfl, hr, hk⟩
      have D2 := Lib.hid (D1.out.on hr hk)
      have K2 : Hid (Kept W.heap.size rb qb W w2) := Lib.hid (K1.out.steps hk.two)
      clear hr hk
      go_wp2_with fail
      go_ret
      exact ⟨rfl, a + 1 + 1, s, rfl, D2.out, K2.out⟩
    · have G2 := Lib.hid hw2
      obtain ⟨e1, m, hx⟩ : ∃ e m, expP [tSide] (ts.drop (a + 1)) = (e, m) := ⟨_, _, rfl⟩
      have E : lateP (ts.drop a) q = ⟨e1, m, withLate q 2⟩ := by unfold lateP needP; rw [if_pos hw, tail_drop, if_neg hw2, hx]
      rw [E]
      have HX := Lib.hid hx
      clear h S hw hw2 E hx
      go_enter Tryz.func58, Tryz.ntmps58
      go_wp2_with fail
      refine (accept_yes w0 tv ts rb HS.out { data := #[108, 97, 116, 101] } (by decide) _ a D0.out.rs G.out).mono ?_
      rintro e w1 ⟨rfl, hr, hk⟩
      have D1 := Lib.hid (D0.out.on hr hk)
      have K1 : Hid (Kept W.heap.size rb qb W w1) := Lib.hid (K0.out.steps hk.two)
      clear hr hk
      clear f9 c9
      go_wp2_with fail
      refine (accept_no w0 tv ts rb HS.out { data := #[100, 114, 111, 112] } _ (a + 1) D1.out.rs G2.out).mono ?_
      rintro e w2 ⟨rfl, hr, hk⟩
      have D2 := Lib.hid (D1.out.on hr hk)
      have K2 : Hid (Kept W.heap.size rb qb W w2) := Lib.hid (K1.out.steps hk.two)
      clear hr hk
      have f9 := D2.out.qs.at_.frz 9
      have c9 := D2.out.qs.at_.cells.2.2.2.2.2.2.2.2.2
      have DS := Lib.hid (D2.out.put HS.out 9 _ (D2.out.qs.at_.set_late 2) rfl rfl rfl)
      have KS := Lib.hid (K2.out.setQ 9 (.int .u8 2))
      have VS : Hid ((w2.setCell ⟨qb, 9, none⟩ (.int .u8 2)).heap.size = w2.heap.size) := Lib.hid (set_size8 _ _ _)
      go_wp2_with fail
      refine (want_ds w0 tv ts rb qb C HS.out { data := #[115, 105, 100, 101] } tSide rfl (by decide) _ (a + 1) s _ DS.out _ VS.out.symm e1 m HX.out).mono ?_
      rintro e wz ⟨rfl, az, sz, hm, hd, hk⟩
      have DZ := Lib.hid hd
      have KZ := Lib.hid (KS.out.step hk (Nat.le_refl _))
      have MZ := Lib.hid hm
      clear hd hk hm f9 c9
      go_wp2_with fail
      go_ret
      exact ⟨rfl, az, sz, MZ.out, DZ.out, KZ.out⟩
  · have G := Lib.hid hw
    have E : lateP (ts.drop a) q = ⟨0, ts.drop a, withLate q 1⟩ := by unfold lateP; rw [if_neg hw]
    rw [E]
    clear h S hw E
    go_enter Tryz.func58, Tryz.ntmps58
    go_wp2_with fail
    refine (accept_no w0 tv ts rb HS.out { data := #[108, 97, 116, 101] } _ a D0.out.rs G.out).mono ?_
    rintro e w1 ⟨rfl, hr, hk⟩
    have D1 := Lib.hid (D0.out.on hr hk)
    have K1 : Hid (Kept W.heap.size rb qb W w1) := Lib.hid (K0.out.steps hk.two)
    clear hr hk
    go_wp2_with fail
    go_ret
    exact ⟨rfl, a, s, rfl, D1.out, K1.out⟩
end Go.Proofs.YtdinaedknlkicaaGreatDoor.ParserW
/-
  Contracts of package parser at the landed code (layer 9): sources.
-/
namespace Go.Proofs.YtdinaedknlkicaaGreatDoor.ParserW
open Nodes Exprs ExprW Prs
open Go.ChangeShapes Go.WideShapes Go.ChangeAt Go.RowKit

theorem ds_ss {w0 : World} {tv : Value} {ts : List Tok} {rb qb C : Nat} {W : World} {a : Nat} {s : Sl} {q : Qy} (h : Ds w0 tv ts rb qb C W a s q) (h0 : q.src = []) : Ss w0 tv ts rb qb W.heap.size W a s q :=
  ⟨h.rs, h.qs.at_, by rw [h.qs.none h0, h0]; exact World.ownsRow_nil _ _ _ _, h.qs.none, h.rq, Nat.lt_of_lt_of_le h.qC h.CW, Nat.le_refl _⟩
theorem ss_ds {w0 : World} {tv : Value} {ts : List Tok} {rb qb C : Nat} {W W' : World} {a a' : Nat} {s : Sl} {q q' : Qy} {v : Value} (h : Ds w0 tv ts rb qb C W a s q) (k : Kept W.heap.size rb qb W W') (hs : Ss w0 tv ts rb qb W.heap.size W' a' ⟨s.arg, v, s.cond⟩ q') (h1 : q'.arg = q.arg) (h2 : q'.cond = q.cond) : Ds w0 tv ts rb qb C W' a' ⟨s.arg, v, s.cond⟩ q' := by
  have hrq := h.rq
  have hqC := h.qC
  refine ⟨hs.rs, ⟨hs.at_, ?_, own_lower hs.src h.CW, ?_, hs.none⟩, hrq, hqC, Nat.le_trans h.CW k.size⟩
  · rw [h1]; exact own_kept h.qs.arg k (by omega) hqC
  · rw [h2]; exact own_kept h.qs.cond k (by omega) hqC
theorem ss_put {w0 : World} {tv : Value} {ts : List Tok} {rb qb B : Nat} {W : World} {a : Nat} {s : Sl} {q q' : Qy} (h : Ss w0 tv ts rb qb B W a s q) (S : Still w0 tv ts rb) (j : Nat) (v : Value) (ha : QyAt (W.setCell ⟨qb, j, none⟩ v) qb s q') (h2 : q'.src = q.src) : Ss w0 tv ts rb qb B (W.setCell ⟨qb, j, none⟩ v) a s q' := by
  have hrq := h.rq
  have hqB := h.qB
  have hrb := S.rb
  refine ⟨⟨h.rs.base.setCell (show w0.heap.size ≤ qb by omega) _, h.rs.rd.far (by omega) _ _, h.rs.le⟩, ha, ?_, by rw [h2]; exact h.none, hrq, hqB, by rw [set_size8]; exact h.BW⟩
  rw [h2]
  exact own_set h.src (fun e => by have := (h.src.lt _ e).1; omega) j _
theorem from_first {l : List Tok} {q : Qy} {e : Int} {m : List Tok} (h : expP [tFrom] l = (e, m)) (he : e ≠ 0) : fromP l q = ⟨e, m, q⟩ := by
  unfold fromP needP; rw [h]; exact Prs.then_bad he
theorem from_then {l : List Tok} {q : Qy} {m : List Tok} (h : expP [tFrom] l = (0, m)) : fromP l q = (srcP m q).then fun l q => if hd l = tJoin then srcP l.tail (withJoin q true) else unionsP l.length l q := by
  unfold fromP
  have e : needP [tFrom] l q = ⟨0, m, q⟩ := by unfold needP; rw [h]
  rw [e, Prs.then_ok rfl]
theorem unions_end {f : Nat} {l : List Tok} {q : Qy} (h : hd l ≠ tUnion) : unionsP f l q = ⟨0, l, q⟩ := by
  cases f with
  | zero => rfl
  | succ f => exact if_neg h
theorem unions_one {f : Nat} {l : List Tok} {q : Qy} (h : hd l = tUnion) : unionsP (f + 1) l q = (srcP l.tail q).then (unionsP f) := if_pos h
/-- The loop over unions: how it is at its head. -/
structure UnSt (w0 : World) (tv : Value) (ts : List Tok) (rb qb B : Nat) (W : World) (s : Sl) (q : Qy) (R : Out) (g : Nat) (wx : World) (c : Nat) (v : Value) (q' : Qy) : Prop where
  out : unionsP g (ts.drop c) q' = R
  len : (ts.drop c).length ≤ g
  ss : Ss w0 tv ts rb qb B wx c ⟨s.arg, v, s.cond⟩ q'
  kept : Kept B rb qb W wx
  right : RightS q'.src
  arg : q'.arg = q.arg
  cond : q'.cond = q.cond
set_option maxRecDepth 100000 in
set_option maxHeartbeats 2000000 in
theorem sources_any (w0 : World) (tv : Value) (ts : List Tok) (rb qb C : Nat) (S : Still w0 tv ts rb) (W : World) (a : Nat) (s : Sl) (q : Qy) (h : Ds w0 tv ts rb qb C W a s q) (h0 : q.src = []) :
    Calls Tryz.prog 54 #[ptr rb, ptr qb] W (ClEnds w0 tv ts rb qb C W (fromP (ts.drop a) q)) := by
  have HS := Lib.hid S
  obtain ⟨e1, m, hx⟩ : ∃ e m, expP [tFrom] (ts.drop a) = (e, m) := ⟨_, _, rfl⟩
  have A := Lib.hid (want_ds w0 tv ts rb qb C S { data := #[102, 114, 111, 109] } tFrom rfl (by decide) W a s q h _ rfl e1 m hx)
  by_cases he : e1 = 0
  · subst he
    rw [from_then hx]
    have s1 := src_law m q
    obtain ⟨x1, hx1⟩ := s1.frame
    have r1 := s1.right (by rw [h0]; exact right_nil)
    by_cases he2 : (srcP m q).e = 0
    · rw [Prs.then_ok he2]
      obtain ⟨l2, hl2⟩ : ∃ l2, (srcP m q).l = l2 := ⟨_, rfl⟩
      obtain ⟨q2, hq2⟩ : ∃ q2, (srcP m q).q = q2 := ⟨_, rfl⟩
      have e2 : srcP m q = ⟨0, l2, q2⟩ := by rw [← hl2, ← hq2, ← he2]
      rw [hl2, hq2]
      rw [hq2] at hx1 r1
      have HE2 := Lib.hid e2
      have HR1 := Lib.hid r1
      have HX1 : Hid (q2.arg = q.arg ∧ q2.cond = q.cond) := Lib.hid (by rw [hx1]; exact ⟨rfl, rfl⟩)
      have H0 := Lib.hid h0
      by_cases hj : hd l2 = tJoin
      · rw [if_pos hj]
        have HJ := Lib.hid hj
        obtain ⟨o, ho⟩ : ∃ o, srcP l2.tail (withJoin q2 true) = o := ⟨_, rfl⟩
        have FR : Hid (o.q.arg = q.arg ∧ o.q.cond = q.cond) := Lib.hid (by
          obtain ⟨x3, hx3⟩ := (src_law l2.tail (withJoin q2 true)).frame
          rw [ho] at hx3
          rw [hx3]; exact HX1.out)
        rw [ho]
        have HO := Lib.hid ho
        clear h S h0 hx s1 he2 hl2 hq2 e2 hx1 r1 hj ho
        go_enter Tryz.func54, Tryz.ntmps54
        go_wp2_with fail
        refine A.out.mono ?_
        rintro e w1 ⟨rfl, a1, s1, hm, hd, hk⟩
        have D1 := Lib.hid hd
        have K1 := Lib.hid hk
        have M1 := Lib.hid hm
        clear hd hk hm
        go_wp2_with fail
        refine (source_any w0 tv ts rb qb w1.heap.size HS.out _ a1 s1 q (ds_ss D1.out H0.out) (by rw [H0.out]; exact Nat.zero_le _)).mono ?_
        rintro e w2 ⟨rfl, a2, v2, hm, hd, hk⟩
        have hh := HE2.out
        have hm1 : ts.drop a1 = m := M1.out
        rw [← hm1] at hh
        rw [hh] at hm hd ⊢
        have D2 := Lib.hid hd
        have K2 := Lib.hid hk
        have M2 := Lib.hid hm
        clear hd hk hm hh hm1
        go_wp2_with fail
        refine (accept_yes w0 tv ts rb HS.out { data := #[106, 111, 105, 110] } (by decide) _ a2 D2.out.rs (by rw [M2.out]; exact HJ.out)).mono ?_
        rintro e w3 ⟨rfl, hr, hk⟩
        have D3 := Lib.hid (D2.out.on hr hk)
        have K3 := Lib.hid (K2.out.step hk.two (Nat.le_refl _))
        have f3 := D3.out.at_.frz 3
        have c3 := D3.out.at_.cells.2.2.2.1
        have DS := Lib.hid (ss_put D3.out HS.out 3 _ (D3.out.at_.set_join true) rfl)
        have KS := Lib.hid (K3.out.setQ 3 (.bool true))
        clear hr hk
        go_wp2_with fail
        refine (source_any w0 tv ts rb qb w1.heap.size HS.out _ (a2 + 1) _ _ DS.out (by have := right_len HR1.out; show q2.src.length ≤ 100; omega)).mono ?_
        rintro e w4 ⟨rfl, a4, v4, hm, hd, hk⟩
        have hh := HO.out
        have hm1 : ts.drop a2 = l2 := M2.out
        rw [← hm1, tail_drop] at hh
        replace hh : srcP (ts.drop (a2 + 1)) ⟨q2.agg, q2.arg, q2.src, true, q2.cond, q2.win, q2.key, q2.late⟩ = o := hh
        rw [hh] at hm hd ⊢
        have D4 := Lib.hid hd
        have K4 := Lib.hid (KS.out.trans hk)
        have M4 := Lib.hid hm
        clear hd hk hm hh hm1 f3 c3
        go_wp2_with fail
        go_ret
        exact ⟨rfl, a4, _, M4.out, ss_ds D1.out K4.out D4.out FR.out.1 FR.out.2, K1.out.step K4.out (Nat.le_refl _)⟩
      · rw [if_neg hj]
        have HJ := Lib.hid hj
        obtain ⟨o, ho⟩ : ∃ o, unionsP l2.length l2 q2 = o := ⟨_, rfl⟩
        rw [ho]
        have HO := Lib.hid ho
        clear h S h0 hx s1 he2 hl2 hq2 e2 hx1 r1 hj ho
        go_enter Tryz.func54, Tryz.ntmps54
        go_wp2_with fail
        refine A.out.mono ?_
        rintro e w1 ⟨rfl, a1, s1, hm, hd, hk⟩
        have D1 := Lib.hid hd
        have K1 := Lib.hid hk
        have M1 := Lib.hid hm
        clear hd hk hm
        go_wp2_with fail
        refine (source_any w0 tv ts rb qb w1.heap.size HS.out _ a1 s1 q (ds_ss D1.out H0.out) (by rw [H0.out]; exact Nat.zero_le _)).mono ?_
        rintro e w2 ⟨rfl, a2, v2, hm, hd, hk⟩
        have hh := HE2.out
        have hm1 : ts.drop a1 = m := M1.out
        rw [← hm1] at hh
        rw [hh] at hm hd ⊢
        have D2 := Lib.hid hd
        have K2 := Lib.hid hk
        have M2 := Lib.hid hm
        clear hd hk hm hh hm1
        go_wp2_with fail
        refine (accept_no w0 tv ts rb HS.out { data := #[106, 111, 105, 110] } _ a2 D2.out.rs (by rw [M2.out]; exact HJ.out)).mono ?_
        rintro e w3 ⟨rfl, hr, hk⟩
        have D3 := Lib.hid (D2.out.on hr hk)
        have K3 := Lib.hid (K2.out.step hk.two (Nat.le_refl _))
        have U0 : Hid (UnSt w0 tv ts rb qb w1.heap.size w1 s1 q o l2.length w3 a2 v2 q2) := Lib.hid (by
          have hm1 : ts.drop a2 = l2 := M2.out
          exact ⟨by rw [hm1]; exact HO.out, by rw [hm1]; exact Nat.le_refl _, D3.out, K3.out, HR1.out, HX1.out.1, HX1.out.2⟩)
        clear hr hk
        go_wp2_with fail
        go_loopg [] l2.length (fun g wx => ∃ c v q', Hid (UnSt w0 tv ts rb qb w1.heap.size w1 s1 q o g wx c v q'))
        case atStart => exact ⟨a2, v2, q2, U0⟩
        case round =>
          obtain ⟨c, v, q', UX⟩ := hrel
          by_cases hu : Prs.hd (ts.drop c) = tUnion
          · have HU := Lib.hid hu
            cases gk with
            | zero =>
              exfalso
              have h1 := UX.out.len
              have h2 := hd_lt hu (by decide)
              rw [List.length_drop] at h1
              omega
            | succ g =>
              have hone := UX.out.out
              rw [unions_one hu, tail_drop] at hone
              have ssx := UX.out.ss
              have lx := src_law (ts.drop (c + 1)) q'
              by_cases he3 : (srcP (ts.drop (c + 1)) q').e = 0
              · rw [Prs.then_ok he3] at hone
                have lenx := (lx.ok he3).1
                have HN : Hid (∀ c2, ts.drop c2 = (srcP (ts.drop (c + 1)) q').l → (ts.drop c2).length ≤ g) := Lib.hid (fun c2 h2 => by
                  have h1 := UX.out.len
                  rw [h2]
                  have h3 : (ts.drop (c + 1)).length = (ts.drop c).length - 1 := by rw [List.length_drop, List.length_drop]; omega
                  omega)
                have HH := Lib.hid hone
                have HRX := Lib.hid (lx.right UX.out.right)
                have HFX : Hid ((srcP (ts.drop (c + 1)) q').q.arg = q.arg ∧ (srcP (ts.drop (c + 1)) q').q.cond = q.cond) := Lib.hid (by
                  obtain ⟨x3, hx3⟩ := lx.frame
                  rw [hx3]; exact ⟨UX.out.arg, UX.out.cond⟩)
                have hq5 : (0 : Int) = (srcP (ts.drop (c + 1)) q').e := he3.symm
                have HE5 := Lib.hid hq5
                clear hu hone lx he3 lenx hq5 ssx
                go_wp2_with fail
                refine (accept_yes w0 tv ts rb HS.out { data := #[117, 110, 105, 111, 110] } (by decide) _ c UX.out.ss.rs HU.out).mono ?_
                rintro e w4 ⟨rfl, hr, hk⟩
                have D4 := Lib.hid (UX.out.ss.on hr hk)
                have K4 := Lib.hid (UX.out.kept.step hk.two (Nat.le_refl _)) 
                clear hr hk
                go_wp2_with fail
                refine (source_any w0 tv ts rb qb w1.heap.size HS.out _ (c + 1) _ q' D4.out (by have := right_len UX.out.right; omega)).mono ?_
                rintro e w5 ⟨rfl, a5, v5, hm, hd, hk⟩
                have D5 := Lib.hid hd
                have K5 := Lib.hid (K4.out.trans hk)
                have M5 := Lib.hid hm
                clear hd hk hm
                rw [← HE5.out]
                go_wp2_with fail
                go_roundg g
                case measure => omega
                case rel => exact ⟨a5, v5, _, Lib.hid ⟨by rw [M5.out]; exact HH.out, HN.out _ M5.out, D5.out, K5.out, HRX.out, HFX.out.1, HFX.out.2⟩⟩
              · rw [Prs.then_bad he3] at hone
                have HH := Lib.hid hone
                have q5 : ((srcP (ts.drop (c + 1)) q').e != 0) = true := by rw [bne_iff_ne]; exact he3
                have HFX : Hid ((srcP (ts.drop (c + 1)) q').q.arg = q.arg ∧ (srcP (ts.drop (c + 1)) q').q.cond = q.cond) := Lib.hid (by
                  obtain ⟨x3, hx3⟩ := lx.frame
                  rw [hx3]; exact ⟨UX.out.arg, UX.out.cond⟩)
                rw [hone] at q5
                clear hu hone lx he3 ssx
                go_wp2_with fail
                refine (accept_yes w0 tv ts rb HS.out { data := #[117, 110, 105, 111, 110] } (by decide) _ c UX.out.ss.rs HU.out).mono ?_
                rintro e w4 ⟨rfl, hr, hk⟩
                have D4 := Lib.hid (UX.out.ss.on hr hk)
                have K4 := Lib.hid (UX.out.kept.step hk.two (Nat.le_refl _))
                clear hr hk
                go_wp2_with fail
                refine (source_any w0 tv ts rb qb w1.heap.size HS.out _ (c + 1) _ q' D4.out (by have := right_len UX.out.right; omega)).mono ?_
                rintro e w5 ⟨rfl, a5, v5, hm, hd, hk⟩
                have hfx := HFX.out
                rw [HH.out] at hm hd hfx ⊢
                have D5 := Lib.hid hd
                have K5 := Lib.hid (K4.out.trans hk)
                have M5 := Lib.hid hm
                have HF2 := Lib.hid hfx
                clear hd hk hm hfx
                go_wp2_with fail
                go_ret
                exact ⟨rfl, a5, _, M5.out, ss_ds D1.out K5.out D5.out HF2.out.1 HF2.out.2, K1.out.step K5.out (Nat.le_refl _)⟩
          · have hend := UX.out.out
            rw [unions_end hu] at hend
            have HH := Lib.hid hend
            have HU := Lib.hid hu
            clear hu hend
            go_wp2_with fail
            refine (accept_no w0 tv ts rb HS.out { data := #[117, 110, 105, 111, 110] } _ c UX.out.ss.rs HU.out).mono ?_
            rintro e w4 ⟨rfl, hr, hk⟩
            have D4 := Lib.hid (UX.out.ss.on hr hk)
            have K4 := Lib.hid (UX.out.kept.step hk.two (Nat.le_refl _))
            clear hr hk
            go_wp2_with fail
            go_ret
            rw [← HH.out]
            exact ⟨rfl, c, _, rfl, ss_ds D1.out K4.out D4.out UX.out.arg UX.out.cond, K1.out.step K4.out (Nat.le_refl _)⟩
    · rw [Prs.then_bad he2]
      obtain ⟨o, ho⟩ : ∃ o, srcP m q = o := ⟨_, rfl⟩
      rw [ho] at he2 hx1 ⊢
      have HO := Lib.hid ho
      have H0 := Lib.hid h0
      have FR : Hid (o.q.arg = q.arg ∧ o.q.cond = q.cond) := Lib.hid (by rw [hx1]; exact ⟨rfl, rfl⟩)
      have q5 : (o.e != 0) = true := by rw [bne_iff_ne]; exact he2
      clear h S h0 hx s1 he2 hx1 r1 ho
      go_enter Tryz.func54, Tryz.ntmps54
      go_wp2_with fail
      refine A.out.mono ?_
      rintro e w1 ⟨rfl, a1, s1, hm, hd, hk⟩
      have D1 := Lib.hid hd
      have K1 := Lib.hid hk
      have M1 := Lib.hid hm
      clear hd hk hm
      go_wp2_with fail
      refine (source_any w0 tv ts rb qb w1.heap.size HS.out _ a1 s1 q (ds_ss D1.out H0.out) (by rw [H0.out]; exact Nat.zero_le _)).mono ?_
      rintro e w2 ⟨rfl, a2, v2, hm, hd, hk⟩
      have hh := HO.out
      have hm1 : ts.drop a1 = m := M1.out
      rw [← hm1] at hh
      rw [hh] at hm hd ⊢
      have D2 := Lib.hid hd
      have K2 := Lib.hid hk
      have M2 := Lib.hid hm
      clear hd hk hm hh hm1
      go_wp2_with fail
      go_ret
      exact ⟨rfl, a2, _, M2.out, ss_ds D1.out K2.out D2.out FR.out.1 FR.out.2, K1.out.step K2.out (Nat.le_refl _)⟩
  · rw [from_first hx he]
    have q1 : (e1 != 0) = true := by rw [bne_iff_ne]; exact he
    clear h S hx he
    go_enter Tryz.func54, Tryz.ntmps54
    go_wp2_with fail
    refine A.out.mono ?_
    rintro e w1 ⟨rfl, a1, s1, hm, hd, hk⟩
    have D1 := Lib.hid hd
    have K1 := Lib.hid hk
    have M1 := Lib.hid hm
    clear hd hk hm
    go_wp2_with fail
    go_ret
    exact ⟨rfl, a1, s1, M1.out, D1.out, K1.out⟩
end Go.Proofs.YtdinaedknlkicaaGreatDoor.ParserW
/-
  Contracts of package parser at the landed code (layer 9): window.
-/
namespace Go.Proofs.YtdinaedknlkicaaGreatDoor.ParserW
open Nodes Exprs ExprW Prs
open Go.ChangeShapes Go.WideShapes Go.ChangeAt Go.RowKit

theorem win_first {l : List Tok} {q : Qy} {e : Int} {m : List Tok} (h : expP [tWindow] l = (e, m)) (he : e ≠ 0) : winP l q = ⟨e, m, q⟩ := by
  unfold winP needP; rw [h]; exact Prs.then_bad he
theorem win_then {l : List Tok} {q : Qy} {m : List Tok} (h : expP [tWindow] l = (0, m)) : winP l q = (if hd m = tTumble then kindP m q 1 else if hd m = tSlide then kindP m q 2 else if hd m = tSession then kindP m q 3 else ⟨12, m, q⟩) := by
  unfold winP
  have e : needP [tWindow] l q = ⟨0, m, q⟩ := by unfold needP; rw [h]
  rw [e, Prs.then_ok rfl]
theorem kind_bad {l : List Tok} {q : Qy} {k : Int} (hj : q.join = true) (hk : k ≠ 1) : kindP l q k = ⟨8, l, withWin q ⟨k, q.win.size, q.win.every⟩⟩ := if_pos ⟨hj, hk⟩
theorem kind_good {l : List Tok} {q : Qy} {k : Int} (h : q.join = false ∨ k = 1) : kindP l q k = lensP l.tail (withWin q ⟨k, q.win.size, q.win.every⟩) := if_neg (by
  rintro ⟨h1, h2⟩
  rcases h with h | h
  · rw [h] at h1; cases h1
  · exact h2 h)
theorem ds_set {w0 : World} {tv : Value} {ts : List Tok} {rb qb C : Nat} {W : World} {a : Nat} {s : Sl} {q : Qy} (h : Ds w0 tv ts rb qb C W a s q) (S : Still w0 tv ts rb) {c : Nat} (hc : c ≤ ts.length) : Ds w0 tv ts rb qb C (W.setCell ⟨rb, 1, none⟩ (.int .i64 (c : Int))) c s q :=
  h.on (h.rs.set S hc) ((Kept.refl _ _ _ _).setR _ _)
set_option maxRecDepth 100000 in
set_option maxHeartbeats 2000000 in
theorem window_any (w0 : World) (tv : Value) (ts : List Tok) (rb qb C : Nat) (S : Still w0 tv ts rb) (W : World) (a : Nat) (s : Sl) (q : Qy) (h : Ds w0 tv ts rb qb C W a s q) :
    Calls Tryz.prog 56 #[ptr rb, ptr qb] W (ClEnds w0 tv ts rb qb C W (winP (ts.drop a) q)) := by
  have HS := Lib.hid S
  obtain ⟨e1, m, hx⟩ : ∃ e m, expP [tWindow] (ts.drop a) = (e, m) := ⟨_, _, rfl⟩
  have A := Lib.hid (want_ds w0 tv ts rb qb C S { data := #[119, 105, 110, 100, 111, 119] } tWindow rfl (by decide) W a s q h _ rfl e1 m hx)
  by_cases he : e1 = 0
  · subst he
    rw [win_then hx]
    have hle := ts_short S
    clear h S hx
    obtain ⟨y, hy⟩ : ∃ y, hd m = y := ⟨_, rfl⟩
    rw [hy]
    have HY := Lib.hid hy
    clear hy
    by_cases g1 : y = tTumble
    · rw [if_pos g1]
      have t1 : (y == [116, 117, 109, 98, 108, 101]) = true := by rw [beq_iff_eq]; exact g1
      have NE : Hid (y ≠ []) := Lib.hid (by rw [g1]; decide)
      cases hj : q.join
      · have JN := Lib.hid hj
        rw [kind_good (.inr rfl)]
        clear hj g1
        go_enter Tryz.func56, Tryz.ntmps56
        go_wp2_with fail
        refine A.out.mono ?_
        rintro e w1 ⟨rfl, a1, s1, hm, hd, hk⟩
        have D1 := Lib.hid hd
        have K1 := Lib.hid hk
        have M1 : Hid (ts.drop a1 = m) := Lib.hid hm
        have T := Lib.hid (text_any w0 tv ts rb HS.out w1 a1 hd.rs)
        rw [M1.out, HY.out] at T
        clear hd hk hm
        go_wp2_with fail
        refine T.out.mono ?_
        rintro e w2 ⟨rfl, hdr⟩
        have D2 := Lib.hid (D1.out.below (hdr.below _))
        have K2 : Hid (Kept W.heap.size rb qb W w2) := Lib.hid (K1.out.steps (Kept.draws hdr))
        clear hdr
        have f5 := D2.out.qs.at_.frz 5
        have c5 := D2.out.qs.at_.cells.2.2.2.2.2.1
        have D3 := Lib.hid (D2.out.put HS.out 5 _ (D2.out.qs.at_.set_wk 1) rfl rfl rfl)
        have K3 := Lib.hid (K2.out.setQ 5 (.int .u8 1))
        have c3 : (w2.setCell ⟨qb, 5, none⟩ (.int .u8 1)).cell? ⟨qb, 3, none⟩ = some (.bool false) := by rw [← JN.out]; exact D3.out.qs.at_.cells.2.2.2.1
        have k5 : (w2.setCell ⟨qb, 5, none⟩ (.int .u8 1)).cell? ⟨qb, 5, none⟩ = some (.int .u8 1) := D3.out.qs.at_.cells.2.2.2.2.2.1
        have r1 := D3.out.rs.rd.cells.2
        have rf := D3.out.rs.rd.frz 1
        have hlt : a1 < ts.length := hd_lt (show hd (ts.drop a1) = y by rw [M1.out, HY.out]) NE.out
        have b1 : (a1 : Int) ≤ 200 := by omega
        have D4 := Lib.hid (ds_set D3.out HS.out (c := a1 + 1) (by omega))
        rw [show ((a1 + 1 : Nat) : Int) = (a1 : Int) + 1 by omega] at D4
        have K4 := Lib.hid (K3.out.setR 1 (.int .i64 ((a1 : Int) + 1)))
        clear hlt
        go_wp2_with fail
        refine (lengths_any w0 tv ts rb qb C HS.out _ (a1 + 1) s1 _ D4.out).mono ?_
        rintro e wz ⟨rfl, az, sz, hm, hd, hk⟩
        have DZ := Lib.hid hd
        have KZ := Lib.hid (K4.out.step hk (Nat.le_refl _))
        have MZ := Lib.hid hm
        clear hd hk hm f5 c5 c3 k5 r1 rf
        go_wp2_with fail
        go_ret
        rw [← M1.out, tail_drop]
        exact ⟨rfl, az, sz, MZ.out, DZ.out, KZ.out⟩
      · have JN := Lib.hid hj
        rw [kind_good (.inr rfl)]
        clear hj g1
        go_enter Tryz.func56, Tryz.ntmps56
        go_wp2_with fail
        refine A.out.mono ?_
        rintro e w1 ⟨rfl, a1, s1, hm, hd, hk⟩
        have D1 := Lib.hid hd
        have K1 := Lib.hid hk
        have M1 : Hid (ts.drop a1 = m) := Lib.hid hm
        have T := Lib.hid (text_any w0 tv ts rb HS.out w1 a1 hd.rs)
        rw [M1.out, HY.out] at T
        clear hd hk hm
        go_wp2_with fail
        refine T.out.mono ?_
        rintro e w2 ⟨rfl, hdr⟩
        have D2 := Lib.hid (D1.out.below (hdr.below _))
        have K2 : Hid (Kept W.heap.size rb qb W w2) := Lib.hid (K1.out.steps (Kept.draws hdr))
        clear hdr
        have f5 := D2.out.qs.at_.frz 5
        have c5 := D2.out.qs.at_.cells.2.2.2.2.2.1
        have D3 := Lib.hid (D2.out.put HS.out 5 _ (D2.out.qs.at_.set_wk 1) rfl rfl rfl)
        have K3 := Lib.hid (K2.out.setQ 5 (.int .u8 1))
        have c3 : (w2.setCell ⟨qb, 5, none⟩ (.int .u8 1)).cell? ⟨qb, 3, none⟩ = some (.bool true) := by rw [← JN.out]; exact D3.out.qs.at_.cells.2.2.2.1
        have k5 : (w2.setCell ⟨qb, 5, none⟩ (.int .u8 1)).cell? ⟨qb, 5, none⟩ = some (.int .u8 1) := D3.out.qs.at_.cells.2.2.2.2.2.1
        have r1 := D3.out.rs.rd.cells.2
        have rf := D3.out.rs.rd.frz 1
        have hlt : a1 < ts.length := hd_lt (show hd (ts.drop a1) = y by rw [M1.out, HY.out]) NE.out
        have b1 : (a1 : Int) ≤ 200 := by omega
        have D4 := Lib.hid (ds_set D3.out HS.out (c := a1 + 1) (by omega))
        rw [show ((a1 + 1 : Nat) : Int) = (a1 : Int) + 1 by omega] at D4
        have K4 := Lib.hid (K3.out.setR 1 (.int .i64 ((a1 : Int) + 1)))
        clear hlt
        go_wp2_with fail
        refine (lengths_any w0 tv ts rb qb C HS.out _ (a1 + 1) s1 _ D4.out).mono ?_
        rintro e wz ⟨rfl, az, sz, hm, hd, hk⟩
        have DZ := Lib.hid hd
        have KZ := Lib.hid (K4.out.step hk (Nat.le_refl _))
        have MZ := Lib.hid hm
        clear hd hk hm f5 c5 c3 k5 r1 rf
        go_wp2_with fail
        go_ret
        rw [← M1.out, tail_drop]
        exact ⟨rfl, az, sz, MZ.out, DZ.out, KZ.out⟩
    rw [if_neg g1]
    have t1 : (y == [116, 117, 109, 98, 108, 101]) = false := by rw [beq_eq_false_iff_ne]; exact g1
    by_cases g2 : y = tSlide
    · rw [if_pos g2]
      have t2 : (y == [115, 108, 105, 100, 101]) = true := by rw [beq_iff_eq]; exact g2
      have NE : Hid (y ≠ []) := Lib.hid (by rw [g2]; decide)
      cases hj : q.join
      · have JN := Lib.hid hj
        rw [kind_good (.inl hj)]
        clear hj g1 g2
        go_enter Tryz.func56, Tryz.ntmps56
        go_wp2_with fail
        refine A.out.mono ?_
        rintro e w1 ⟨rfl, a1, s1, hm, hd, hk⟩
        have D1 := Lib.hid hd
        have K1 := Lib.hid hk
        have M1 : Hid (ts.drop a1 = m) := Lib.hid hm
        have T := Lib.hid (text_any w0 tv ts rb HS.out w1 a1 hd.rs)
        rw [M1.out, HY.out] at T
        clear hd hk hm
        go_wp2_with fail
        refine T.out.mono ?_
        rintro e w2 ⟨rfl, hdr⟩
        have D2 := Lib.hid (D1.out.below (hdr.below _))
        have K2 : Hid (Kept W.heap.size rb qb W w2) := Lib.hid (K1.out.steps (Kept.draws hdr))
        clear hdr
        have f5 := D2.out.qs.at_.frz 5
        have c5 := D2.out.qs.at_.cells.2.2.2.2.2.1
        have D3 := Lib.hid (D2.out.put HS.out 5 _ (D2.out.qs.at_.set_wk 2) rfl rfl rfl)
        have K3 := Lib.hid (K2.out.setQ 5 (.int .u8 2))
        have c3 : (w2.setCell ⟨qb, 5, none⟩ (.int .u8 2)).cell? ⟨qb, 3, none⟩ = some (.bool false) := by rw [← JN.out]; exact D3.out.qs.at_.cells.2.2.2.1
        have k5 : (w2.setCell ⟨qb, 5, none⟩ (.int .u8 2)).cell? ⟨qb, 5, none⟩ = some (.int .u8 2) := D3.out.qs.at_.cells.2.2.2.2.2.1
        have r1 := D3.out.rs.rd.cells.2
        have rf := D3.out.rs.rd.frz 1
        have hlt : a1 < ts.length := hd_lt (show hd (ts.drop a1) = y by rw [M1.out, HY.out]) NE.out
        have b1 : (a1 : Int) ≤ 200 := by omega
        have D4 := Lib.hid (ds_set D3.out HS.out (c := a1 + 1) (by omega))
        rw [show ((a1 + 1 : Nat) : Int) = (a1 : Int) + 1 by omega] at D4
        have K4 := Lib.hid (K3.out.setR 1 (.int .i64 ((a1 : Int) + 1)))
        clear hlt
        go_wp2_with fail
        refine (lengths_any w0 tv ts rb qb C HS.out _ (a1 + 1) s1 _ D4.out).mono ?_
        rintro e wz ⟨rfl, az, sz, hm, hd, hk⟩
        have DZ := Lib.hid hd
        have KZ := Lib.hid (K4.out.step hk (Nat.le_refl _))
        have MZ := Lib.hid hm
        clear hd hk hm f5 c5 c3 k5 r1 rf
        go_wp2_with fail
        go_ret
        rw [← M1.out, tail_drop]
        exact ⟨rfl, az, sz, MZ.out, DZ.out, KZ.out⟩
      · have JN := Lib.hid hj
        rw [kind_bad hj (by decide)]
        clear hj g1 g2
        go_enter Tryz.func56, Tryz.ntmps56
        go_wp2_with fail
        refine A.out.mono ?_
        rintro e w1 ⟨rfl, a1, s1, hm, hd, hk⟩
        have D1 := Lib.hid hd
        have K1 := Lib.hid hk
        have M1 : Hid (ts.drop a1 = m) := Lib.hid hm
        have T := Lib.hid (text_any w0 tv ts rb HS.out w1 a1 hd.rs)
        rw [M1.out, HY.out] at T
        clear hd hk hm
        go_wp2_with fail
        refine T.out.mono ?_
        rintro e w2 ⟨rfl, hdr⟩
        have D2 := Lib.hid (D1.out.below (hdr.below _))
        have K2 : Hid (Kept W.heap.size rb qb W w2) := Lib.hid (K1.out.steps (Kept.draws hdr))
        clear hdr
        have f5 := D2.out.qs.at_.frz 5
        have c5 := D2.out.qs.at_.cells.2.2.2.2.2.1
        have D3 := Lib.hid (D2.out.put HS.out 5 _ (D2.out.qs.at_.set_wk 2) rfl rfl rfl)
        have K3 := Lib.hid (K2.out.setQ 5 (.int .u8 2))
        have c3 : (w2.setCell ⟨qb, 5, none⟩ (.int .u8 2)).cell? ⟨qb, 3, none⟩ = some (.bool true) := by rw [← JN.out]; exact D3.out.qs.at_.cells.2.2.2.1
        have k5 : (w2.setCell ⟨qb, 5, none⟩ (.int .u8 2)).cell? ⟨qb, 5, none⟩ = some (.int .u8 2) := D3.out.qs.at_.cells.2.2.2.2.2.1
        go_wp2_with fail
        go_ret
        exact ⟨rfl, a1, s1, M1.out, D3.out, K3.out⟩
    rw [if_neg g2]
    have t2 : (y == [115, 108, 105, 100, 101]) = false := by rw [beq_eq_false_iff_ne]; exact g2
    by_cases g3 : y = tSession
    · rw [if_pos g3]
      have t3 : (y == [115, 101, 115, 115, 105, 111, 110]) = true := by rw [beq_iff_eq]; exact g3
      have NE : Hid (y ≠ []) := Lib.hid (by rw [g3]; decide)
      cases hj : q.join
      · have JN := Lib.hid hj
        rw [kind_good (.inl hj)]
        clear hj g1 g2 g3
        go_enter Tryz.func56, Tryz.ntmps56
        go_wp2_with fail
        refine A.out.mono ?_
        rintro e w1 ⟨rfl, a1, s1, hm, hd, hk⟩
        have D1 := Lib.hid hd
        have K1 := Lib.hid hk
        have M1 : Hid (ts.drop a1 = m) := Lib.hid hm
        have T := Lib.hid (text_any w0 tv ts rb HS.out w1 a1 hd.rs)
        rw [M1.out, HY.out] at T
        clear hd hk hm
        go_wp2_with fail
        refine T.out.mono ?_
        rintro e w2 ⟨rfl, hdr⟩
        have D2 := Lib.hid (D1.out.below (hdr.below _))
        have K2 : Hid (Kept W.heap.size rb qb W w2) := Lib.hid (K1.out.steps (Kept.draws hdr))
        clear hdr
        have f5 := D2.out.qs.at_.frz 5
        have c5 := D2.out.qs.at_.cells.2.2.2.2.2.1
        have D3 := Lib.hid (D2.out.put HS.out 5 _ (D2.out.qs.at_.set_wk 3) rfl rfl rfl)
        have K3 := Lib.hid (K2.out.setQ 5 (.int .u8 3))
        have c3 : (w2.setCell ⟨qb, 5, none⟩ (.int .u8 3)).cell? ⟨qb, 3, none⟩ = some (.bool false) := by rw [← JN.out]; exact D3.out.qs.at_.cells.2.2.2.1
        have k5 : (w2.setCell ⟨qb, 5, none⟩ (.int .u8 3)).cell? ⟨qb, 5, none⟩ = some (.int .u8 3) := D3.out.qs.at_.cells.2.2.2.2.2.1
        have r1 := D3.out.rs.rd.cells.2
        have rf := D3.out.rs.rd.frz 1
        have hlt : a1 < ts.length := hd_lt (show hd (ts.drop a1) = y by rw [M1.out, HY.out]) NE.out
        have b1 : (a1 : Int) ≤ 200 := by omega
        have D4 := Lib.hid (ds_set D3.out HS.out (c := a1 + 1) (by omega))
        rw [show ((a1 + 1 : Nat) : Int) = (a1 : Int) + 1 by omega] at D4
        have K4 := Lib.hid (K3.out.setR 1 (.int .i64 ((a1 : Int) + 1)))
        clear hlt
        go_wp2_with fail
        refine (lengths_any w0 tv ts rb qb C HS.out _ (a1 + 1) s1 _ D4.out).mono ?_
        rintro e wz ⟨rfl, az, sz, hm, hd, hk⟩
        have DZ := Lib.hid hd
        have KZ := Lib.hid (K4.out.step hk (Nat.le_refl _))
        have MZ := Lib.hid hm
        clear hd hk hm f5 c5 c3 k5 r1 rf
        go_wp2_with fail
        go_ret
        rw [← M1.out, tail_drop]
        exact ⟨rfl, az, sz, MZ.out, DZ.out, KZ.out⟩
      · have JN := Lib.hid hj
        rw [kind_bad hj (by decide)]
        clear hj g1 g2 g3
        go_enter Tryz.func56, Tryz.ntmps56
        go_wp2_with fail
        refine A.out.mono ?_
        rintro e w1 ⟨rfl, a1, s1, hm, hd, hk⟩
        have D1 := Lib.hid hd
        have K1 := Lib.hid hk
        have M1 : Hid (ts.drop a1 = m) := Lib.hid hm
        have T := Lib.hid (text_any w0 tv ts rb HS.out w1 a1 hd.rs)
        rw [M1.out, HY.out] at T
        clear hd hk hm
        go_wp2_with fail
        refine T.out.mono ?_
        rintro e w2 ⟨rfl, hdr⟩
        have D2 := Lib.hid (D1.out.below (hdr.below _))
        have K2 : Hid (Kept W.heap.size rb qb W w2) := Lib.hid (K1.out.steps (Kept.draws hdr))
        clear hdr
        have f5 := D2.out.qs.at_.frz 5
        have c5 := D2.out.qs.at_.cells.2.2.2.2.2.1
        have D3 := Lib.hid (D2.out.put HS.out 5 _ (D2.out.qs.at_.set_wk 3) rfl rfl rfl)
        have K3 := Lib.hid (K2.out.setQ 5 (.int .u8 3))
        have c3 : (w2.setCell ⟨qb, 5, none⟩ (.int .u8 3)).cell? ⟨qb, 3, none⟩ = some (.bool true) := by rw [← JN.out]; exact D3.out.qs.at_.cells.2.2.2.1
        have k5 : (w2.setCell ⟨qb, 5, none⟩ (.int .u8 3)).cell? ⟨qb, 5, none⟩ = some (.int .u8 3) := D3.out.qs.at_.cells.2.2.2.2.2.1
        go_wp2_with fail
        go_ret
        exact ⟨rfl, a1, s1, M1.out, D3.out, K3.out⟩
    rw [if_neg g3]
    have t3 : (y == [115, 101, 115, 115, 105, 111, 110]) = false := by rw [beq_eq_false_iff_ne]; exact g3
    clear g1 g2 g3 hle
    go_enter Tryz.func56, Tryz.ntmps56
    go_wp2_with fail
    refine A.out.mono ?_
    rintro e w1 ⟨rfl, a1, s1, hm, hd, hk⟩
    have D1 := Lib.hid hd
    have K1 := Lib.hid hk
    have M1 : Hid (ts.drop a1 = m) := Lib.hid hm
    have T := Lib.hid (text_any w0 tv ts rb HS.out w1 a1 hd.rs)
    rw [M1.out, HY.out] at T
    clear hd hk hm
    go_wp2_with fail
    refine T.out.mono ?_
    rintro e w2 ⟨rfl, hdr⟩
    have D2 := Lib.hid (D1.out.below (hdr.below _))
    have K2 : Hid (Kept W.heap.size rb qb W w2) := Lib.hid (K1.out.steps (Kept.draws hdr))
    clear hdr
    go_wp2_with fail
    go_ret
    exact ⟨rfl, a1, s1, M1.out, D2.out, K2.out⟩
  · rw [win_first hx he]
    have q1 : (e1 != 0) = true := by rw [bne_iff_ne]; exact he
    clear h S hx he
    go_enter Tryz.func56, Tryz.ntmps56
    go_wp2_with fail
    refine A.out.mono ?_
    rintro e w1 ⟨rfl, a1, s1, hm, hd, hk⟩
    have D1 := Lib.hid hd
    have K1 := Lib.hid hk
    have M1 := Lib.hid hm
    clear hd hk hm
    go_wp2_with fail
    go_ret
    exact ⟨rfl, a1, s1, M1.out, D1.out, K1.out⟩
end Go.Proofs.YtdinaedknlkicaaGreatDoor.ParserW
/-
  Contracts of package parser at the landed code (layer 9): query.
-/
namespace Go.Proofs.YtdinaedknlkicaaGreatDoor.ParserW
open Nodes Exprs ExprW Prs
open Go.ChangeShapes Go.WideShapes Go.ChangeAt Go.RowKit

/-- The clauses from the k-th on. -/
def ch6 (l : List Tok) (q : Qy) : Out := ⟨0, l, q⟩
def ch5 (l : List Tok) (q : Qy) : Out := (lateP l q).then ch6
def ch4 (l : List Tok) (q : Qy) : Out := (keyP l q).then ch5
def ch3 (l : List Tok) (q : Qy) : Out := (winP l q).then ch4
def ch2 (l : List Tok) (q : Qy) : Out := (condP l q).then ch3
def ch1 (l : List Tok) (q : Qy) : Out := (fromP l q).then ch2
def ch0 (l : List Tok) (q : Qy) : Out := (aggP l q).then ch1
def chain : Nat → List Tok → Qy → Out
  | 0 => ch0
  | 1 => ch1
  | 2 => ch2
  | 3 => ch3
  | 4 => ch4
  | 5 => ch5
  | _ => ch6
theorem then_done (o : Out) : o.then ch6 = o := by
  by_cases h : o.e = 0
  · rw [Prs.then_ok h]
    show Out.mk 0 o.l o.q = o
    rw [← h]
  · exact Prs.then_bad h
theorem chain_all (l : List Tok) : chain 0 l noQ = clausesP l := by
  show (aggP l noQ).then ch1 = (aggP l noQ).then _
  congr 1
  funext l q
  show (fromP l q).then ch2 = (fromP l q).then _
  congr 1
  funext l q
  show (condP l q).then ch3 = (condP l q).then _
  congr 1
  funext l q
  show (winP l q).then ch4 = (winP l q).then _
  congr 1
  funext l q
  show (keyP l q).then ch5 = (keyP l q).then _
  congr 1
  funext l q
  exact then_done _
def queryR (o : Out) : Out := if o.e ≠ 0 then ⟨o.e, o.l, noQ⟩ else if o.l = [] then o else ⟨38, o.l, noQ⟩
theorem queryR_is (l : List Tok) : queryP l = queryR (clausesP l) := rfl
/-- The clauses as values in a block. -/
abbrev fnBox (rb : Nat) : Obj := .cells #[.func (.func 53) #[ptr rb] #[], .func (.func 54) #[ptr rb] #[], .func (.func 55) #[ptr rb] #[], .func (.func 56) #[ptr rb] #[], .func (.func 57) #[ptr rb] #[], .func (.func 58) #[ptr rb] #[]] 93
def FnsAt (W : World) (b rb : Nat) : Prop := W.heap[b]? = some (fnBox rb)
theorem FnsAt.lt {W : World} {b rb : Nat} (h : FnsAt W b rb) : b < W.heap.size := (Array.getElem?_eq_some_iff.1 h).1
/-- The loop over the clauses: how it is at its head. -/
structure QLoop (w0 : World) (tv : Value) (ts : List Tok) (rb : Nat) (W : World) (R : Out) (k : Nat) (wx : World) (c : Nat) (s : Sl) (q : Qy) : Prop where
  out : chain k (ts.drop c) q = R
  ds : Ds w0 tv ts rb (W.heap.size + 1) (W.heap.size + 2) wx c s q
  kept : Kept W.heap.size rb rb W wx
  res : QyAt wx W.heap.size zeroS noQ
  fns : FnsAt wx (W.heap.size + 1 + 1) rb
  src : k ≤ 1 → q.src = []
theorem ql_kept {rb : Nat} {W wx wy : World} (h : Kept W.heap.size rb rb W wx) (hk : Kept wx.heap.size rb (W.heap.size + 1) wx wy) : Kept W.heap.size rb rb W wy :=
  h.trans ⟨hk.os, hk.tape, hk.output, hk.size, fun k h1 h2 _ => hk.block k (by have := h.size; omega) h2 (by omega)⟩
theorem ql_next {w0 : World} {tv : Value} {ts : List Tok} {rb : Nat} {W : World} {R : Out} {k : Nat} {wx : World} {c : Nat} {s : Sl} {q : Qy} (h : QLoop w0 tv ts rb W R k wx c s q) {o : Out} (ho : o.then (chain (k + 1)) = R) (he : o.e = 0)
    {wy : World} {c2 : Nat} {s2 : Sl} (hc : ts.drop c2 = o.l) (hd : Ds w0 tv ts rb (W.heap.size + 1) (W.heap.size + 2) wy c2 s2 o.q) (hk : Kept wx.heap.size rb (W.heap.size + 1) wx wy) (hs : k + 1 ≤ 1 → o.q.src = []) : QLoop w0 tv ts rb W R (k + 1) wy c2 s2 o.q := by
  have h1 := h.fns.lt
  have h2 := h.ds.rq
  refine ⟨?_, hd, ql_kept h.kept hk, ?_, ?_, hs⟩
  · rw [hc, ← ho, Prs.then_ok he]
  · have h3 : rb < W.heap.size := Nat.lt_of_le_of_ne (by omega) (fun e => by
      have h4 := h.ds.rs.rd
      have h5 := h.res
      unfold RdAt at h4
      unfold QyAt at h5
      rw [e] at h4
      rw [h4] at h5
      simp [rdBox, qyBox] at h5)
    exact (hk.block _ (by omega) (by omega) (by omega)).trans h.res
  · exact (hk.block _ h1 (by omega) (by omega)).trans h.fns
theorem ql_rb {w0 : World} {tv : Value} {ts : List Tok} {rb : Nat} {W : World} {R : Out} {k : Nat} {wx : World} {c : Nat} {s : Sl} {q : Qy} (h : QLoop w0 tv ts rb W R k wx c s q) : rb ≠ W.heap.size := fun e => by
  have h4 := h.ds.rs.rd
  have h5 := h.res
  unfold RdAt at h4
  unfold QyAt at h5
  rw [e] at h4
  rw [h4] at h5
  simp [rdBox, qyBox] at h5

/-! ### Two results: a query that lies in a variable, an error -/
theorem qy_range {w : World} {b : Nat} {s : Sl} {q : Qy} (h : QyAt w b s q) : w.rangeAt b 0 (qyRow s q).toList := fun j v hv => by
  rw [Nat.zero_add, cell_of (cs := qyRow s q) h, ← Array.getElem?_toList]
  exact hv
theorem ret_qt {fn : Func} {p u : Tmp} (h : fn.results = #[.cell p 28, .tmp u]) (tmps : Array Value) (w : World) (b : Nat) (s : Sl) (q : Qy) (hp : tmps.getD p undef = .pointer (some ⟨b, 0, none⟩)) (hq : QyAt w b s q) :
    (results fn tmps).run Tryz.prog w = .ok (.tuple #[qyVal s q, tmps.getD u undef]) w := by
  have hl := run_loadVar_mid (P := Tryz.prog) w b 0 28 (qyRow s q).toList _ (qy_range hq) Tryz.underlying28 rfl iQy
  rw [results_cell_tmp h, hp]
  simp only [asAddr, Sem.run_pure, Result.andThen_ok, hl]
  rfl
theorem putQ_set (w : World) (b : Nat) (s : Sl) (q : Qy) : ∀ {B rb qb : Nat} {a : World}, Kept B rb qb a w → B ≤ b → Kept B rb qb a (putQ w b s q) := fun h hb => h.trans (Kept.of (putQ_below (Below.refl _ _) hb s q))
/-- A query whose slices are rows of the call's own. -/
structure OwnQ (B : Nat) (w : World) (s : Sl) (q : Qy) : Prop where
  arg : w.ownsRow B 43 5 s.arg q.arg.length (rowN q.arg)
  src : w.ownsRow B 3 1 s.src q.src.length (rowI q.src)
  cond : w.ownsRow B 43 5 s.cond q.cond.length (rowN q.cond)
theorem OwnQ.reads {B : Nat} {w : World} {s : Sl} {q : Qy} (h : OwnQ B w s q) : ReadsQ w s q := ⟨own_readsN h.arg, own_readsI h.src, own_readsN h.cond⟩
theorem OwnQ.below {B : Nat} {w w' : World} {s : Sl} {q : Qy} (h : OwnQ B w s q) (hb : Below w.heap.size w w') : OwnQ B w' s q := ⟨keeps_own h.arg hb, keeps_own h.src hb, keeps_own h.cond hb⟩
theorem OwnQ.lower {B B' : Nat} {w : World} {s : Sl} {q : Qy} (h : OwnQ B w s q) (hb : B' ≤ B) : OwnQ B' w s q := ⟨own_lower h.arg hb, own_lower h.src hb, own_lower h.cond hb⟩
theorem OwnQ.put {B : Nat} {w : World} {s : Sl} {q : Qy} (h : OwnQ B w s q) {b : Nat} (hb : b < B) (t : Sl) (p : Qy) : OwnQ B (putQ w b t p) s q := by
  have own : ∀ {e : TypeId} {size n : Nat} {u : Value} {xs : List Value}, w.ownsRow B e size u n xs → (putQ w b t p).ownsRow B e size u n xs := fun hu =>
    hu.kept (putQ_grown w b t p) (.inr (fun e => by have := (hu.lt _ e).1; omega))
  exact ⟨own h.arg, own h.src, own h.cond⟩
theorem ownQ_none (B : Nat) (w : World) : OwnQ B w zeroS noQ := ⟨World.ownsRow_nil _ _ _ _, World.ownsRow_nil _ _ _ _, World.ownsRow_nil _ _ _ _⟩
/-- What query ends with. -/
def QEnds (w0 : World) (tv : Value) (ts : List Tok) (rb : Nat) (W : World) (o : Out) (e : Ending) (W' : World) : Prop :=
  ∃ c s, e = .returned (.tuple #[qyVal s o.q, .int .i64 o.e]) ∧ ts.drop c = o.l ∧ Rs w0 tv ts rb W' c ∧ OwnQ W.heap.size W' s o.q ∧ Kept W.heap.size rb rb W W'
theorem q_none {w0 : World} {tv : Value} {ts : List Tok} {rb : Nat} {W wy : World} {c : Nat} (hr : Rs w0 tv ts rb wy c) (hk : Kept W.heap.size rb rb W wy) (hb : rb ≠ W.heap.size) (hw : w0.heap.size ≤ W.heap.size) {o : Out} (hl : ts.drop c = o.l) (hq : o.q = noQ) : QEnds w0 tv ts rb W o (.returned (.tuple #[qyVal zeroS noQ, .int .i64 o.e])) (putQ wy W.heap.size zeroS noQ) := by
  refine ⟨c, zeroS, by rw [hq], hl, ⟨putQ_below hr.base hw _ _, ?_, hr.le⟩, by rw [hq]; exact ownQ_none _ _, putQ_set wy _ _ _ hk (Nat.le_refl _)⟩
  unfold RdAt
  rw [(putQ_grown wy W.heap.size zeroS noQ).block rb hr.rd.lt (fun e => by injection e with e; exact hb e)]
  exact hr.rd
theorem q_some {w0 : World} {tv : Value} {ts : List Tok} {rb : Nat} {W wy : World} {c : Nat} {s : Sl} {q : Qy} (hd : Ds w0 tv ts rb (W.heap.size + 1) (W.heap.size + 2) wy c s q) (hk : Kept W.heap.size rb rb W wy) (hb : rb ≠ W.heap.size) (hw : w0.heap.size ≤ W.heap.size) {o : Out} (hl : ts.drop c = o.l) (hq : o.q = q) : QEnds w0 tv ts rb W o (.returned (.tuple #[qyVal s q, .int .i64 o.e])) (putQ wy W.heap.size s q) := by
  have hr := hd.rs
  have own : OwnQ (W.heap.size + 2) wy s q := ⟨hd.qs.arg, hd.qs.src, hd.qs.cond⟩
  refine ⟨c, s, by rw [hq], hl, ⟨putQ_below hr.base hw _ _, ?_, hr.le⟩, by rw [hq]; exact (own.put (by omega) s q).lower (by omega), putQ_set wy _ _ _ hk (Nat.le_refl _)⟩
  unfold RdAt
  rw [(putQ_grown wy W.heap.size s q).block rb hr.rd.lt (fun e => by injection e with e; exact hb e)]
  exact hr.rd

set_option maxRecDepth 100000 in
set_option maxHeartbeats 4000000 in
theorem query_any (w0 : World) (tv : Value) (ts : List Tok) (rb : Nat) (S : Still w0 tv ts rb) (W : World) (a : Nat) (h : Rs w0 tv ts rb W a) :
    Calls Tryz.prog 24 #[ptr rb] W (QEnds w0 tv ts rb W (queryP (ts.drop a))) := by
  have HS := Lib.hid S
  have hrlt := h.rd.lt
  have hw0 := h.base.size
  have HW := Lib.hid hw0
  obtain ⟨R, hR⟩ : ∃ R, clausesP (ts.drop a) = R := ⟨_, rfl⟩
  rw [queryR_is, hR]
  have U0 : Hid (QLoop w0 tv ts rb W R 0 (((W.alloc (qyBox zeroS noQ)).alloc (qyBox zeroS noQ)).alloc (fnBox rb)) a zeroS noQ) := Lib.hid (by
    have b1 : Below W.heap.size W (W.alloc (qyBox zeroS noQ)) := (Below.refl _ W).alloc (Nat.le_refl _) _
    have s1 : (W.alloc (qyBox zeroS noQ)).heap.size = W.heap.size + 1 := by simp
    have s2 : ((W.alloc (qyBox zeroS noQ)).alloc (qyBox zeroS noQ)).heap.size = W.heap.size + 1 + 1 := by simp
    have e1 : QyAt ((W.alloc (qyBox zeroS noQ)).alloc (qyBox zeroS noQ)) (W.heap.size + 1) zeroS noQ := by
      have := qy_at (W.alloc (qyBox zeroS noQ)) zeroS noQ
      rwa [s1] at this
    have r2 := (h.alloc (qyBox zeroS noQ)).alloc (qyBox zeroS noQ)
    have nl : ∀ (w : World) (B : Nat) (e : TypeId) (sz : Nat), w.ownsRow B e sz (.slice none 0 0) 0 [] := fun w B e sz => World.ownsRow_nil _ _ _ _
    have d2 : Ds w0 tv ts rb (W.heap.size + 1) (W.heap.size + 2) ((W.alloc (qyBox zeroS noQ)).alloc (qyBox zeroS noQ)) a zeroS noQ :=
      ⟨r2, ⟨e1, nl _ _ _ _, nl _ _ _ _, nl _ _ _ _, fun _ => rfl⟩, by omega, by omega, by rw [s2]; omega⟩
    refine ⟨by rw [chain_all, hR], d2.alloc _, (((Kept.refl _ _ _ _).alloc (Nat.le_refl _) _).alloc (by rw [s1]; omega) _).alloc (by rw [s2]; omega) _, ?_, ?_, fun _ => rfl⟩
    · exact ((qy_at W zeroS noQ).below ((Below.refl _ _).alloc (Nat.le_refl _) _)).below ((Below.refl _ _).alloc (Nat.le_refl _) _)
    · have := heap_alloc_new ((W.alloc (qyBox zeroS noQ)).alloc (qyBox zeroS noQ)) (fnBox rb)
      unfold FnsAt
      rw [s2] at this
      exact this)
  clear S h hrlt hw0 hR
  go_enter Tryz.func24, Tryz.ntmps24
  go_wp2_with fail
  go_loopg [22] 6 (fun g i wx => ∃ (k c : Nat) (s : Sl) (q : Qy), k + g = 6 ∧ i = .int .i64 k ∧ Hid (QLoop w0 tv ts rb W R k wx c s q))
  case atStart => exact ⟨0, a, zeroS, noQ, by omega, rfl, U0⟩
  case round =>
    obtain ⟨k, c, s, q, hk, rfl, UX⟩ := hrel
    cases gk with
    | zero =>
      obtain rfl : k = 6 := by omega
      clear hk
      have hout : Out.mk 0 (ts.drop c) q = R := UX.out.out
      have HB := Lib.hid (ql_rb UX.out)
      by_cases hend : c = ts.length
      · have EN := Lib.hid (ended_any w0 tv ts rb HS.out)
        have E1 : Hid (∀ W', Rs w0 tv ts rb W' c → Calls Tryz.prog 25 #[ptr rb] W' fun e W2 => e = .returned (.bool true) ∧ Draws W' W2) := Lib.hid (fun W' hW => by
          have := EN.out W' c hW
          rwa [show decide (c = ts.length) = true from decide_eq_true hend] at this)
        have HO : Hid (queryR R = R ∧ R.l = ts.drop c ∧ R.q = q ∧ R.e = 0) := Lib.hid (by
          rw [← hout]
          refine ⟨?_, rfl, rfl, rfl⟩
          unfold queryR
          rw [if_neg (fun e => e rfl), if_pos (by show ts.drop c = []; rw [hend]; exact List.drop_length)])
        clear hout hend EN
        go_wp2_with fail
        refine (E1.out _ UX.out.ds.rs).mono ?_
        rintro e w1 ⟨rfl, hdr⟩
        have D1 := Lib.hid (UX.out.ds.below (hdr.below _))
        have K1 : Hid (Kept W.heap.size rb rb W w1) := Lib.hid (UX.out.kept.trans (Kept.draws hdr))
        have Q1 : Hid (QyAt w1 W.heap.size zeroS noQ) := Lib.hid (UX.out.res.below (hdr.below _))
        obtain ⟨ad1, cp1, e1⟩ := own_shape D1.out.qs.arg
        obtain ⟨ad2, cp2, e2⟩ := own_shape D1.out.qs.src
        obtain ⟨ad3, cp3, e3⟩ := own_shape D1.out.qs.cond
        obtain ⟨sa, ss, sc⟩ := s
        simp only at e1 e2 e3
        subst e1 e2 e3
        obtain ⟨c0, c1, c2, c3, c4, c5, c6, c7, c8, c9⟩ := D1.out.qs.at_.cells
        have g0 := Q1.out.frz
        obtain ⟨r0, r1, r2, r3, r4, r5, r6, r7, r8, r9⟩ := Q1.out.cells
        clear hdr
        go_wp2_with fail
        have P := putQ_at (s := ⟨.slice ad1 q.arg.length cp1, .slice ad2 q.src.length cp2, .slice ad3 q.cond.length cp3⟩) (q := q) Q1.out
        unfold putQ at P
        dsimp only at P
        (try simp only [Exit.inBlock, Exit.then])
        refine bodyPost_ret (ret_qt rfl _ _ W.heap.size ⟨.slice ad1 q.arg.length cp1, .slice ad2 q.src.length cp2, .slice ad3 q.cond.length cp3⟩ q rfl P) rfl ?_
        have Z := q_some D1.out K1.out HB.out HW.out (o := queryR R) (by rw [HO.out.1, HO.out.2.1]) (by rw [HO.out.1, HO.out.2.2.1])
        rw [show (queryR R).e = 0 by rw [HO.out.1, HO.out.2.2.2]] at Z
        exact Z
      · have EN := Lib.hid (ended_any w0 tv ts rb HS.out)
        have E1 : Hid (∀ W', Rs w0 tv ts rb W' c → Calls Tryz.prog 25 #[ptr rb] W' fun e W2 => e = .returned (.bool false) ∧ Draws W' W2) := Lib.hid (fun W' hW => by
          have := EN.out W' c hW
          rwa [show decide (c = ts.length) = false from decide_eq_false hend] at this)
        have HO : Hid (queryR R = ⟨38, ts.drop c, noQ⟩) := Lib.hid (by
          rw [← hout]
          unfold queryR
          rw [if_neg (fun e => e rfl), if_neg (by
            show ¬ ts.drop c = []
            intro e
            have := congrArg List.length e
            rw [List.length_drop] at this
            have := UX.out.ds.rs.le
            simp only [List.length_nil] at *
            omega)])
        clear hout hend EN
        go_wp2_with fail
        refine (E1.out _ UX.out.ds.rs).mono ?_
        rintro e w1 ⟨rfl, hdr⟩
        have D1 := Lib.hid (UX.out.ds.below (hdr.below _))
        have K1 : Hid (Kept W.heap.size rb rb W w1) := Lib.hid (UX.out.kept.trans (Kept.draws hdr))
        have Q1 : Hid (QyAt w1 W.heap.size zeroS noQ) := Lib.hid (UX.out.res.below (hdr.below _))
        have g0 := Q1.out.frz
        obtain ⟨r0, r1, r2, r3, r4, r5, r6, r7, r8, r9⟩ := Q1.out.cells
        clear hdr
        go_wp2_with fail
        have P := putQ_at (s := zeroS) (q := noQ) Q1.out
        unfold putQ at P
        dsimp only [zeroS, noQ] at P
        (try simp only [Exit.inBlock, Exit.then])
        refine bodyPost_ret (ret_qt rfl _ _ W.heap.size zeroS noQ rfl P) rfl ?_
        have Z := q_none D1.out.rs K1.out HB.out HW.out (o := queryR R) (by rw [HO.out]) (by rw [HO.out])
        rw [show (queryR R).e = 38 by rw [HO.out]] at Z
        exact Z
    | succ g =>
      have hx := UX.out.out
      have HB := Lib.hid (ql_rb UX.out)
      have hfn : ∀ j, wr.cell? ⟨W.heap.size + 1 + 1, j, none⟩ = _ := fun j => cell_of UX.out.fns j
      match k, hk, UX, hx with
      | 0, hk, UX, hx =>
        replace hx : (aggP (ts.drop c) q).then (chain 1) = R := hx
        have c0 := hfn 0
        replace c0 : wr.cell? ⟨W.heap.size + 1 + 1, 0, none⟩ = some (.func (.func 53) #[ptr rb] #[]) := c0
        clear hfn
        obtain ⟨o, ho⟩ : ∃ o, aggP (ts.drop c) q = o := ⟨_, rfl⟩
        have A := Lib.hid (aggregate_any w0 tv ts rb (W.heap.size + 1) (W.heap.size + 2) HS.out wr c s q UX.out.ds)
        rw [ho] at hx A
        have HF : Hid (o.q.src = []) := Lib.hid (by
          obtain ⟨g1, x1, hx1⟩ := (agg_law (l := ts.drop c) (q := q) (TsOk.suffix HS.out.ok (List.drop_suffix _ _))).frame
          rw [ho] at hx1
          rw [hx1]; exact UX.out.src (by decide))
        by_cases he : o.e = 0
        · have HX := Lib.hid hx
          have HE := Lib.hid he
          clear hx ho he
          go_wp2_with fail
          refine A.out.mono ?_
          rintro e w1 ⟨rfl, a1, s1, hm, hd, hk2⟩
          have U1 := Lib.hid (ql_next UX.out HX.out HE.out hm hd hk2 (fun _ => HF.out))
          clear hm hd hk2 c0
          rw [HE.out]
          go_wp2_with fail
          go_roundg g
          case measure => omega
          case rel => exact ⟨1, a1, s1, o.q, by omega, by go_num, U1⟩
        · rw [Prs.then_bad he] at hx
          have q1 : (o.e != 0) = true := by rw [bne_iff_ne]; exact he
          have HO : Hid (queryR R = ⟨o.e, o.l, noQ⟩) := Lib.hid (by rw [← hx]; exact if_pos he)
          clear hx ho he
          go_wp2_with fail
          refine A.out.mono ?_
          rintro e w1 ⟨rfl, a1, s1, hm, hd, hk2⟩
          have D1 := Lib.hid hd
          have M1 := Lib.hid hm
          have K1 := Lib.hid (ql_kept UX.out.kept hk2)
          have Q1 : Hid (QyAt w1 W.heap.size zeroS noQ) := Lib.hid ((hk2.block W.heap.size (by have := UX.out.fns.lt; omega) (fun e => HB.out e.symm) (by omega)).trans UX.out.res)
          have g0 := Q1.out.frz
          obtain ⟨r0, r1, r2, r3, r4, r5, r6, r7, r8, r9⟩ := Q1.out.cells
          clear hm hd hk2 c0
          go_wp2_with fail
          have P := putQ_at (s := zeroS) (q := noQ) Q1.out
          unfold putQ at P
          dsimp only [zeroS, noQ] at P
          (try simp only [Exit.inBlock, Exit.then])
          refine bodyPost_ret (ret_qt rfl _ _ W.heap.size zeroS noQ rfl P) rfl ?_
          have Z := q_none D1.out.rs K1.out HB.out HW.out (o := queryR R) (by rw [HO.out]; exact M1.out) (by rw [HO.out])
          rw [show (queryR R).e = o.e by rw [HO.out]] at Z
          exact Z
      | 1, hk, UX, hx =>
        replace hx : (fromP (ts.drop c) q).then (chain 2) = R := hx
        have c0 := hfn 1
        replace c0 : wr.cell? ⟨W.heap.size + 1 + 1, 1, none⟩ = some (.func (.func 54) #[ptr rb] #[]) := c0
        clear hfn
        obtain ⟨o, ho⟩ : ∃ o, fromP (ts.drop c) q = o := ⟨_, rfl⟩
        have A := Lib.hid (sources_any w0 tv ts rb (W.heap.size + 1) (W.heap.size + 2) HS.out wr c s q UX.out.ds (UX.out.src (by decide)))
        rw [ho] at hx A
        by_cases he : o.e = 0
        · have HX := Lib.hid hx
          have HE := Lib.hid he
          clear hx ho he
          go_wp2_with fail
          refine A.out.mono ?_
          rintro e w1 ⟨rfl, a1, s1, hm, hd, hk2⟩
          have U1 := Lib.hid (ql_next UX.out HX.out HE.out hm hd hk2 (fun h => absurd h (by decide)))
          clear hm hd hk2 c0
          rw [HE.out]
          go_wp2_with fail
          go_roundg g
          case measure => omega
          case rel => exact ⟨2, a1, s1, o.q, by omega, by go_num, U1⟩
        · rw [Prs.then_bad he] at hx
          have q1 : (o.e != 0) = true := by rw [bne_iff_ne]; exact he
          have HO : Hid (queryR R = ⟨o.e, o.l, noQ⟩) := Lib.hid (by rw [← hx]; exact if_pos he)
          clear hx ho he
          go_wp2_with fail
          refine A.out.mono ?_
          rintro e w1 ⟨rfl, a1, s1, hm, hd, hk2⟩
          have D1 := Lib.hid hd
          have M1 := Lib.hid hm
          have K1 := Lib.hid (ql_kept UX.out.kept hk2)
          have Q1 : Hid (QyAt w1 W.heap.size zeroS noQ) := Lib.hid ((hk2.block W.heap.size (by have := UX.out.fns.lt; omega) (fun e => HB.out e.symm) (by omega)).trans UX.out.res)
          have g0 := Q1.out.frz
          obtain ⟨r0, r1, r2, r3, r4, r5, r6, r7, r8, r9⟩ := Q1.out.cells
          clear hm hd hk2 c0
          go_wp2_with fail
          have P := putQ_at (s := zeroS) (q := noQ) Q1.out
          unfold putQ at P
          dsimp only [zeroS, noQ] at P
          (try simp only [Exit.inBlock, Exit.then])
          refine bodyPost_ret (ret_qt rfl _ _ W.heap.size zeroS noQ rfl P) rfl ?_
          have Z := q_none D1.out.rs K1.out HB.out HW.out (o := queryR R) (by rw [HO.out]; exact M1.out) (by rw [HO.out])
          rw [show (queryR R).e = o.e by rw [HO.out]] at Z
          exact Z
      | 2, hk, UX, hx =>
        replace hx : (condP (ts.drop c) q).then (chain 3) = R := hx
        have c0 := hfn 2
        replace c0 : wr.cell? ⟨W.heap.size + 1 + 1, 2, none⟩ = some (.func (.func 55) #[ptr rb] #[]) := c0
        clear hfn
        obtain ⟨o, ho⟩ : ∃ o, condP (ts.drop c) q = o := ⟨_, rfl⟩
        have A := Lib.hid (condition_any w0 tv ts rb (W.heap.size + 1) (W.heap.size + 2) HS.out wr c s q UX.out.ds)
        rw [ho] at hx A
        by_cases he : o.e = 0
        · have HX := Lib.hid hx
          have HE := Lib.hid he
          clear hx ho he
          go_wp2_with fail
          refine A.out.mono ?_
          rintro e w1 ⟨rfl, a1, s1, hm, hd, hk2⟩
          have U1 := Lib.hid (ql_next UX.out HX.out HE.out hm hd hk2 (fun h => absurd h (by decide)))
          clear hm hd hk2 c0
          rw [HE.out]
          go_wp2_with fail
          go_roundg g
          case measure => omega
          case rel => exact ⟨3, a1, s1, o.q, by omega, by go_num, U1⟩
        · rw [Prs.then_bad he] at hx
          have q1 : (o.e != 0) = true := by rw [bne_iff_ne]; exact he
          have HO : Hid (queryR R = ⟨o.e, o.l, noQ⟩) := Lib.hid (by rw [← hx]; exact if_pos he)
          clear hx ho he
          go_wp2_with fail
          refine A.out.mono ?_
          rintro e w1 ⟨rfl, a1, s1, hm, hd, hk2⟩
          have D1 := Lib.hid hd
          have M1 := Lib.hid hm
          have K1 := Lib.hid (ql_kept UX.out.kept hk2)
          have Q1 : Hid (QyAt w1 W.heap.size zeroS noQ) := Lib.hid ((hk2.block W.heap.size (by have := UX.out.fns.lt; omega) (fun e => HB.out e.symm) (by omega)).trans UX.out.res)
          have g0 := Q1.out.frz
          obtain ⟨r0, r1, r2, r3, r4, r5, r6, r7, r8, r9⟩ := Q1.out.cells
          clear hm hd hk2 c0
          go_wp2_with fail
          have P := putQ_at (s := zeroS) (q := noQ) Q1.out
          unfold putQ at P
          dsimp only [zeroS, noQ] at P
          (try simp only [Exit.inBlock, Exit.then])
          refine bodyPost_ret (ret_qt rfl _ _ W.heap.size zeroS noQ rfl P) rfl ?_
          have Z := q_none D1.out.rs K1.out HB.out HW.out (o := queryR R) (by rw [HO.out]; exact M1.out) (by rw [HO.out])
          rw [show (queryR R).e = o.e by rw [HO.out]] at Z
          exact Z
      | 3, hk, UX, hx =>
        replace hx : (winP (ts.drop c) q).then (chain 4) = R := hx
        have c0 := hfn 3
        replace c0 : wr.cell? ⟨W.heap.size + 1 + 1, 3, none⟩ = some (.func (.func 56) #[ptr rb] #[]) := c0
        clear hfn
        obtain ⟨o, ho⟩ : ∃ o, winP (ts.drop c) q = o := ⟨_, rfl⟩
        have A := Lib.hid (window_any w0 tv ts rb (W.heap.size + 1) (W.heap.size + 2) HS.out wr c s q UX.out.ds)
        rw [ho] at hx A
        by_cases he : o.e = 0
        · have HX := Lib.hid hx
          have HE := Lib.hid he
          clear hx ho he
          go_wp2_with fail
          refine A.out.mono ?_
          rintro e w1 ⟨rfl, a1, s1, hm, hd, hk2⟩
          have U1 := Lib.hid (ql_next UX.out HX.out HE.out hm hd hk2 (fun h => absurd h (by decide)))
          clear hm hd hk2 c0
          rw [HE.out]
          go_wp2_with fail
          go_roundg g
          case measure => omega
          case rel => exact ⟨4, a1, s1, o.q, by omega, by go_num, U1⟩
        · rw [Prs.then_bad he] at hx
          have q1 : (o.e != 0) = true := by rw [bne_iff_ne]; exact he
          have HO : Hid (queryR R = ⟨o.e, o.l, noQ⟩) := Lib.hid (by rw [← hx]; exact if_pos he)
          clear hx ho he
          go_wp2_with fail
          refine A.out.mono ?_
          rintro e w1 ⟨rfl, a1, s1, hm, hd, hk2⟩
          have D1 := Lib.hid hd
          have M1 := Lib.hid hm
          have K1 := Lib.hid (ql_kept UX.out.kept hk2)
          have Q1 : Hid (QyAt w1 W.heap.size zeroS noQ) := Lib.hid ((hk2.block W.heap.size (by have := UX.out.fns.lt; omega) (fun e => HB.out e.symm) (by omega)).trans UX.out.res)
          have g0 := Q1.out.frz
          obtain ⟨r0, r1, r2, r3, r4, r5, r6, r7, r8, r9⟩ := Q1.out.cells
          clear hm hd hk2 c0
          go_wp2_with fail
          have P := putQ_at (s := zeroS) (q := noQ) Q1.out
          unfold putQ at P
          dsimp only [zeroS, noQ] at P
          (try simp only [Exit.inBlock, Exit.then])
          refine bodyPost_ret (ret_qt rfl _ _ W.heap.size zeroS noQ rfl P) rfl ?_
          have Z := q_none D1.out.rs K1.out HB.out HW.out (o := queryR R) (by rw [HO.out]; exact M1.out) (by rw [HO.out])
          rw [show (queryR R).e = o.e by rw [HO.out]] at Z
          exact Z
      | 4, hk, UX, hx =>
        replace hx : (keyP (ts.drop c) q).then (chain 5) = R := hx
        have c0 := hfn 4
        replace c0 : wr.cell? ⟨W.heap.size + 1 + 1, 4, none⟩ = some (.func (.func 57) #[ptr rb] #[]) := c0
        clear hfn
        obtain ⟨o, ho⟩ : ∃ o, keyP (ts.drop c) q = o := ⟨_, rfl⟩
        have A := Lib.hid (key_any w0 tv ts rb (W.heap.size + 1) (W.heap.size + 2) HS.out wr c s q UX.out.ds)
        rw [ho] at hx A
        by_cases he : o.e = 0
        · have HX := Lib.hid hx
          have HE := Lib.hid he
          clear hx ho he
          go_wp2_with fail
          refine A.out.mono ?_
          rintro e w1 ⟨rfl, a1, s1, hm, hd, hk2⟩
          have U1 := Lib.hid (ql_next UX.out HX.out HE.out hm hd hk2 (fun h => absurd h (by decide)))
          clear hm hd hk2 c0
          rw [HE.out]
          go_wp2_with fail
          go_roundg g
          case measure => omega
          case rel => exact ⟨5, a1, s1, o.q, by omega, by go_num, U1⟩
        · rw [Prs.then_bad he] at hx
          have q1 : (o.e != 0) = true := by rw [bne_iff_ne]; exact he
          have HO : Hid (queryR R = ⟨o.e, o.l, noQ⟩) := Lib.hid (by rw [← hx]; exact if_pos he)
          clear hx ho he
          go_wp2_with fail
          refine A.out.mono ?_
          rintro e w1 ⟨rfl, a1, s1, hm, hd, hk2⟩
          have D1 := Lib.hid hd
          have M1 := Lib.hid hm
          have K1 := Lib.hid (ql_kept UX.out.kept hk2)
          have Q1 : Hid (QyAt w1 W.heap.size zeroS noQ) := Lib.hid ((hk2.block W.heap.size (by have := UX.out.fns.lt; omega) (fun e => HB.out e.symm) (by omega)).trans UX.out.res)
          have g0 := Q1.out.frz
          obtain ⟨r0, r1, r2, r3, r4, r5, r6, r7, r8, r9⟩ := Q1.out.cells
          clear hm hd hk2 c0
          go_wp2_with fail
          have P := putQ_at (s := zeroS) (q := noQ) Q1.out
          unfold putQ at P
          dsimp only [zeroS, noQ] at P
          (try simp only [Exit.inBlock, Exit.then])
          refine bodyPost_ret (ret_qt rfl _ _ W.heap.size zeroS noQ rfl P) rfl ?_
          have Z := q_none D1.out.rs K1.out HB.out HW.out (o := queryR R) (by rw [HO.out]; exact M1.out) (by rw [HO.out])
          rw [show (queryR R).e = o.e by rw [HO.out]] at Z
          exact Z
      | 5, hk, UX, hx =>
        replace hx : (lateP (ts.drop c) q).then (chain 6) = R := hx
        have c0 := hfn 5
        replace c0 : wr.cell? ⟨W.heap.size + 1 + 1, 5, none⟩ = some (.func (.func 58) #[ptr rb] #[]) := c0
        clear hfn
        obtain ⟨o, ho⟩ : ∃ o, lateP (ts.drop c) q = o := ⟨_, rfl⟩
        have A := Lib.hid (late_any w0 tv ts rb (W.heap.size + 1) (W.heap.size + 2) HS.out wr c s q UX.out.ds)
        rw [ho] at hx A
        by_cases he : o.e = 0
        · have HX := Lib.hid hx
          have HE := Lib.hid he
          clear hx ho he
          go_wp2_with fail
          refine A.out.mono ?_
          rintro e w1 ⟨rfl, a1, s1, hm, hd, hk2⟩
          have U1 := Lib.hid (ql_next UX.out HX.out HE.out hm hd hk2 (fun h => absurd h (by decide)))
          clear hm hd hk2 c0
          rw [HE.out]
          go_wp2_with fail
          go_roundg g
          case measure => omega
          case rel => exact ⟨6, a1, s1, o.q, by omega, by go_num, U1⟩
        · rw [Prs.then_bad he] at hx
          have q1 : (o.e != 0) = true := by rw [bne_iff_ne]; exact he
          have HO : Hid (queryR R = ⟨o.e, o.l, noQ⟩) := Lib.hid (by rw [← hx]; exact if_pos he)
          clear hx ho he
          go_wp2_with fail
          refine A.out.mono ?_
          rintro e w1 ⟨rfl, a1, s1, hm, hd, hk2⟩
          have D1 := Lib.hid hd
          have M1 := Lib.hid hm
          have K1 := Lib.hid (ql_kept UX.out.kept hk2)
          have Q1 : Hid (QyAt w1 W.heap.size zeroS noQ) := Lib.hid ((hk2.block W.heap.size (by have := UX.out.fns.lt; omega) (fun e => HB.out e.symm) (by omega)).trans UX.out.res)
          have g0 := Q1.out.frz
          obtain ⟨r0, r1, r2, r3, r4, r5, r6, r7, r8, r9⟩ := Q1.out.cells
          clear hm hd hk2 c0
          go_wp2_with fail
          have P := putQ_at (s := zeroS) (q := noQ) Q1.out
          unfold putQ at P
          dsimp only [zeroS, noQ] at P
          (try simp only [Exit.inBlock, Exit.then])
          refine bodyPost_ret (ret_qt rfl _ _ W.heap.size zeroS noQ rfl P) rfl ?_
          have Z := q_none D1.out.rs K1.out HB.out HW.out (o := queryR R) (by rw [HO.out]; exact M1.out) (by rw [HO.out])
          rw [show (queryR R).e = o.e by rw [HO.out]] at Z
          exact Z
      | k + 6, hk, _, _ => omega
end Go.Proofs.YtdinaedknlkicaaGreatDoor.ParserW
/-
  Contracts of package parser at the landed code (layer 9): Parse.
-/
namespace Go.Proofs.YtdinaedknlkicaaGreatDoor.ParserW
open Nodes Exprs ExprW Prs
open Go.ChangeShapes Go.WideShapes Go.ChangeAt Go.RowKit

theorem results_cell_tmp2 {fn : Func} {p u v : Tmp} {ty : TypeId} (h : fn.results = #[.cell p ty, .tmp u, .tmp v]) (tmps : Array Value) (P : Program) (w : World) :
    (results fn tmps).run P w =
      ((asAddr (tmps.getD p undef)).run P w).andThen fun a w₁ => ((loadVar ty a).run P w₁).andThen fun x w₂ => .ok (.tuple #[x, tmps.getD u undef, tmps.getD v undef]) w₂ := by
  simp only [results, h]
  simp [Sem.run_bind, Result.andThen]
theorem ret_q3 {fn : Func} {p u v : Tmp} (h : fn.results = #[.cell p 28, .tmp u, .tmp v]) (tmps : Array Value) (w : World) (b : Nat) (s : Sl) (q : Qy) (hp : tmps.getD p undef = .pointer (some ⟨b, 0, none⟩)) (hq : QyAt w b s q) :
    (results fn tmps).run Tryz.prog w = .ok (.tuple #[qyVal s q, tmps.getD u undef, tmps.getD v undef]) w := by
  have hl := run_loadVar_mid (P := Tryz.prog) w b 0 28 (qyRow s q).toList _ (qy_range hq) Tryz.underlying28 rfl iQy
  rw [results_cell_tmp2 h, hp]
  simp only [asAddr, Sem.run_pure, Result.andThen_ok, hl]
  rfl
/-- The place of the next token, or the end. -/
def placeP (n : Int) : List Tok → Int
  | [] => n
  | t :: _ => t.at_
theorem parse_place {s : List UInt8} (h : (allV s).2.2 = 0) : parseP s = ((queryP (allV s).1).q, placeP s.length (queryP (allV s).1).l, (queryP (allV s).1).e) := by
  rw [parseP_ok h]
  cases (queryP (allV s).1).l <;> rfl
theorem putQ_cell {w : World} {b : Nat} (s : Sl) (q : Qy) {a : Addr} (ha : a.block < w.heap.size) (hb : a.block ≠ b) : (putQ w b s q).cell? a = w.cell? a :=
  World.cell?_of_block ((putQ_grown w b s q).block a.block ha (fun e => by injection e with e; exact hb e))
/-- What Parse ends with. -/
def ParEnds (r : Qy × Int × Int) (w : World) (e : Ending) (w' : World) : Prop :=
  ∃ sl, e = .returned (.tuple #[qyVal sl r.1, .int .i64 r.2.1, .int .i64 r.2.2]) ∧ ReadsQ w' sl r.1 ∧ Below w.heap.size w w'
theorem drop_nil {ts : List Tok} {c : Nat} (hc : c ≤ ts.length) : ts.drop c = [] ↔ c = ts.length := by
  constructor
  · intro h
    have := congrArg List.length h
    rw [List.length_drop, List.length_nil] at this
    omega
  · intro h; rw [h]; exact List.drop_length
set_option maxRecDepth 100000 in
set_option maxHeartbeats 2000000 in
theorem parse_any (s : ByteArray) (hs : s.size ≤ maxLen) (w : World) (hf : ParFix w) :
    Calls Tryz.prog 8 #[.string s] w (ParEnds (parseP s.data.toList) w) := by
  have el : s.data.toList.length = s.size := by simp
  have A := Lib.hid (lexAll_any s hs (w.alloc (qyBox zeroS noQ)) (hf.1.1.below (Nodes.box_below w _)))
  have F := Lib.hid hf
  have Q0 : Hid (QyAt (w.alloc (qyBox zeroS noQ)) w.heap.size zeroS noQ) := Lib.hid (qy_at w zeroS noQ)
  obtain ⟨ts, n0, e0, ha⟩ : ∃ ts n0 e0, allV s.data.toList = (ts, n0, e0) := ⟨_, _, _, rfl⟩
  have hok := all_ok_ts s.data.toList
  have hsh := all_short9 s.data.toList
  unfold AllEnds at A
  rw [ha] at A hok hsh
  simp only at A
  by_cases he : e0 = 0
  · subst he
    have hP := parse_place (s := s.data.toList) (by rw [ha])
    rw [ha] at hP
    simp only at hP
    rw [hP]
    obtain ⟨o, ho⟩ : ∃ o, queryP ts = o := ⟨_, rfl⟩
    rw [ho]
    obtain ⟨pp, hpp⟩ : ∃ pp : Int, placeP (s.data.toList.length : Int) o.l = pp := ⟨_, rfl⟩
    rw [hpp]
    have HPP := Lib.hid hpp
    have HO := Lib.hid ho
    have HT := Lib.hid hok
    have HSH := Lib.hid hsh
    have HE := Lib.hid el
    clear ha hok hsh hP ho hf el hpp
    go_enter Tryz.func8, Tryz.ntmps8
    go_wp2_with fail
    refine A.out.mono ?_
    rintro e w1 ⟨v, rfl, hown, hb, _⟩
    obtain ⟨ad, cap, rfl⟩ := own_shape hown
    have HAD : Hid (∀ k, (Value.slice ad ts.length cap).ownBlock = some k → w.heap.size + 1 ≤ k) := Lib.hid (fun k hk => by have := (hown.lt k hk).1; simpa using this)
    have B1 : Hid (Below w.heap.size w w1) := Lib.hid ((Nodes.box_below w _).trans (hb.mono (by simp)))
    have Q1 : Hid (QyAt w1 w.heap.size zeroS noQ) := Lib.hid (Q0.out.below hb)
    have S1 : Hid (Still w1 (.slice ad ts.length cap) ts w1.heap.size) := Lib.hid ⟨F.out.below B1.out, own_reads hown, HT.out, HSH.out.2, Nat.le_refl _⟩
    have R1 : Hid (Rs w1 (.slice ad ts.length cap) ts w1.heap.size (w1.alloc (.cells #[.slice ad ts.length cap, .int .i64 0] 61)) 0) := Lib.hid ⟨Nodes.box_below w1 _, rd_at w1 _ 0, Nat.zero_le _⟩
    have Q2 : Hid (QyAt (w1.alloc (.cells #[.slice ad ts.length cap, .int .i64 0] 61)) w.heap.size zeroS noQ) := Lib.hid (Q1.out.below (Nodes.box_below _ _))
    clear hb hown
    go_wp2_with fail
    refine (query_any w1 _ ts w1.heap.size S1.out _ 0 R1.out).mono ?_
    rintro e w2 ⟨c, ⟨sa, ss, sc⟩, rfl, hc, hr, hrd, hk⟩
    rw [List.drop_zero, HO.out] at hc hrd ⊢
    obtain ⟨x1, m1, e1⟩ := own_shape hrd.arg
    obtain ⟨x2, m2, e2⟩ := own_shape hrd.src
    obtain ⟨x3, m3, e3⟩ := own_shape hrd.cond
    simp only at e1 e2 e3
    subst e1 e2 e3
    have B2 : Hid (Below w.heap.size w w2) := Lib.hid (hk.below (B1.out.alloc B1.out.size _) (by have := B1.out.size; simp; omega) B1.out.size B1.out.size)
    have q1lt := Q1.out.lt
    have Q3 : Hid (QyAt w2 w.heap.size zeroS noQ) := Lib.hid ((hk.block w.heap.size (by simp; omega) (by omega) (by omega)).trans Q2.out)
    have C2 : Hid (ts.drop c = o.l) := Lib.hid hc
    have R2 := Lib.hid hr
    have RD2 := Lib.hid hrd
    clear hc hr hrd hk q1lt
    obtain ⟨og, hog⟩ : ∃ q, o.q = q := ⟨_, rfl⟩
    have OG := Lib.hid hog
    rw [hog] at RD2 ⊢
    clear hog
    have eqv : ∀ (a b d : Value), qyVal ⟨a, b, d⟩ og = .agg #[.int .u8 og.agg, a, b, .bool og.join, d, .int .u8 og.win.kind, .int .i64 og.win.size, .int .i64 og.win.every, .bool og.key, .int .u8 og.late] := fun _ _ _ => rfl
    rw [eqv]
    have D3 : Hid (QyAt (w2.alloc (qyBox ⟨.slice x1 og.arg.length m1, .slice x2 og.src.length m2, .slice x3 og.cond.length m3⟩ og)) w2.heap.size ⟨.slice x1 og.arg.length m1, .slice x2 og.src.length m2, .slice x3 og.cond.length m3⟩ og) := Lib.hid (qy_at w2 _ og)
    have R3 := Lib.hid (R2.out.alloc (qyBox ⟨.slice x1 og.arg.length m1, .slice x2 og.src.length m2, .slice x3 og.cond.length m3⟩ og))
    have Q4 : Hid (QyAt (w2.alloc (qyBox ⟨.slice x1 og.arg.length m1, .slice x2 og.src.length m2, .slice x3 og.cond.length m3⟩ og)) w.heap.size zeroS noQ) := Lib.hid (Q3.out.below (Nodes.box_below _ _))
    clear eqv
    by_cases hend : c = ts.length
    · have E1 : Hid (∀ W', Rs w1 (.slice ad ts.length cap) ts w1.heap.size W' c → Calls Tryz.prog 25 #[ptr w1.heap.size] W' fun e W2 => e = .returned (.bool true) ∧ Draws W' W2) := Lib.hid (fun W' hW => by
        have := ended_any w1 _ ts w1.heap.size S1.out W' c hW
        rwa [show decide (c = ts.length) = true from decide_eq_true hend] at this)
      have HL : Hid (o.l = []) := Lib.hid (by rw [← C2.out]; exact (drop_nil R2.out.le).2 hend)
      clear hend
      go_wp2_with fail
      refine (E1.out _ R3.out).mono ?_
      rintro e w3 ⟨rfl, hdr⟩
      have Q5 : Hid (QyAt w3 w.heap.size zeroS noQ) := Lib.hid (Q4.out.below (hdr.below _))
      have D5 := Lib.hid (D3.out.below (hdr.below _))
      have B5 : Hid (Below w.heap.size w w3) := Lib.hid ((B2.out.alloc B2.out.size _).trans (hdr.below _))
      have RD5 := Lib.hid ((RD2.out.below (Nodes.box_below w2 (qyBox ⟨.slice x1 og.arg.length m1, .slice x2 og.src.length m2, .slice x3 og.cond.length m3⟩ og))).below (hdr.below _))
      obtain ⟨c0, c1, c2, c3, c4, c5, c6, c7, c8, c9⟩ := D5.out.cells
      obtain ⟨r0, r1, r2, r3, r4, r5, r6, r7, r8, r9⟩ := Q5.out.cells
      have g0 := Q5.out.frz
      clear hdr
      go_wp2_with fail
      have P := putQ_at (s := ⟨.slice x1 og.arg.length m1, .slice x2 og.src.length m2, .slice x3 og.cond.length m3⟩) (q := og) Q5.out
      unfold putQ at P
      dsimp only at P
      (try simp only [Exit.inBlock, Exit.then])
      refine bodyPost_ret (ret_q3 rfl _ _ w.heap.size ⟨.slice x1 og.arg.length m1, .slice x2 og.src.length m2, .slice x3 og.cond.length m3⟩ og rfl P) rfl ?_
      have hpp := HPP.out
      rw [HL.out] at hpp
      replace hpp : (s.data.toList.length : Int) = pp := hpp
      rw [HE.out] at hpp
      subst hpp
      have Z5 : ReadsQ (putQ w3 w.heap.size ⟨.slice x1 og.arg.length m1, .slice x2 og.src.length m2, .slice x3 og.cond.length m3⟩ og) ⟨.slice x1 og.arg.length m1, .slice x2 og.src.length m2, .slice x3 og.cond.length m3⟩ og := (RD5.out.put (show w.heap.size < _ by have := B1.out.size; simp; omega) _ og).reads
      have Z : ParEnds (og, (s.size : Int), o.e) w (.returned (.tuple #[qyVal ⟨.slice x1 og.arg.length m1, .slice x2 og.src.length m2, .slice x3 og.cond.length m3⟩ og, .int .i64 s.size, .int .i64 o.e])) (putQ w3 w.heap.size ⟨.slice x1 og.arg.length m1, .slice x2 og.src.length m2, .slice x3 og.cond.length m3⟩ og) :=
        ⟨_, rfl, Z5, putQ_below B5.out (Nat.le_refl _) _ _⟩
      rw [OG.out]
      exact Z
    · have hlt : c < ts.length := by have := R2.out.le; omega
      have E1 : Hid (∀ W', Rs w1 (.slice ad ts.length cap) ts w1.heap.size W' c → Calls Tryz.prog 25 #[ptr w1.heap.size] W' fun e W2 => e = .returned (.bool false) ∧ Draws W' W2) := Lib.hid (fun W' hW => by
        have := ended_any w1 _ ts w1.heap.size S1.out W' c hW
        rwa [show decide (c = ts.length) = false from decide_eq_false hend] at this)
      have HL : Hid (o.l = ts.drop c) := Lib.hid C2.out.symm
      have LT := Lib.hid hlt
      clear hend hlt
      go_wp2_with fail
      refine (E1.out _ R3.out).mono ?_
      rintro e w3 ⟨rfl, hdr⟩
      have Q5 : Hid (QyAt w3 w.heap.size zeroS noQ) := Lib.hid (Q4.out.below (hdr.below _))
      have D5 := Lib.hid (D3.out.below (hdr.below _))
      have B5 : Hid (Below w.heap.size w w3) := Lib.hid ((B2.out.alloc B2.out.size _).trans (hdr.below _))
      have RD5 := Lib.hid ((RD2.out.below (Nodes.box_below w2 (qyBox ⟨.slice x1 og.arg.length m1, .slice x2 og.src.length m2, .slice x3 og.cond.length m3⟩ og))).below (hdr.below _))
      have R5 := Lib.hid (R3.out.draws hdr)
      obtain ⟨bt, ot, cp, xt, hv, hx, hbt, d0, d1, d2⟩ := (R5.out.reads S1.out).tok c LT.out
      cases hv
      obtain ⟨at_, hat⟩ : ∃ at_, (ts[c]'LT.out).at_ = at_ := ⟨_, rfl⟩
      rw [hat] at d2
      have HPL : Hid (pp = at_) := Lib.hid (by
        rw [← HPP.out, HL.out, List.drop_eq_getElem_cons LT.out, ← hat]; rfl)
      obtain ⟨k0, k1⟩ := R5.out.rd.cells
      have l1 : (c : Int) < (ts.length : Int) := by have := LT.out; omega
      obtain ⟨c0, c1, c2, c3, c4, c5, c6, c7, c8, c9⟩ := D5.out.cells
      obtain ⟨r0, r1, r2, r3, r4, r5, r6, r7, r8, r9⟩ := Q5.out.cells
      have g0 := Q5.out.frz
      clear hdr hat hx d0 d1
      have hb0 : w.heap.size < w1.heap.size := Q1.out.lt
      have hbt0 : w.heap.size ≠ bt := fun e => by
        have := HAD.out bt rfl
        omega
      have p0 : (putQ w3 w.heap.size ⟨.slice x1 og.arg.length m1, .slice x2 og.src.length m2, .slice x3 og.cond.length m3⟩ og).cell? ⟨w1.heap.size, 0, none⟩ = _ := (putQ_cell _ _ R5.out.rd.lt (by show w1.heap.size ≠ w.heap.size; omega)).trans k0
      have p1 : (putQ w3 w.heap.size ⟨.slice x1 og.arg.length m1, .slice x2 og.src.length m2, .slice x3 og.cond.length m3⟩ og).cell? ⟨w1.heap.size, 1, none⟩ = _ := (putQ_cell _ _ R5.out.rd.lt (by show w1.heap.size ≠ w.heap.size; omega)).trans k1
      have p2 : (putQ w3 w.heap.size ⟨.slice x1 og.arg.length m1, .slice x2 og.src.length m2, .slice x3 og.cond.length m3⟩ og).cell? ⟨bt, ot + c * 3 + 2, none⟩ = _ := (putQ_cell _ _ hbt (by show bt ≠ w.heap.size; omega)).trans d2
      unfold putQ at p0 p1 p2
      dsimp only at p0 p1 p2
      clear hb0 hbt0
      go_wp2_with fail
      go_region
      go_wp2_with fail
      have P := (putQ_at (s := ⟨.slice x1 og.arg.length m1, .slice x2 og.src.length m2, .slice x3 og.cond.length m3⟩) (q := og) Q5.out).below (Below.drew (Below.refl _ _))
      unfold putQ at P
      dsimp only at P
      (try simp only [Exit.inBlock, Exit.then])
      refine bodyPost_ret (ret_q3 rfl _ _ w.heap.size ⟨.slice x1 og.arg.length m1, .slice x2 og.src.length m2, .slice x3 og.cond.length m3⟩ og rfl P) rfl ?_
      have Z5 : ReadsQ (putQ w3 w.heap.size ⟨.slice x1 og.arg.length m1, .slice x2 og.src.length m2, .slice x3 og.cond.length m3⟩ og) ⟨.slice x1 og.arg.length m1, .slice x2 og.src.length m2, .slice x3 og.cond.length m3⟩ og := (RD5.out.put (show w.heap.size < _ by have := B1.out.size; simp; omega) _ og).reads
      have Z : ParEnds (og, at_, o.e) w (.returned (.tuple #[qyVal ⟨.slice x1 og.arg.length m1, .slice x2 og.src.length m2, .slice x3 og.cond.length m3⟩ og, .int .i64 at_, .int .i64 o.e])) (putQ w3 w.heap.size ⟨.slice x1 og.arg.length m1, .slice x2 og.src.length m2, .slice x3 og.cond.length m3⟩ og).drew :=
        ⟨_, rfl, Z5.below (Below.drew (Below.refl _ _)), (putQ_below B5.out (Nat.le_refl _) _ _).drew⟩
      rw [OG.out, HPL.out]
      exact Z
  · have hP := parseP_bad (s := s.data.toList) (by rw [ha]; exact he)
    rw [ha] at hP
    simp only at hP
    rw [hP]
    have q1 : (e0 != 0) = true := by rw [bne_iff_ne]; exact he
    have HE := Lib.hid he
    clear ha hok hsh hP hf el he
    go_enter Tryz.func8, Tryz.ntmps8
    go_wp2_with fail
    refine A.out.mono ?_
    rintro e w1 ⟨v, rfl, hown, hb, hv⟩
    obtain rfl := hv HE.out
    have B1 : Hid (Below w.heap.size w w1) := Lib.hid ((Nodes.box_below w _).trans (hb.mono (by simp)))
    have Q1 : Hid (QyAt w1 w.heap.size zeroS noQ) := Lib.hid (Q0.out.below hb)
    obtain ⟨r0, r1, r2, r3, r4, r5, r6, r7, r8, r9⟩ := Q1.out.cells
    have g0 := Q1.out.frz
    clear hb hown
    go_wp2_with fail
    have P := putQ_at (s := zeroS) (q := noQ) Q1.out
    unfold putQ at P
    dsimp only [zeroS, noQ] at P
    (try simp only [Exit.inBlock, Exit.then])
    refine bodyPost_ret (ret_q3 rfl _ _ w.heap.size zeroS noQ rfl P) rfl ?_
    have Z : ParEnds (noQ, (n0 : Int), e0) w (.returned (.tuple #[qyVal zeroS noQ, .int .i64 n0, .int .i64 e0])) (putQ w1 w.heap.size zeroS noQ) :=
      ⟨_, rfl, (ownQ_none 0 _).reads, putQ_below B1.out (Nat.le_refl _) _ _⟩
    exact Z
end Go.Proofs.YtdinaedknlkicaaGreatDoor.ParserW
/-
  Contracts of the statements' helpers (layer 9): fails, alive.
-/
namespace Go.Proofs.YtdinaedknlkicaaGreatDoor.ParserW
open Nodes Exprs ExprW Prs
open Go.ChangeShapes Go.WideShapes Go.ChangeAt Go.RowKit

/-- What Parse returns, its slices opened. -/
def OutEnds (q : Qy) (n er : Int) (w : World) (e : Ending) (w' : World) : Prop :=
  ∃ x1 m1 x2 m2 x3 m3, e = .returned (.tuple #[.agg #[.int .u8 q.agg, .slice x1 q.arg.length m1, .slice x2 q.src.length m2, .bool q.join, .slice x3 q.cond.length m3, .int .u8 q.win.kind, .int .i64 q.win.size, .int .i64 q.win.every, .bool q.key, .int .u8 q.late], .int .i64 n, .int .i64 er]) ∧
    ReadsQ w' ⟨.slice x1 q.arg.length m1, .slice x2 q.src.length m2, .slice x3 q.cond.length m3⟩ q ∧ Below w.heap.size w w'
theorem parse_out (s : ByteArray) (hs : s.size ≤ maxLen) (q : Qy) (n er : Int) (h : parseP s.data.toList = (q, n, er)) (w : World) (hf : ParFix w) : Calls Tryz.prog 8 #[.string s] w (OutEnds q n er w) := by
  refine (parse_any s hs w hf).mono ?_
  rintro e w' ⟨⟨sa, ss, sc⟩, rfl, hr, hb⟩
  rw [h] at hr ⊢
  obtain ⟨x1, m1, e1⟩ := hr.arg.shape
  obtain ⟨x2, m2, e2⟩ := hr.src.shape
  obtain ⟨x3, m3, e3⟩ := hr.cond.shape
  simp only at e1 e2 e3
  subst e1 e2 e3
  exact ⟨x1, m1, x2, m2, x3, m3, rfl, hr, hb⟩
theorem parse_small (s : List UInt8) : (parseP s).1.arg.length ≤ 60 ∧ (parseP s).1.cond.length ≤ 60 ∧ (parseP s).1.src.length ≤ 4 := by
  by_cases he : (allV s).2.2 = 0
  · rw [parseP_ok he]; exact query_small (all_ok_ts s)
  · rw [parseP_bad he]; exact ⟨Nat.zero_le _, Nat.zero_le _, Nat.zero_le _⟩
set_option maxRecDepth 100000 in
theorem fails_is (s : ByteArray) (at_ want : Int) (hs : s.size ≤ 1000000) (h : (parseP s.data.toList).2 = (at_, want) ∧ (parseP s.data.toList).1.src.length = 0) (w : World) (hf : ParFix w) :
    Calls Tryz.prog 11 #[.string s, .int .i64 at_, .int .i64 want] w fun e w' => e = .returned (.bool true) ∧ Below w.heap.size w w' := by
  obtain ⟨q, hq⟩ : ∃ q, (parseP s.data.toList).1 = q := ⟨_, rfl⟩
  have A := Lib.hid (parse_out s (by unfold maxLen; omega) q at_ want (by rw [← hq, ← h.1]) w hf)
  have h0 := h.2
  rw [hq] at h0
  have H0 := Lib.hid h0
  clear h hq h0 hf
  go_enter Tryz.func11, Tryz.ntmps11
  go_wp2_with fail
  refine A.out.mono ?_
  rintro e w1 ⟨x1, m1, x2, m2, x3, m3, rfl, hr, hb⟩
  rw [H0.out]
  have B1 := Lib.hid hb
  clear hb hr
  go_wp2_with fail
  go_ret
  exact ⟨rfl, B1.out.alloc B1.out.size _⟩

/-! ### alive -/
theorem lit_nodes (l : List Nd) (n : Nat) (hn : l.length = n) (w : World) (nb : Nat) (hnb : w.heap.size = nb) (w2 : World) (hb : Below (w.alloc (.cells (rowN l).toArray 43)).heap.size (w.alloc (.cells (rowN l).toArray 43)) w2) : ReadsN w2 (.slice (some ⟨nb, 0, none⟩) n n) l := by
  subst hn hnb
  refine ReadsN.below (w := w.alloc (.cells (rowN l).toArray 43)) (.inr ⟨w.heap.size, 0, 0, rfl, by simp, fun i x hx => ?_⟩) hb
  obtain ⟨h0, h1, h2, h3, h4⟩ := rowN_at l i x hx
  have e : ∀ j, (w.alloc (.cells (rowN l).toArray 43)).cell? ⟨w.heap.size, 0 + j, none⟩ = (rowN l)[j]? := fun j => by
    unfold World.cell?
    simp only [heap_alloc_new, Nat.zero_add, List.getElem?_toArray, Option.isSome_none]
    rfl
  exact ⟨(e _).trans h0, (e _).trans h1, (e _).trans h2, (e _).trans h3, (e _).trans h4⟩
theorem refl_alloc9 (w : World) (o : Obj) : Below w.heap.size w (w.alloc o) := (Below.refl _ w).alloc (Nat.le_refl _) o
def aliveT : List UInt8 := [115, 101, 108, 101, 99, 116, 32, 115, 117, 109, 40, 118, 41, 32, 102, 114, 111, 109, 32, 97, 32, 117, 110, 105, 111, 110, 32, 99, 32, 119, 104, 101, 114, 101, 32, 107, 32, 62, 32, 48, 32, 119, 105, 110, 100, 111, 119, 32, 115, 108, 105, 100, 101, 32, 49, 48, 32, 101, 118, 101, 114, 121, 32, 53, 32, 98, 121, 32, 107, 101, 121, 32, 108, 97, 116, 101, 32, 115, 105, 100, 101]
def argA : List Nd := [⟨4, 0, 0, 0, 11⟩]
def condA : List Nd := [⟨2, 0, 0, 0, 35⟩, ⟨1, 0, 0, 0, 39⟩, ⟨14, 0, 0, 1, 37⟩]
def wantA : Qy := ⟨2, argA, [0, 2], false, condA, ⟨2, 10, 5⟩, true, 2⟩
theorem alive_is : (parseP aliveT).2 = (81, 0) ∧ equalQ (parseP aliveT).1 wantA = true := by decide +kernel
theorem alive_bad1 : (parseP [115, 101, 108, 101, 99, 116, 32, 99, 111, 117, 110, 116, 40, 42, 41, 32, 102, 114, 111, 109, 32, 97]).2 = (22, 12) := by decide +kernel
theorem alive_bad2 : (parseP [115, 101, 108, 101, 99, 116, 32, 99, 111, 117, 110, 116, 40, 42, 41, 32, 102, 114, 111, 109, 32, 97, 32, 106, 111, 105, 110, 32, 97, 32, 119, 105, 110, 100, 111, 119, 32, 116, 117, 109, 98, 108, 101, 32, 53]).2 = (28, 43) := by decide +kernel
/-- The query that the example has, written out. -/
def wantS (n : Nat) : Sl := ⟨.slice (some ⟨n + 1, 0, none⟩) 1 1, .slice (some ⟨n + 1 + 1, 0, none⟩) 2 2, .slice (some ⟨n + 1 + 1 + 1, 0, none⟩) 3 3⟩
def aliveW (w : World) (o : Obj) : World := ((((w.alloc o).alloc (.cells (rowN argA).toArray 43)).alloc (intBox [0, 2])).alloc (.cells (rowN condA).toArray 43)).alloc (qyBox (wantS w.heap.size) wantA)
theorem aliveW_below (w : World) (o : Obj) : Below w.heap.size w (aliveW w o) := by
  unfold aliveW
  exact ((((refl_alloc9 w o).alloc (by simp) _).alloc (by simp; omega) _).alloc (by simp; omega) _).alloc (by simp; omega) _
theorem want_reads (w : World) (o : Obj) : ReadsQ (aliveW w o) (wantS w.heap.size) wantA := by
  refine ⟨?_, ?_, ?_⟩
  · exact lit_nodes argA 1 rfl (w.alloc o) _ (by simp) _ (((refl_alloc9 _ _).alloc (by simp) _).alloc (by simp <;> omega) _)
  · have := lit_reads ((w.alloc o).alloc (.cells (rowN argA).toArray 43)) [0, 2]
    have e : ((w.alloc o).alloc (.cells (rowN argA).toArray 43)).heap.size = w.heap.size + 1 + 1 := by simp
    rw [e] at this
    exact this.below ((refl_alloc9 _ _).alloc (by simp) _)
  · exact lit_nodes condA 3 rfl (((w.alloc o).alloc (.cells (rowN argA).toArray 43)).alloc (intBox [0, 2])) _ (by simp) _ (refl_alloc9 _ _)
set_option maxRecDepth 100000 in
set_option maxHeartbeats 2000000 in
theorem alive_any (w : World) (hf : ParFix w) : Calls Tryz.prog 12 #[] w fun e w' => e = .returned (.bool true) ∧ Below w.heap.size w w' := by
  obtain ⟨q, hq⟩ : ∃ q, (parseP aliveT).1 = q := ⟨_, rfl⟩
  have hal := alive_is
  have hsm := parse_small aliveT
  rw [hq] at hal hsm
  have A := Lib.hid (parse_out ⟨aliveT.toArray⟩ (by decide) q 81 0 (by
    show parseP aliveT = _
    rw [← hq, ← hal.1]) w hf)
  have F := Lib.hid hf
  obtain ⟨n1, n2, n3⟩ := hsm
  have HQ := Lib.hid hal.2
  clear hal hq hf
  go_enter Tryz.func12, Tryz.ntmps12
  go_wp2_with fail
  refine A.out.mono ?_
  rintro e w1 ⟨x1, m1, x2, m2, x3, m3, rfl, hr, hb⟩
  have B1 := Lib.hid hb
  have E1 := Lib.hid (fun o => refEqualQ_any _ (wantS w1.heap.size) q wantA (aliveW w1 o) (hr.below (aliveW_below w1 o)) (want_reads w1 o) (by omega) (by omega) (by omega))
  rw [HQ.out] at E1
  clear hb hr
  go_wp2_with fail
  refine (E1.out _).mono ?_
  rintro e w2 ⟨rfl, hb⟩
  have B2 : Hid (Below w.heap.size w w2) := Lib.hid ((B1.out.trans ((aliveW_below w1 _).mono B1.out.size)).trans (hb.mono (Nat.le_trans B1.out.size (aliveW_below w1 _).size)))
  clear hb
  go_wp2_with fail
  refine (fails_is _ 22 12 (by decide) ⟨alive_bad1, by decide +kernel⟩ _ (F.out.below B2.out)).mono ?_
  rintro e w3 ⟨rfl, hb⟩
  have B3 := Lib.hid (below_step B2.out hb)
  clear hb
  go_wp2_with fail
  refine (fails_is _ 28 43 (by decide) ⟨alive_bad2, by decide +kernel⟩ _ (F.out.below B3.out)).mono ?_
  rintro e w4 ⟨rfl, hb⟩
  have B4 := Lib.hid (below_step B3.out hb)
  clear hb
  go_wp2_with fail
  go_ret
  exact ⟨rfl, B4.out⟩
end Go.Proofs.YtdinaedknlkicaaGreatDoor.ParserW

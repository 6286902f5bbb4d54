/-
  Texts of this seat in one: ExprDefs; ExprOps; ExprWhole; ExprRow; ExprLines; ExprPrim; ExprParse; ExprCheck; ExprWritten; ExprCalls.
-/
import Derived.Test.YtdinaedknlkicaaGreatDoorPackG1
import Derived.Test.YtdinaedknlkicaaGreatDoorLexAll
import Derived.Test.YtdinaedknlkicaaGreatDoorLexCut
import Derived.Test.YtdinaedknlkicaaGreatDoorIntsWrite
import Derived.Test.YtdinaedknlkicaaGreatDoorNodeRows
import Derived.Outline
import Derived.Test.YtdinaedknlkicaaGreatDoorNodeNode
import Derived.Test.YtdinaedknlkicaaGreatDoorLexCheck
import Derived.Test.YtdinaedknlkicaaGreatDoorLexCallJoin
import Derived.Deep.RegionWith
import Derived.Deep.RegionHeld3
import Derived.Test.YtdinaedknlkicaaGreatDoorNodeSame
import Derived.Test.YtdinaedknlkicaaGreatDoorLexCallAll
import Derived.Test.YtdinaedknlkicaaGreatDoorRefValid
import Derived.Test.YtdinaedknlkicaaGreatDoorRefCheck
/-
  What the walks of layer 5's statements ask of the packages that it reaches: what the calls read, what they return.
-/
namespace Go.Proofs.YtdinaedknlkicaaGreatDoor.ExprW
open Nodes Exprs
open Go.ChangeShapes Go.WideShapes Go.ChangeAt Go.RowKit

/-! ### The table of operators -/
def opVals : Array Value := strVals opTab
def opAt (k : Nat) : ByteArray := ⟨(opTab.getD k []).toArray⟩
theorem gOp : Tryz.prog.globalNamed "tailwater/exprs.operators" = some 3 := by kernel_rfl
def OpFix (w : World) : Prop := w.var? Tryz.prog "tailwater/exprs.operators" = some opVals
theorem OpFix.below {w w' : World} (h : OpFix w) (hb : Below w.heap.size w w') : OpFix w' := var?_below hb gOp (var_lt gOp h) h
theorem fix_ops {w : World} (h : OpFix w) : w.rangeAt 3 0 opVals.toList := fun j v hv => by
  have := World.var?_cell gOp h j
  rw [Nat.zero_add, this]; simpa using hv
theorem iOp : (Tryz.prog.info? 122).map (·.size) = some opVals.toList.length := by kernel_rfl
theorem op_index : ∀ k : Nat, k < 13 → ∀ w : World, (Instr.index 122 (.agg opVals) (.int .i64 (k : Int))).run Tryz.prog w = .ok (.string (opAt k)) w
  | 0, _ => fun _ => by kernel_rfl
  | 1, _ => fun _ => by kernel_rfl
  | 2, _ => fun _ => by kernel_rfl
  | 3, _ => fun _ => by kernel_rfl
  | 4, _ => fun _ => by kernel_rfl
  | 5, _ => fun _ => by kernel_rfl
  | 6, _ => fun _ => by kernel_rfl
  | 7, _ => fun _ => by kernel_rfl
  | 8, _ => fun _ => by kernel_rfl
  | 9, _ => fun _ => by kernel_rfl
  | 10, _ => fun _ => by kernel_rfl
  | 11, _ => fun _ => by kernel_rfl
  | 12, _ => fun _ => by kernel_rfl
  | _ + 13, h => absurd h (by omega)
/-- What the calls of package exprs read: what those of the lexer do, strconv's powers of ten, and the table of operators. -/
def ExprFix (w : World) : Prop := LexFix w ∧ PowFix w ∧ OpFix w
theorem ExprFix.below {w w' : World} (h : ExprFix w) (hb : Below w.heap.size w w') : ExprFix w' := ⟨h.1.below hb, h.2.1.below hb, h.2.2.below hb⟩
/-- What Parse returns: nodes in the call's own memory, an index, an error. -/
def ParseEnds (r : List Nd × Int × Int) (w : World) (e : Ending) (w' : World) : Prop :=
  ∃ v, e = .returned (.tuple #[v, .int .i64 r.2.1, .int .i64 r.2.2]) ∧ w'.ownsRow w.heap.size 43 5 v r.1.length (rowN r.1) ∧ Below w.heap.size w w'
/-- What Text returns. -/
def TextEnds (r : List UInt8 × Int) (w : World) (e : Ending) (w' : World) : Prop :=
  e = .returned (.tuple #[.string ⟨r.1.toArray⟩, .int .i64 r.2]) ∧ Below w.heap.size w w'
end Go.Proofs.YtdinaedknlkicaaGreatDoor.ExprW
/-
  Contracts of package exprs at the landed code (layer 5): textAt, operator.
-/
namespace Go.Proofs.YtdinaedknlkicaaGreatDoor.ExprW
open Nodes Exprs
open Go.ChangeShapes Go.WideShapes Go.ChangeAt Go.RowKit

set_option maxRecDepth 100000 in
theorem textAt_any (v : Value) (ts : List Tok) (a : Nat) (w : World) (hR : Go.Proofs.YtdinaedknlkicaaGreatDoor.Reads w v ts) (ha : a ≤ ts.length) :
    Calls Tryz.prog 103 #[v, .int .i64 a] w fun e w' => e = .returned (.string ⟨(txt ts a).toArray⟩) ∧ w = w' := by
  rcases Nat.lt_or_ge a ts.length with h | h
  · obtain ⟨b, o, cap, x, rfl, hx, hb, c0, c1, c2⟩ := hR.tok a h
    have H : Hid ((⟨(txt ts a).toArray⟩ : ByteArray) = x) := Lib.hid (by rw [txt_at h, ← hx])
    have d1 : (a == ts.length) = false := by rw [beq_eq_false_iff_ne]; omega
    have d2 : ((a : Int) == (ts.length : Int)) = false := by rw [beq_eq_false_iff_ne]; omega
    clear hR hx
    go_enter Tryz.func103, Tryz.ntmps103
    go_wp2_with fail
    go_ret
    exact ⟨by rw [H.out]; rfl, rfl⟩
  · obtain ⟨ad, cap, rfl⟩ := hR.shape
    obtain rfl : a = ts.length := by omega
    have H : Hid (txt ts ts.length = []) := Lib.hid (txt_end (Nat.le_refl _))
    clear hR h ha
    go_enter Tryz.func103, Tryz.ntmps103
    go_wp2_with fail
    go_ret
    exact ⟨by rw [H.out]; rfl, rfl⟩
/-! ### operator -/
theorem opAt_all : ∀ k : Fin 13, opOf (opTab.getD k.val []) = 7 + (k.val : Int) := by decide
theorem opAt_in {x : List UInt8} {k : Nat} (hk : k < 13) (he : x = opTab.getD k []) : opOf x = 7 + (k : Int) := by
  rw [he]; exact opAt_all ⟨k, hk⟩
theorem opAt_out {x : List UInt8} (h : ∀ j, j < 13 → x ≠ opTab.getD j []) : opOf x = 0 := by
  unfold opOf
  rw [if_neg]
  intro hc
  obtain ⟨k, hk, e⟩ := List.getElem_of_mem (show x ∈ opTab by simpa using hc)
  refine h k hk ?_
  rw [List.getD_eq_getElem?_getD, List.getElem?_eq_getElem hk, ← e]; rfl
set_option maxRecDepth 100000 in
theorem operator_any (v : Value) (ts : List Tok) (a : Nat) (w : World) (hR : Go.Proofs.YtdinaedknlkicaaGreatDoor.Reads w v ts) (ha : a ≤ ts.length) (hf : OpFix w) :
    Calls Tryz.prog 89 #[v, .int .i64 a] w fun e w' => e = .returned (.int .u8 (opOf (txt ts a))) ∧ w = w' := by
  have hr := fix_ops hf
  have hix := op_index
  have T := Lib.hid (textAt_any v ts a w hR ha)
  obtain ⟨x, hx⟩ : ∃ x : List UInt8, txt ts a = x := ⟨_, rfl⟩
  rw [hx] at T ⊢
  clear hf hx hR ha
  go_enter Tryz.func89, Tryz.ntmps89
  go_wp2_with fail
  refine T.out.mono ?_
  rintro e w1 ⟨rfl, rfl⟩
  go_wp2_with (refine wpList_load_mid rfl 122 _ rfl 3 0 rfl opVals.toList _ hr Tryz.underlying122 rfl iOp ?_)
  clear hr
  go_loop [12] (fun i => ∃ k : Nat, k ≤ 13 ∧ i = .int .i64 k ∧ Hid (∀ j, j < k → x ≠ opTab.getD j [])) (fun i => 13 - (intOf i).toNat)
  case atStart => exact ⟨0, Nat.zero_le _, rfl, Lib.hid fun j hj => absurd hj (Nat.not_lt_zero _)⟩
  case round =>
    obtain ⟨k, hk, rfl, hall⟩ := hrel
    by_cases hlt : k < 13
    · have hz := hix k hlt
      have eo : (opAt k).toList = opTab.getD k [] := by rw [ByteArray.toList_eq]; rfl
      by_cases he : x = opTab.getD k []
      · have H := Lib.hid (opAt_in hlt he)
        have ht : (x == (opAt k).toList) = true := by rw [beq_iff_eq, eo]; exact he
        clear he hall hix eo
        go_wp2
        go_ret
        exact ⟨by rw [H.out]; rfl, rfl⟩
      · have H : Hid (∀ j, j < k + 1 → x ≠ opTab.getD j []) := Lib.hid fun j hj => by
          rcases Nat.lt_succ_iff_lt_or_eq.1 hj with h | rfl
          · exact hall.out j h
          · exact he
        have ht : (x == (opAt k).toList) = false := by rw [beq_eq_false_iff_ne, eo]; exact he
        clear he hall hix eo
        go_wp2
        go_round
        case rel => exact ⟨k + 1, by omega, by go_num, H⟩
        case measure => simp [intOf]; omega
    · obtain rfl : k = 13 := by omega
      have H := Lib.hid (opAt_out hall.out)
      clear hall hix
      go_wp2
      go_ret
      exact ⟨by rw [H.out]; rfl, rfl⟩
end Go.Proofs.YtdinaedknlkicaaGreatDoor.ExprW
/-
  Contracts of package exprs at the landed code (layer 5): whole, and pair for whatever line is behind the operator.
-/
namespace Go.Proofs.YtdinaedknlkicaaGreatDoor.ExprW
open Nodes Exprs
open Go.ChangeShapes Go.WideShapes Go.ChangeAt Go.RowKit

theorem small_valid {p : List Nd} (h : checkV p = 0) : p.length ≤ 60 := (check_acc h).2.2.1
set_option maxRecDepth 100000 in
theorem whole_any (v : Value) (ts : List Tok) (a e : Nat) (k n : Int) (vp : Value) (ps : List (List Nd)) (w : World) (hR : Go.Proofs.YtdinaedknlkicaaGreatDoor.Reads w v ts) (ht : TsOk ts) (ha : a < ts.length) (he : e ≤ ts.length) (hP : ReadsP w vp ps)
    (hk : 1 ≤ k ∧ k ≤ 19 ∧ arity k = ps.length ∧ 0 ≤ n ∧ (n = 0 ∨ k = 1)) (hv : ∀ p ∈ ps, checkV p = 0) (hl : ps.length ≤ 2) :
    Calls Tryz.prog 104 #[v, .int .i64 a, .int .i64 e, .int .u8 k, .int .i64 n, vp] w (ParseEnds (gotV ts.length (mk k n ts[a].at_ ps (sfrom ts a) (sfrom ts e))) w) := by
  obtain ⟨b, o, cap, x, rfl, hx, hb, c0, c1, c2⟩ := hR.tok a ha
  have hat := (ht.tok ha).2
  obtain ⟨q, hq⟩ : ∃ q, ts[a].at_ = q := ⟨_, rfl⟩
  rw [hq] at c2 hat ⊢
  have M := node_mk (k := k) (n := n) (at_ := q) (ps := ps) ⟨hk.1, hk.2.1, hk.2.2.1, hk.2.2.2.1, hk.2.2.2.2, hat⟩ hv (sfrom ts a) (sfrom ts e)
  have N := Lib.hid (nodesNode_any k n q vp ps w hP (by omega) (by omega) (fun p hp => by have := small_valid (hv p hp); omega) (by omega))
  rcases M with ⟨hm, hN, _⟩ | ⟨c, hc, hm, hN⟩
  · rw [hm, out_ok he]
    rw [hN] at N
    generalize madeL k n q ps = X at N ⊢
    clear hm hN hk hv hP ht hR hat hl hx c0 c1 hq
    go_enter Tryz.func104, Tryz.ntmps104
    go_wp2_with fail
    refine N.out.mono ?_
    rintro e1 w1 ⟨y, rfl, ho, hb⟩
    have O := Lib.hid ho
    have B := Lib.hid hb
    clear ho hb
    go_wp2_with fail
    go_ret3
    exact ⟨_, rfl, O.out, B.out⟩
  · rw [hm, out_err (by omega)]
    rw [hN] at N
    have hc2 : (c != 0) = true := by rw [bne_iff_ne]; omega
    clear hm hN hk hv hP ht hR hat hc hl hx c0 c1 hq
    go_enter Tryz.func104, Tryz.ntmps104
    go_wp2_with fail
    refine N.out.mono ?_
    rintro e1 w1 ⟨y, rfl, ho, hb⟩
    have O := Lib.hid ho
    have B := Lib.hid hb
    clear ho hb
    go_wp2_with fail
    go_ret3
    exact ⟨_, rfl, World.ownsRow_nil _ _ _ _, B.out⟩
/-! ### A line that is handed over as a function value -/
/-- What a function reads at a place: a line of the grammar. -/
def LineOk (K n : Nat) (v : Value) (ts : List Tok) (a : Nat) : Prop :=
  ∀ w, ExprFix w → Go.Proofs.YtdinaedknlkicaaGreatDoor.Reads w v ts → Calls Tryz.prog K #[v, .int .i64 a] w (ParseEnds (gotV ts.length (rd n (sfrom ts a))) w)
/-- It has a body. -/
def Enters (K : Nat) : Prop := ∀ args w, (callFunc K args).run Tryz.prog w = .ok (.enter K args) w
set_option maxRecDepth 100000 in
theorem pair_any (K n : Nat) (hK : Enters K) (v : Value) (ts : List Tok) (a : Nat) (k : Int) (vx : Value) (x : List Nd) (w : World) (hf : ExprFix w) (hR : Go.Proofs.YtdinaedknlkicaaGreatDoor.Reads w v ts) (ht : TsOk ts) (ha : a < ts.length) (hn : n ≤ 8)
    (hk : 7 ≤ k ∧ k ≤ 19) (hx : ReadsN w vx x) (hc : checkV x = 0) (hL : LineOk K n v ts (a + 1)) :
    Calls Tryz.prog 90 #[v, .int .i64 a, .int .u8 k, vx, .func (.func K) #[] #[]] w (ParseEnds (gotV ts.length (nextR n ts a k ts[a].at_ x)) w) := by
  have L := Lib.hid (hL w hf hR)
  obtain ⟨ax, cx, rfl⟩ := hx.shape
  have hl := ht.1
  unfold Enters at hK
  unfold nextR
  rcases rd_cases ht hn (show a + 1 ≤ ts.length by omega) with ⟨y, b, h1, h2, hr, hy⟩ | ⟨c, b, h1, h2, hcc, hr⟩
  · rw [hr] at L ⊢
    rw [out_ok h2] at L
    simp only [R.then]
    have W := Lib.hid (fun vp W (hR : Go.Proofs.YtdinaedknlkicaaGreatDoor.Reads W v ts) (hP : ReadsP W vp [x, y]) => whole_any v ts a b k 0 vp [x, y] W hR ht ha h2 hP ⟨by omega, hk.2, arity_bin hk.1, Int.le_refl _, .inl rfl⟩ (fun p hp => by
      simp at hp
      rcases hp with rfl | rfl
      · exact hc
      · exact hy) (by simp))
    obtain ⟨r, hr2⟩ : ∃ r, gotV ts.length (mk k 0 ts[a].at_ [x, y] (sfrom ts a) (sfrom ts b)) = r := ⟨_, rfl⟩
    rw [hr2] at W ⊢
    have HR := Lib.hid hR
    have HX := Lib.hid hx
    clear hr hr2 hc hy hL hR hx hf
    go_enter Tryz.func90, Tryz.ntmps90
    go_wp2_with fail
    refine L.out.mono ?_
    rintro e1 w1 ⟨vy, rfl, ho, hb⟩
    obtain ⟨ay, cy, rfl⟩ := own_shape ho
    have R1 := Lib.hid (HR.out.below hb)
    have X1 := Lib.hid (HX.out.below hb)
    have Y1 := Lib.hid (own_readsN ho)
    have B1 := Lib.hid hb
    clear ho hb
    go_wp2_with fail
    refine (W.out _ _ (R1.out.below ((Below.refl _ _).alloc (Nat.le_refl _) _)) (lit_readsP_at [_, _] [x, y] 2 rfl w1 _ rfl (fun i p hp => ?_))).mono ?_
    · match i with
      | 0 => simp at hp; subst hp; exact ⟨_, rfl, X1.out⟩
      | 1 => simp at hp; subst hp; exact ⟨_, rfl, Y1.out⟩
      | i + 2 => simp at hp
    rintro e2 w2 ⟨vz, rfl, ho, hb⟩
    have O2 := Lib.hid ho
    have B2 := Lib.hid hb
    clear ho hb
    go_wp2_with fail
    go_ret3
    refine ⟨_, rfl, own_lower O2.out ?_, Nodes.below_box B1.out B2.out⟩
    have := B1.out.size
    simp
    omega
  · rw [hr] at L ⊢
    rw [out_err h2] at L
    simp only [R.then]
    rw [out_err h2]
    have hc2 : (c != 0) = true := by rw [bne_iff_ne]; omega
    clear hr hc hL hR hx hf hcc ht
    go_enter Tryz.func90, Tryz.ntmps90
    go_wp2_with fail
    refine L.out.mono ?_
    rintro e1 w1 ⟨vy, rfl, ho, hb⟩
    have B1 := Lib.hid hb
    clear ho hb
    go_wp2_with fail
    go_ret3
    exact ⟨_, rfl, World.ownsRow_nil _ _ _ _, B1.out⟩
end Go.Proofs.YtdinaedknlkicaaGreatDoor.ExprW
/-
  Contract of package exprs at the landed code (layer 5): row, for whatever line is between the operators.
-/
namespace Go.Proofs.YtdinaedknlkicaaGreatDoor.ExprW
open Nodes Exprs
open Go.ChangeShapes Go.WideShapes Go.ChangeAt Go.RowKit

set_option maxRecDepth 100000 in
set_option maxHeartbeats 2000000 in
theorem row_any (K n : Nat) (hK : Enters K) (v : Value) (ts : List Tok) (a : Nat) (f1 f2 : Int) (w : World) (hf : ExprFix w) (hR : Go.Proofs.YtdinaedknlkicaaGreatDoor.Reads w v ts) (ht : TsOk ts) (ha : a ≤ ts.length) (hn : n ≤ 6) (h2 : n ≠ 2) (h3 : n ≠ 3)
    (h7 : 7 ≤ f1) (hF : ∀ k, 7 ≤ k → k ≤ 19 → ((f1 ≤ k ∧ k ≤ f2) ↔ line k = n)) (hL : ∀ b, a ≤ b → b ≤ ts.length → LineOk K (n + 1) v ts b) :
    Calls Tryz.prog 70 #[v, .int .i64 a, .int .u8 f1, .int .u8 f2, .func (.func K) #[] #[]] w (ParseEnds (gotV ts.length (rd n (sfrom ts a))) w) := by
  have L := Lib.hid (hL a (Nat.le_refl _) ha w hf hR)
  have HL := Lib.hid (fun b (hb : a ≤ b) (hl : b + 1 ≤ ts.length) => hL (b + 1) (by omega) hl)
  have RW := Lib.hid (rd_row n hn h2 (sfrom ts a))
  have HT := Lib.hid ht
  have HFF := Lib.hid hF
  have F := Lib.hid hf
  have HR := Lib.hid hR
  have EK : Hid (Enters K) := Lib.hid hK
  have hl := ht.1
  obtain ⟨x0, p0, c0, h0⟩ : ∃ x0 p0 c0, gotV ts.length (rd (n + 1) (sfrom ts a)) = (x0, p0, c0) := ⟨_, _, _, rfl⟩
  have ST : Hid (∃ b : Nat, p0 = b ∧ a ≤ b ∧ b ≤ ts.length ∧ ((c0 = 0 ∧ a < b ∧ rd n (sfrom ts a) = ct n x0 (sfrom ts b) ∧ checkV x0 = 0) ∨ (c0 ≠ 0 ∧ gotV ts.length (rd n (sfrom ts a)) = (x0, p0, c0)))) := Lib.hid (by
    rcases rd_cases ht (show n + 1 ≤ 8 by omega) ha with ⟨y, b, h1, h2, hr, hy⟩ | ⟨c, b, h1, h2, hcc, hr⟩
    · rw [hr, out_ok h2] at h0
      injection h0 with e1 e2
      injection e2 with e2 e3
      subst e1; subst e2; subst e3
      exact ⟨b, rfl, by omega, h2, .inl ⟨rfl, h1, by rw [RW.out, hr]; rfl, hy⟩⟩
    · rw [hr, out_err h2] at h0
      injection h0 with e1 e2
      injection e2 with e2 e3
      subst e1; subst e2; subst e3
      exact ⟨b, rfl, by omega, h2, .inr ⟨by omega, by rw [RW.out, hr]; exact out_err h2⟩⟩)
  rw [h0] at L
  unfold Enters at hK
  clear h0 hL hF hf hR ht RW
  go_enter Tryz.func70, Tryz.ntmps70
  go_wp2_with fail
  refine L.out.mono ?_
  rintro e1 w1 ⟨vx, rfl, ho, hb⟩
  have O1 := Lib.hid ho
  have B1 := Lib.hid hb
  clear ho hb
  go_wp2_with fail
  go_loopg [1, 13, 14] (ts.length + 2) (fun g i q c wx => ∃ (x : List Nd) (b : Nat) (c1 : Int), i = .int .i64 b ∧ c = .int .i64 c1 ∧ a ≤ b ∧ b ≤ ts.length ∧ Hid (wx.ownsRow w.heap.size 43 5 q x.length (rowN x)) ∧ Hid (Below w.heap.size w wx) ∧
    ((c1 = 0 ∧ ts.length - b + 1 ≤ g ∧ Hid (a < b ∧ rd n (sfrom ts a) = ct n x (sfrom ts b) ∧ checkV x = 0)) ∨ (c1 ≠ 0 ∧ Hid (gotV ts.length (rd n (sfrom ts a)) = (x, (b : Int), c1)))))
  case atStart =>
    obtain ⟨b, rfl, h1, h2, h3⟩ := ST.out
    refine ⟨x0, b, c0, rfl, rfl, h1, h2, O1, B1, ?_⟩
    rcases h3 with ⟨h3, h4⟩ | ⟨h3, h4⟩
    · exact .inl ⟨h3, by omega, Lib.hid h4⟩
    · exact .inr ⟨h3, Lib.hid h4⟩
  case round =>
    obtain ⟨x, b, c1, rfl, rfl, hb1, hb2, HO, HB, hc⟩ := hrel
    clear ST O1 B1 L
    rcases hc with ⟨rfl, hg, HX⟩ | ⟨hc1, HX⟩
    · obtain ⟨kk, hkk⟩ : ∃ kk, opOf (txt ts b) = kk := ⟨_, rfl⟩
      have OP := Lib.hid (operator_any v ts b wr (HR.out.below HB.out) hb2 (F.out.below HB.out).2.2)
      rw [hkk] at OP
      have hbd := op_bounds (txt ts b)
      rw [hkk] at hbd
      obtain ⟨ad, cap, rfl⟩ := own_shape HO.out
      by_cases hon : kk ≠ 0 ∧ line kk = n
      · have h7k : 7 ≤ kk ∧ kk ≤ 19 := by omega
        have hff := (HFF.out kk h7k.1 h7k.2).2 hon.2
        have hlt : b < ts.length := by
          rcases Nat.lt_or_ge b ts.length with h | h
          · exact h
          · exfalso
            rw [txt_end h] at hkk
            exact hon.1 (hkk.symm.trans rfl)
        have t1 : decide (kk < f1) = false := decide_eq_false (by omega)
        have t2 : decide (f2 < kk) = false := decide_eq_false (by omega)
        have P := Lib.hid (fun vx (hx : ReadsN wr vx x) => pair_any K (n + 1) EK.out v ts b kk vx x wr (F.out.below HB.out) (HR.out.below HB.out) HT.out hlt (by omega) h7k hx HX.out.2.2 (HL.out b hb1 (by omega)))
        have XR := Lib.hid (own_readsN HO.out)
        have CO := Lib.hid (ct_on HT.out (x := x) hn hlt hkk h7k.1 hon.2)
        have JC := Lib.hid (next_cases HT.out (show n + 1 ≤ 8 by omega) hlt h7k HX.out.2.2)
        rcases JC.out with ⟨z, b2, q1, q2, hr, hz⟩ | ⟨c2, b2, q1, q2, hcc, hr⟩
        · have NX : Hid (a < b2 ∧ rd n (sfrom ts a) = ct n z (sfrom ts b2) ∧ checkV z = 0) := Lib.hid (by
            refine ⟨by omega, ?_, hz⟩
            rw [HX.out.2.1, CO.out]
            show (nextR (n + 1) ts b kk ts[b].at_ x).then _ = _
            rw [hr]
            show (if n = 3 then _ else _) = _
            rw [if_neg h3])
          rw [hr, out_ok q2] at P
          clear hr hz JC CO HX HFF hbd hon hkk
          go_wp2_with fail
          refine OP.out.mono ?_
          rintro e2 w2 ⟨rfl, rfl⟩
          go_wp2_with fail
          refine (P.out _ XR.out).mono ?_
          rintro e3 w3 ⟨vz, rfl, ho, hb⟩
          have O3 : Hid (w3.ownsRow w.heap.size 43 5 vz z.length (rowN z)) := Lib.hid (own_lower ho HB.out.size)
          have B3 := Lib.hid (below_step HB.out hb)
          clear ho hb
          go_wp2_with fail
          go_roundg (ts.length - b2 + 1)
          case measure => omega
          case rel => exact ⟨z, b2, 0, rfl, rfl, by omega, q2, O3, B3, .inl ⟨rfl, Nat.le_refl _, NX⟩⟩
        · have NX : Hid (gotV ts.length (rd n (sfrom ts a)) = ([], (b2 : Int), c2)) := Lib.hid (by
            rw [HX.out.2.1, CO.out]
            show gotV ts.length ((nextR (n + 1) ts b kk ts[b].at_ x).then _) = _
            rw [hr]
            exact out_err q2)
          have hc0 : c2 ≠ 0 := by omega
          rw [hr, out_err q2] at P
          clear hr hcc JC CO HX HFF hbd hon hkk
          go_wp2_with fail
          refine OP.out.mono ?_
          rintro e2 w2 ⟨rfl, rfl⟩
          go_wp2_with fail
          refine (P.out _ XR.out).mono ?_
          rintro e3 w3 ⟨vz, rfl, ho, hb⟩
          have O3 : Hid (w3.ownsRow w.heap.size 43 5 vz 0 (rowN [])) := Lib.hid (own_lower ho HB.out.size)
          have B3 := Lib.hid (below_step HB.out hb)
          clear ho hb
          go_wp2_with fail
          go_roundg 0
          case measure => omega
          case rel => exact ⟨[], b2, c2, rfl, rfl, by omega, q2, O3, B3, .inr ⟨hc0, NX⟩⟩
      · have E : Hid (gotV ts.length (rd n (sfrom ts a)) = (x, (b : Int), 0)) := Lib.hid (by
          rw [HX.out.2.1, ct_off hn HT.out (by rw [hkk]; rcases Classical.em (kk = 0) with h | h; exact .inl h; exact .inr (fun h5 => hon ⟨h, h5⟩))]
          exact out_ok hb2)
        by_cases t1 : kk < f1
        · have t1b : decide (kk < f1) = true := decide_eq_true t1
          clear HX HFF hbd hon hkk HL
          go_wp2_with fail
          refine OP.out.mono ?_
          rintro e2 w2 ⟨rfl, rfl⟩
          go_wp2_with fail
          go_ret3
          exact ⟨_, by rw [E.out]; rfl, by rw [E.out]; exact HO.out, HB.out⟩
        · have t1b : decide (kk < f1) = false := decide_eq_false t1
          have h7k : 7 ≤ kk ∧ kk ≤ 19 := by omega
          have hff := HFF.out kk h7k.1 h7k.2
          have t2 : f2 < kk := Int.lt_of_not_ge fun h => hon ⟨by omega, hff.1 ⟨by omega, h⟩⟩
          have t2b : decide (f2 < kk) = true := decide_eq_true t2
          clear HX HFF hbd hon hkk HL hff
          go_wp2_with fail
          refine OP.out.mono ?_
          rintro e2 w2 ⟨rfl, rfl⟩
          go_wp2_with fail
          go_ret3
          exact ⟨_, by rw [E.out]; rfl, by rw [E.out]; exact HO.out, HB.out⟩
    · have hc2 : (c1 == 0) = false := by rw [beq_eq_false_iff_ne]; exact hc1
      go_wp2_with fail
      go_ret3
      exact ⟨_, by rw [HX.out]; rfl, by rw [HX.out]; exact HO.out, HB.out⟩
end Go.Proofs.YtdinaedknlkicaaGreatDoor.ExprW
/-
  Contracts of package exprs at the landed code (layer 5): prefixed, bracketed, primary, compare.
-/
namespace Go.Proofs.YtdinaedknlkicaaGreatDoor.ExprW
open Nodes Exprs
open Go.ChangeShapes Go.WideShapes Go.ChangeAt Go.RowKit

/-! ### prefixed -/
theorem front_cases {ts : List Tok} (ht : TsOk ts) {m a : Nat} (hm : m ≤ 8) (ha : a < ts.length) {k : Int} :
    (∃ x b, a < b ∧ b ≤ ts.length ∧ rd m (sfrom ts (a + 1)) = .ok x (sfrom ts b) ∧ checkV x = 0 ∧ frontR m ts a k ts[a].at_ = mk k 0 ts[a].at_ [x] (sfrom ts a) (sfrom ts b)) ∨ ∃ c b, a ≤ b ∧ b ≤ ts.length ∧ c ≠ 0 ∧ rd m (sfrom ts (a + 1)) = .err c (sfrom ts b) ∧ frontR m ts a k ts[a].at_ = .err c (sfrom ts b) := by
  unfold frontR
  rcases rd_cases ht hm (show a + 1 ≤ ts.length by omega) with ⟨y, b, h1, h2, hr, hy⟩ | ⟨c, b, h1, h2, hcc, hr⟩
  · rw [hr]
    exact .inl ⟨y, b, by omega, h2, rfl, hy, rfl⟩
  · rw [hr]
    exact .inr ⟨c, b, by omega, h2, by omega, rfl, rfl⟩
set_option maxRecDepth 100000 in
set_option maxHeartbeats 1000000 in
theorem prefixed_any (K n : Nat) (hK : Enters K) (v : Value) (ts : List Tok) (ht : TsOk ts) (px : ByteArray) (k : Int) (hk : k = 5 ∨ k = 6) (hn : n ≤ 7)
    (hP : ∀ a, (txt ts a = px.data.toList → a < ts.length ∧ ∀ h : a < ts.length, rd n (sfrom ts a) = frontR n ts a k ts[a].at_) ∧ (txt ts a ≠ px.data.toList → rd n (sfrom ts a) = rd (n + 1) (sfrom ts a))) (m : Nat) :
    ∀ a, ts.length - a ≤ m → a ≤ ts.length → (∀ b, a ≤ b → b ≤ ts.length → LineOk K (n + 1) v ts b) → ∀ w, ExprFix w → Go.Proofs.YtdinaedknlkicaaGreatDoor.Reads w v ts →
    Calls Tryz.prog 105 #[v, .int .i64 a, .string px, .int .u8 k, .func (.func K) #[] #[]] w (ParseEnds (gotV ts.length (rd n (sfrom ts a))) w) := by
  have hl := ht.1
  unfold Enters at hK
  induction m with
  | zero =>
    intro a ha ha2 hL w hf hR
    obtain rfl : a = ts.length := by omega
    have T := Lib.hid (textAt_any v ts _ w hR ha2)
    have L := Lib.hid (hL _ (Nat.le_refl _) ha2 w hf hR)
    by_cases he : txt ts ts.length = px.data.toList
    · exact absurd ((hP _).1 he).1 (by omega)
    · rw [(hP _).2 he]
      obtain ⟨x, hx⟩ : ∃ x, txt ts ts.length = x := ⟨_, rfl⟩
      rw [hx] at T he
      have t1 : (x == px.toList) = false := by rw [beq_eq_false_iff_ne, ByteArray.toList_eq]; exact he
      have t2 : (x != px.toList) = true := by rw [bne_iff_ne, ByteArray.toList_eq]; exact he
      clear hP hL hf hR he hx
      go_enter Tryz.func105, Tryz.ntmps105
      go_wp2_with fail
      refine T.out.mono ?_
      rintro e w1 ⟨rfl, rfl⟩
      go_wp2_with fail
      refine L.out.mono ?_
      rintro e w1 ⟨vx, rfl, ho, hb⟩
      have O1 := Lib.hid ho
      have B1 := Lib.hid hb
      clear ho hb
      go_wp2_with fail
      go_ret3
      exact ⟨_, rfl, O1.out, B1.out⟩
  | succ m ih =>
    intro a ha ha2 hL w hf hR
    have T := Lib.hid (textAt_any v ts _ w hR ha2)
    by_cases he : txt ts a = px.data.toList
    · obtain ⟨hlt, hrd⟩ := (hP a).1 he
      rw [hrd hlt]
      have I := Lib.hid (ih (a + 1) (by omega) (by omega) (fun b hb hb2 => hL b (by omega) hb2) w hf hR)
      obtain ⟨x, hx⟩ : ∃ x, txt ts a = x := ⟨_, rfl⟩
      rw [hx] at T he
      have t1 : (x == px.toList) = true := by rw [beq_iff_eq, ByteArray.toList_eq]; exact he
      have t2 : (x != px.toList) = false := by rw [bne_eq_false_iff_eq, ByteArray.toList_eq]; exact he
      rcases front_cases ht (show n ≤ 8 by omega) hlt (k := k) with ⟨y, b, q1, q2, hr, hy, hF⟩ | ⟨c, b, q1, q2, hcc, hr, hF⟩
      · rw [hF]
        rw [hr, out_ok q2] at I
        have W := Lib.hid (fun vp W (hR : Go.Proofs.YtdinaedknlkicaaGreatDoor.Reads W v ts) (hP : ReadsP W vp [y]) => whole_any v ts a b k 0 vp [y] W hR ht hlt q2 hP ⟨by omega, by omega, by rcases hk with rfl | rfl <;> rfl, Int.le_refl _, .inl rfl⟩ (fun p hp => by
          simp at hp
          rw [hp]; exact hy) (by simp))
        obtain ⟨r, hr2⟩ : ∃ r, gotV ts.length (mk k 0 ts[a].at_ [y] (sfrom ts a) (sfrom ts b)) = r := ⟨_, rfl⟩
        rw [hr2] at W ⊢
        have HR := Lib.hid hR
        clear hP hL hf hR he hx ih hrd hr hr2 hF hy
        go_enter Tryz.func105, Tryz.ntmps105
        go_wp2_with fail
        refine T.out.mono ?_
        rintro e w1 ⟨rfl, rfl⟩
        go_wp2_with fail
        refine I.out.mono ?_
        rintro e w1 ⟨vy, rfl, ho, hb⟩
        obtain ⟨ay, cy, rfl⟩ := own_shape ho
        have R1 := Lib.hid (HR.out.below hb)
        have Y1 := Lib.hid (own_readsN ho)
        have B1 := Lib.hid hb
        clear ho hb
        go_wp2_with fail
        refine (W.out _ _ (R1.out.below ((Below.refl _ _).alloc (Nat.le_refl _) _)) (lit_readsP_at [_] [y] 1 rfl w1 _ rfl (fun i p hp => ?_))).mono ?_
        · match i with
          | 0 => simp at hp; subst hp; exact ⟨_, rfl, Y1.out⟩
          | i + 1 => simp at hp
        rintro e2 w2 ⟨vz, rfl, ho, hb⟩
        have O2 := Lib.hid ho
        have B2 := Lib.hid hb
        clear ho hb
        go_wp2_with fail
        go_ret3
        refine ⟨_, rfl, own_lower O2.out ?_, Nodes.below_box B1.out B2.out⟩
        have := B1.out.size
        simp
        omega
      · rw [hF, out_err q2]
        rw [hr, out_err q2] at I
        have hc2 : (c != 0) = true := by rw [bne_iff_ne]; exact hcc
        clear hP hL hf hR he hx ih hrd hr hF hcc
        go_enter Tryz.func105, Tryz.ntmps105
        go_wp2_with fail
        refine T.out.mono ?_
        rintro e w1 ⟨rfl, rfl⟩
        go_wp2_with fail
        refine I.out.mono ?_
        rintro e w1 ⟨vy, rfl, ho, hb⟩
        have B1 := Lib.hid hb
        clear ho hb
        go_wp2_with fail
        go_ret3
        exact ⟨_, rfl, World.ownsRow_nil _ _ _ _, B1.out⟩
    · rw [(hP _).2 he]
      have L := Lib.hid (hL _ (Nat.le_refl _) ha2 w hf hR)
      obtain ⟨x, hx⟩ : ∃ x, txt ts a = x := ⟨_, rfl⟩
      rw [hx] at T he
      have t1 : (x == px.toList) = false := by rw [beq_eq_false_iff_ne, ByteArray.toList_eq]; exact he
      have t2 : (x != px.toList) = true := by rw [bne_iff_ne, ByteArray.toList_eq]; exact he
      clear hP hL hf hR he hx ih
      go_enter Tryz.func105, Tryz.ntmps105
      go_wp2_with fail
      refine T.out.mono ?_
      rintro e w1 ⟨rfl, rfl⟩
      go_wp2_with fail
      refine L.out.mono ?_
      rintro e w1 ⟨vx, rfl, ho, hb⟩
      have O1 := Lib.hid ho
      have B1 := Lib.hid hb
      clear ho hb
      go_wp2_with fail
      go_ret3
      exact ⟨_, rfl, O1.out, B1.out⟩
end Go.Proofs.YtdinaedknlkicaaGreatDoor.ExprW
/-
  Contracts of package exprs at the landed code (layer 5): bracketed, primary, compare.
-/
namespace Go.Proofs.YtdinaedknlkicaaGreatDoor.ExprW
open Nodes Exprs
open Go.ChangeShapes Go.WideShapes Go.ChangeAt Go.RowKit

def Short (ts : List Tok) : Prop := ∀ t ∈ ts, t.text.length ≤ 281474976710656
set_option maxRecDepth 100000 in
theorem bracketed_any (v : Value) (ts : List Tok) (a : Nat) (w : World) (hf : ExprFix w) (hR : Go.Proofs.YtdinaedknlkicaaGreatDoor.Reads w v ts) (ht : TsOk ts) (ha : a < ts.length) (hx : ts[a].text = [40]) (hL : LineOk 51 0 v ts (a + 1)) :
    Calls Tryz.prog 141 #[v, .int .i64 a] w (ParseEnds (gotV ts.length (rd 8 (sfrom ts a))) w) := by
  have hl := ht.1
  have L := Lib.hid (hL w hf hR)
  obtain ⟨p1, p2⟩ := prim_left ht ha hx
  rcases rd_cases ht (show 0 ≤ 8 by omega) (show a + 1 ≤ ts.length by omega) with ⟨y, b, h1, h2, hr, hy⟩ | ⟨c, b, h1, h2, hcc, hr⟩
  · have T := Lib.hid (fun W hW => textAt_any v ts b W hW h2)
    have HR := Lib.hid hR
    obtain ⟨q1, q2⟩ := p1 y b h2 hr
    rw [hr, out_ok h2] at L
    by_cases he : txt ts b = [41]
    · obtain ⟨hb, hp⟩ := q1 he
      rw [hp, out_ok (by omega)]
      rw [he] at T
      clear hr q1 q2 p1 p2 hp he hy hR hf hL hx ht
      go_enter Tryz.func141, Tryz.ntmps141
      go_wp2_with fail
      refine L.out.mono ?_
      rintro e w1 ⟨vy, rfl, ho, hb⟩
      obtain ⟨ay, cy, rfl⟩ := own_shape ho
      have R1 := Lib.hid (HR.out.below hb)
      have O1 := Lib.hid ho
      have B1 := Lib.hid hb
      clear ho hb
      go_wp2_with fail
      refine (T.out _ R1.out).mono ?_
      rintro e w2 ⟨rfl, rfl⟩
      go_wp2_with fail
      go_ret3
      exact ⟨_, rfl, O1.out, B1.out⟩
    · rw [q2 he, out_err h2]
      obtain ⟨x, hx2⟩ : ∃ x, txt ts b = x := ⟨_, rfl⟩
      rw [hx2] at T he
      have t1 : (x == [41]) = false := by rw [beq_eq_false_iff_ne]; exact he
      have t2 : (x != [41]) = true := by rw [bne_iff_ne]; exact he
      clear hr q1 q2 p1 p2 hx2 he hy hR hf hL hx ht
      go_enter Tryz.func141, Tryz.ntmps141
      go_wp2_with fail
      refine L.out.mono ?_
      rintro e w1 ⟨vy, rfl, ho, hb⟩
      obtain ⟨ay, cy, rfl⟩ := own_shape ho
      have R1 := Lib.hid (HR.out.below hb)
      have B1 := Lib.hid hb
      clear ho hb
      go_wp2_with fail
      refine (T.out _ R1.out).mono ?_
      rintro e w2 ⟨rfl, rfl⟩
      go_wp2_with fail
      go_ret3
      exact ⟨_, rfl, World.ownsRow_nil _ _ _ _, B1.out⟩
  · rw [p2 _ _ hr, out_err h2]
    rw [hr, out_err h2] at L
    have hc2 : (c != 0) = true := by rw [bne_iff_ne]; omega
    clear hr p1 p2 hR hf hL hx hcc ht
    go_enter Tryz.func141, Tryz.ntmps141
    go_wp2_with fail
    refine L.out.mono ?_
    rintro e w1 ⟨vy, rfl, ho, hb⟩
    have B1 := Lib.hid hb
    clear ho hb
    go_wp2_with fail
    go_ret3
    exact ⟨_, rfl, World.ownsRow_nil _ _ _ _, B1.out⟩
/-! ### primary -/
theorem no_parts (w : World) : ReadsP w (.slice none 0 0) [] := .inl ⟨rfl, _, _, rfl⟩
set_option maxRecDepth 100000 in
set_option maxHeartbeats 1000000 in
theorem primary_any (v : Value) (ts : List Tok) (a : Nat) (hs : Short ts) (ht : TsOk ts) (ha : a ≤ ts.length) (hL : a < ts.length → LineOk 51 0 v ts (a + 1)) :
    LineOk 140 8 v ts a := by
  intro w hf hR
  have hl := ht.1
  have T := Lib.hid (textAt_any v ts a w hR ha)
  obtain ⟨x, hx⟩ : ∃ x, txt ts a = x := ⟨_, rfl⟩
  have hxl : x.length ≤ 281474976710656 := by
    rcases Nat.lt_or_ge a ts.length with h | h
    · rw [← hx, txt_at h]; exact hs _ (List.getElem_mem h)
    · rw [← hx, txt_end h]; simp
  have I := Lib.hid (read_any ⟨x.toArray⟩ (by show x.toArray.size ≤ _; simp; omega) w hf.1.1)
  have hxe : (⟨x.toArray⟩ : ByteArray).data.toList = x := rfl
  rw [hxe] at I
  unfold ReadEnds at I
  rw [hx] at T
  by_cases h40 : x = [40]
  · subst h40
    have hlt : a < ts.length := by
      rcases Nat.lt_or_ge a ts.length with h | h
      · exact h
      · rw [txt_end h] at hx; cases hx
    rw [txt_at hlt] at hx
    have B := Lib.hid (bracketed_any v ts a w hf hR ht hlt hx (hL hlt))
    obtain ⟨r, hr⟩ : ∃ r, gotV ts.length (rd 8 (sfrom ts a)) = r := ⟨_, rfl⟩
    rw [hr] at B ⊢
    clear hx hR hf hL hr hxl ht hs I
    go_enter Tryz.func140, Tryz.ntmps140
    go_wp2_with fail
    refine T.out.mono ?_
    rintro e w1 ⟨rfl, rfl⟩
    go_wp2_with fail
    refine B.out.mono ?_
    rintro e w1 ⟨vx, rfl, ho, hb⟩
    have O1 := Lib.hid ho
    have B1 := Lib.hid hb
    clear ho hb
    go_wp2_with fail
    go_ret3
    exact ⟨_, rfl, O1.out, B1.out⟩
  have b40 : (x == [40]) = false := by rw [beq_eq_false_iff_ne]; exact h40
  by_cases hleaf : x = [107] ∨ x = [116] ∨ x = [118]
  · have hlt : a < ts.length := by
      rcases Nat.lt_or_ge a ts.length with h | h
      · exact h
      · rw [txt_end h] at hx; subst hx; simp at hleaf
    rw [txt_at hlt] at hx
    rcases hleaf with h | h | h
    · subst h
      have W := Lib.hid (whole_any v ts a (a + 1) 2 0 (.slice none 0 0) [] w hR ht hlt hlt (no_parts w) ⟨by decide, by decide, rfl, Int.le_refl _, .inl rfl⟩ (fun p hp => by cases hp) (by simp))
      rw [← prim_leaf ht hlt (k := 2) hx (.inl ⟨rfl, rfl⟩)] at W
      obtain ⟨r, hr⟩ : ∃ r, gotV ts.length (rd 8 (sfrom ts a)) = r := ⟨_, rfl⟩
      rw [hr] at W ⊢
      clear hx hR hf hL hr hxl ht hs I h40 hxe b40
      go_enter Tryz.func140, Tryz.ntmps140
      go_wp2_with fail
      refine T.out.mono ?_
      rintro e w1 ⟨rfl, rfl⟩
      go_wp2_with fail
      refine W.out.mono ?_
      rintro e w1 ⟨vx, rfl, ho, hb⟩
      have O1 := Lib.hid ho
      have B1 := Lib.hid hb
      clear ho hb
      go_wp2_with fail
      go_ret3
      exact ⟨_, rfl, O1.out, B1.out⟩
    · subst h
      have W := Lib.hid (whole_any v ts a (a + 1) 3 0 (.slice none 0 0) [] w hR ht hlt hlt (no_parts w) ⟨by decide, by decide, rfl, Int.le_refl _, .inl rfl⟩ (fun p hp => by cases hp) (by simp))
      rw [← prim_leaf ht hlt (k := 3) hx (.inr (.inl ⟨rfl, rfl⟩))] at W
      obtain ⟨r, hr⟩ : ∃ r, gotV ts.length (rd 8 (sfrom ts a)) = r := ⟨_, rfl⟩
      rw [hr] at W ⊢
      clear hx hR hf hL hr hxl ht hs I h40 hxe b40
      go_enter Tryz.func140, Tryz.ntmps140
      go_wp2_with fail
      refine T.out.mono ?_
      rintro e w1 ⟨rfl, rfl⟩
      go_wp2_with fail
      refine W.out.mono ?_
      rintro e w1 ⟨vx, rfl, ho, hb⟩
      have O1 := Lib.hid ho
      have B1 := Lib.hid hb
      clear ho hb
      go_wp2_with fail
      go_ret3
      exact ⟨_, rfl, O1.out, B1.out⟩
    · subst h
      have W := Lib.hid (whole_any v ts a (a + 1) 4 0 (.slice none 0 0) [] w hR ht hlt hlt (no_parts w) ⟨by decide, by decide, rfl, Int.le_refl _, .inl rfl⟩ (fun p hp => by cases hp) (by simp))
      rw [← prim_leaf ht hlt (k := 4) hx (.inr (.inr ⟨rfl, rfl⟩))] at W
      obtain ⟨r, hr⟩ : ∃ r, gotV ts.length (rd 8 (sfrom ts a)) = r := ⟨_, rfl⟩
      rw [hr] at W ⊢
      clear hx hR hf hL hr hxl ht hs I h40 hxe b40
      go_enter Tryz.func140, Tryz.ntmps140
      go_wp2_with fail
      refine T.out.mono ?_
      rintro e w1 ⟨rfl, rfl⟩
      go_wp2_with fail
      refine W.out.mono ?_
      rintro e w1 ⟨vx, rfl, ho, hb⟩
      have O1 := Lib.hid ho
      have B1 := Lib.hid hb
      clear ho hb
      go_wp2_with fail
      go_ret3
      exact ⟨_, rfl, O1.out, B1.out⟩
  have b107 : (x == [107]) = false := by rw [beq_eq_false_iff_ne]; exact fun h => hleaf (.inl h)
  have b116 : (x == [116]) = false := by rw [beq_eq_false_iff_ne]; exact fun h => hleaf (.inr (.inl h))
  have b118 : (x == [118]) = false := by rw [beq_eq_false_iff_ne]; exact fun h => hleaf (.inr (.inr h))
  by_cases h0 : rdE x = 0
  · have hlt : a < ts.length := by
      rcases Nat.lt_or_ge a ts.length with h | h
      · exact h
      · rw [txt_end h] at hx; subst hx; exact absurd h0 (by decide)
    rw [txt_at hlt] at hx
    have hn := rd_nonneg x
    have W := Lib.hid (fun W hR => whole_any v ts a (a + 1) 1 (rdV x) (.slice none 0 0) [] W hR ht hlt hlt (no_parts W) ⟨by decide, by decide, rfl, hn, .inr rfl⟩ (fun p hp => by cases hp) (by simp))
    have hp := prim_num ht hlt (by rw [hx]; exact h0)
    rw [hx] at hp
    rw [← hp] at W
    rw [h0] at I
    obtain ⟨r, hr⟩ : ∃ r, gotV ts.length (rd 8 (sfrom ts a)) = r := ⟨_, rfl⟩
    obtain ⟨n, hn2⟩ : ∃ n, rdV x = n := ⟨_, rfl⟩
    rw [hn2] at W I
    rw [hr] at W ⊢
    have HR := Lib.hid hR
    clear hx hR hf hL hr hxl ht hs h40 hleaf hn hn2 h0 hp hxe
    go_enter Tryz.func140, Tryz.ntmps140
    go_wp2_with fail
    refine T.out.mono ?_
    rintro e w1 ⟨rfl, rfl⟩
    go_wp2_with fail
    refine I.out.mono ?_
    rintro e w1 ⟨rfl, hb⟩
    have R1 := Lib.hid (HR.out.below hb)
    have B1 := Lib.hid hb
    clear hb
    go_wp2_with fail
    refine (W.out _ R1.out).mono ?_
    rintro e w2 ⟨vx, rfl, ho, hb⟩
    have O2 := Lib.hid (own_lower ho B1.out.size)
    have B2 := Lib.hid (below_step B1.out hb)
    clear ho hb
    go_wp2_with fail
    go_ret3
    exact ⟨_, rfl, O2.out, B2.out⟩
  · have hE : rd 8 (sfrom ts a) = .err 12 (sfrom ts a) := by
      rcases Nat.lt_or_ge a ts.length with h | h
      · rw [txt_at h] at hx
        exact prim_no ht h (by rw [hx]; exact h0) (by rw [hx]; exact h40) (by rw [hx]; exact fun h => hleaf (.inl h)) (by rw [hx]; exact fun h => hleaf (.inr (.inl h))) (by rw [hx]; exact fun h => hleaf (.inr (.inr h)))
      · exact prim_end h
    rw [hE, out_err ha]
    obtain ⟨n, hn2⟩ : ∃ n, rdV x = n := ⟨_, rfl⟩
    obtain ⟨c, hc⟩ : ∃ c, rdE x = c := ⟨_, rfl⟩
    rw [hn2, hc] at I
    rw [hc] at h0
    have hc2 : (c != 0) = true := by rw [bne_iff_ne]; exact h0
    clear hx hR hf hL hxl ht hs h40 hleaf hn2 h0 hc hE hxe
    go_enter Tryz.func140, Tryz.ntmps140
    go_wp2_with fail
    refine T.out.mono ?_
    rintro e w1 ⟨rfl, rfl⟩
    go_wp2_with fail
    refine I.out.mono ?_
    rintro e w1 ⟨rfl, hb⟩
    have B1 := Lib.hid hb
    clear hb
    go_wp2_with fail
    go_ret3
    exact ⟨_, rfl, World.ownsRow_nil _ _ _ _, B1.out⟩
end Go.Proofs.YtdinaedknlkicaaGreatDoor.ExprW
/-
  Contracts of package exprs at the landed code (layer 5): the lines of the grammar, check, Parse.
-/
namespace Go.Proofs.YtdinaedknlkicaaGreatDoor.ExprW
open Nodes Exprs
open Go.ChangeShapes Go.WideShapes Go.ChangeAt Go.RowKit

theorem enters_conj : Enters 71 := fun _ _ => by kernel_rfl
theorem enters_neg : Enters 91 := fun _ _ => by kernel_rfl
theorem enters_compare : Enters 106 := fun _ _ => by kernel_rfl
theorem enters_shift : Enters 118 := fun _ _ => by kernel_rfl
theorem enters_sum : Enters 129 := fun _ _ => by kernel_rfl
theorem enters_product : Enters 136 := fun _ _ => by kernel_rfl
theorem enters_unary : Enters 139 := fun _ _ => by kernel_rfl
theorem enters_primary : Enters 140 := fun _ _ => by kernel_rfl
/-- From a place on. -/
def From (K n : Nat) (v : Value) (ts : List Tok) (a : Nat) : Prop := ∀ b, a ≤ b → b ≤ ts.length → LineOk K n v ts b
theorem From.of {K n : Nat} {v : Value} {ts : List Tok} {a : Nat} (h : LineOk K n v ts a) (h2 : ∀ b, a < b → b ≤ ts.length → LineOk K n v ts b) : From K n v ts a := fun b hb hl => by
  rcases Nat.lt_or_ge a b with h3 | h3
  · exact h2 b h3 hl
  · obtain rfl : b = a := by omega
    exact h
/-! ### Lines that are rows -/
theorem line_or : ∀ k : Int, 7 ≤ k → k ≤ 19 → ((19 ≤ k ∧ k ≤ 19) ↔ line k = 0) := fun k h1 h2 => by unfold line; split <;> (try split) <;> (try split) <;> (try split) <;> (try split) <;> omega
theorem line_and : ∀ k : Int, 7 ≤ k → k ≤ 19 → ((18 ≤ k ∧ k ≤ 18) ↔ line k = 1) := fun k h1 h2 => by unfold line; split <;> (try split) <;> (try split) <;> (try split) <;> (try split) <;> omega
theorem line_shift : ∀ k : Int, 7 ≤ k → k ≤ 19 → ((10 ≤ k ∧ k ≤ 11) ↔ line k = 4) := fun k h1 h2 => by unfold line; split <;> (try split) <;> (try split) <;> (try split) <;> (try split) <;> omega
theorem line_sum : ∀ k : Int, 7 ≤ k → k ≤ 19 → ((8 ≤ k ∧ k ≤ 9) ↔ line k = 5) := fun k h1 h2 => by unfold line; split <;> (try split) <;> (try split) <;> (try split) <;> (try split) <;> omega
theorem line_mul : ∀ k : Int, 7 ≤ k → k ≤ 19 → ((7 ≤ k ∧ k ≤ 7) ↔ line k = 6) := fun k h1 h2 => by unfold line; split <;> (try split) <;> (try split) <;> (try split) <;> (try split) <;> omega
theorem line_cmp (k : Int) (h1 : 7 ≤ k) (h2 : k ≤ 19) : (12 ≤ k ∧ k ≤ 17) ↔ line k = 3 := by unfold line; split <;> (try split) <;> (try split) <;> (try split) <;> (try split) <;> omega
set_option maxRecDepth 100000 in
theorem disjunction_any (v : Value) (ts : List Tok) (a : Nat) (ht : TsOk ts) (ha : a ≤ ts.length) (hL : From 71 1 v ts a) : LineOk 51 0 v ts a := by
  intro w hf hR
  have L := Lib.hid (row_any 71 0 enters_conj v ts a 19 19 w hf hR ht ha (by decide) (by decide) (by decide) (by decide) line_or hL)
  obtain ⟨r, hr⟩ : ∃ r, gotV ts.length (rd 0 (sfrom ts a)) = r := ⟨_, rfl⟩
  rw [hr] at L ⊢
  clear hf hR hr hL ha ht
  go_enter Tryz.func51, Tryz.ntmps51
  go_wp2_with fail
  refine L.out.mono ?_
  rintro e1 w1 ⟨vx, rfl, ho, hb⟩
  have O1 := Lib.hid ho
  have B1 := Lib.hid hb
  clear ho hb
  go_wp2_with fail
  go_ret3
  exact ⟨_, rfl, O1.out, B1.out⟩
set_option maxRecDepth 100000 in
theorem conjunction_any (v : Value) (ts : List Tok) (a : Nat) (ht : TsOk ts) (ha : a ≤ ts.length) (hL : From 91 2 v ts a) : LineOk 71 1 v ts a := by
  intro w hf hR
  have L := Lib.hid (row_any 91 1 enters_neg v ts a 18 18 w hf hR ht ha (by decide) (by decide) (by decide) (by decide) line_and hL)
  obtain ⟨r, hr⟩ : ∃ r, gotV ts.length (rd 1 (sfrom ts a)) = r := ⟨_, rfl⟩
  rw [hr] at L ⊢
  clear hf hR hr hL ha ht
  go_enter Tryz.func71, Tryz.ntmps71
  go_wp2_with fail
  refine L.out.mono ?_
  rintro e1 w1 ⟨vx, rfl, ho, hb⟩
  have O1 := Lib.hid ho
  have B1 := Lib.hid hb
  clear ho hb
  go_wp2_with fail
  go_ret3
  exact ⟨_, rfl, O1.out, B1.out⟩
set_option maxRecDepth 100000 in
theorem shift_any (v : Value) (ts : List Tok) (a : Nat) (ht : TsOk ts) (ha : a ≤ ts.length) (hL : From 129 5 v ts a) : LineOk 118 4 v ts a := by
  intro w hf hR
  have L := Lib.hid (row_any 129 4 enters_sum v ts a 10 11 w hf hR ht ha (by decide) (by decide) (by decide) (by decide) line_shift hL)
  obtain ⟨r, hr⟩ : ∃ r, gotV ts.length (rd 4 (sfrom ts a)) = r := ⟨_, rfl⟩
  rw [hr] at L ⊢
  clear hf hR hr hL ha ht
  go_enter Tryz.func118, Tryz.ntmps118
  go_wp2_with fail
  refine L.out.mono ?_
  rintro e1 w1 ⟨vx, rfl, ho, hb⟩
  have O1 := Lib.hid ho
  have B1 := Lib.hid hb
  clear ho hb
  go_wp2_with fail
  go_ret3
  exact ⟨_, rfl, O1.out, B1.out⟩
set_option maxRecDepth 100000 in
theorem sum_any (v : Value) (ts : List Tok) (a : Nat) (ht : TsOk ts) (ha : a ≤ ts.length) (hL : From 136 6 v ts a) : LineOk 129 5 v ts a := by
  intro w hf hR
  have L := Lib.hid (row_any 136 5 enters_product v ts a 8 9 w hf hR ht ha (by decide) (by decide) (by decide) (by decide) line_sum hL)
  obtain ⟨r, hr⟩ : ∃ r, gotV ts.length (rd 5 (sfrom ts a)) = r := ⟨_, rfl⟩
  rw [hr] at L ⊢
  clear hf hR hr hL ha ht
  go_enter Tryz.func129, Tryz.ntmps129
  go_wp2_with fail
  refine L.out.mono ?_
  rintro e1 w1 ⟨vx, rfl, ho, hb⟩
  have O1 := Lib.hid ho
  have B1 := Lib.hid hb
  clear ho hb
  go_wp2_with fail
  go_ret3
  exact ⟨_, rfl, O1.out, B1.out⟩
set_option maxRecDepth 100000 in
theorem product_any (v : Value) (ts : List Tok) (a : Nat) (ht : TsOk ts) (ha : a ≤ ts.length) (hL : From 139 7 v ts a) : LineOk 136 6 v ts a := by
  intro w hf hR
  have L := Lib.hid (row_any 139 6 enters_unary v ts a 7 7 w hf hR ht ha (by decide) (by decide) (by decide) (by decide) line_mul hL)
  obtain ⟨r, hr⟩ : ∃ r, gotV ts.length (rd 6 (sfrom ts a)) = r := ⟨_, rfl⟩
  rw [hr] at L ⊢
  clear hf hR hr hL ha ht
  go_enter Tryz.func136, Tryz.ntmps136
  go_wp2_with fail
  refine L.out.mono ?_
  rintro e1 w1 ⟨vx, rfl, ho, hb⟩
  have O1 := Lib.hid ho
  have B1 := Lib.hid hb
  clear ho hb
  go_wp2_with fail
  go_ret3
  exact ⟨_, rfl, O1.out, B1.out⟩
set_option maxRecDepth 100000 in
theorem negation_any (v : Value) (ts : List Tok) (a : Nat) (ht : TsOk ts) (ha : a ≤ ts.length) (hL : From 106 3 v ts a) : LineOk 91 2 v ts a := by
  intro w hf hR
  have L := Lib.hid (prefixed_any 106 2 enters_compare v ts ht { data := #[110, 111, 116] } 6 (by decide) (by decide) (fun _ => pre_not ht) _ a (Nat.le_refl _) ha hL w hf hR)
  obtain ⟨r, hr⟩ : ∃ r, gotV ts.length (rd 2 (sfrom ts a)) = r := ⟨_, rfl⟩
  rw [hr] at L ⊢
  clear hf hR hr hL ha ht
  go_enter Tryz.func91, Tryz.ntmps91
  go_wp2_with fail
  refine L.out.mono ?_
  rintro e1 w1 ⟨vx, rfl, ho, hb⟩
  have O1 := Lib.hid ho
  have B1 := Lib.hid hb
  clear ho hb
  go_wp2_with fail
  go_ret3
  exact ⟨_, rfl, O1.out, B1.out⟩
set_option maxRecDepth 100000 in
theorem unary_any (v : Value) (ts : List Tok) (a : Nat) (ht : TsOk ts) (ha : a ≤ ts.length) (hL : From 140 8 v ts a) : LineOk 139 7 v ts a := by
  intro w hf hR
  have L := Lib.hid (prefixed_any 140 7 enters_primary v ts ht { data := #[45] } 5 (by decide) (by decide) (fun _ => pre_neg ht) _ a (Nat.le_refl _) ha hL w hf hR)
  obtain ⟨r, hr⟩ : ∃ r, gotV ts.length (rd 7 (sfrom ts a)) = r := ⟨_, rfl⟩
  rw [hr] at L ⊢
  clear hf hR hr hL ha ht
  go_enter Tryz.func139, Tryz.ntmps139
  go_wp2_with fail
  refine L.out.mono ?_
  rintro e1 w1 ⟨vx, rfl, ho, hb⟩
  have O1 := Lib.hid ho
  have B1 := Lib.hid hb
  clear ho hb
  go_wp2_with fail
  go_ret3
  exact ⟨_, rfl, O1.out, B1.out⟩
/-! ### compare -/
set_option maxRecDepth 100000 in
set_option maxHeartbeats 1000000 in
theorem compare_any (v : Value) (ts : List Tok) (a : Nat) (ht : TsOk ts) (ha : a ≤ ts.length) (hL : From 118 4 v ts a) : LineOk 106 3 v ts a := by
  intro w hf hR
  have hl := ht.1
  have L := Lib.hid (hL a (Nat.le_refl _) ha w hf hR)
  have RW := rd_row 3 (by decide) (by decide) (sfrom ts a)
  rcases rd_cases ht (show 4 ≤ 8 by decide) ha with ⟨x, b, h1, h2, hr, hx⟩ | ⟨c, b, h1, h2, hcc, hr⟩
  · rw [hr] at RW
    replace RW : rd 3 (sfrom ts a) = ct 3 x (sfrom ts b) := RW
    rw [hr, out_ok h2] at L
    obtain ⟨kk, hkk⟩ : ∃ kk, opOf (txt ts b) = kk := ⟨_, rfl⟩
    have OP := Lib.hid (fun W hR hf => operator_any v ts b W hR h2 hf)
    rw [hkk] at OP
    have hbd := op_bounds (txt ts b)
    rw [hkk] at hbd
    have F := Lib.hid hf
    have HR := Lib.hid hR
    by_cases hon : 12 ≤ kk ∧ kk ≤ 17
    · have h7k : 7 ≤ kk ∧ kk ≤ 19 := by omega
      have hline := (line_cmp kk h7k.1 h7k.2).1 hon
      have hlt : b < ts.length := by
        rcases Nat.lt_or_ge b ts.length with h | h
        · exact h
        · exfalso
          rw [txt_end h] at hkk
          have : kk = 0 := hkk.symm.trans rfl
          omega
      have t1 : decide (kk < 12) = false := decide_eq_false (by omega)
      have t2 : decide (17 < kk) = false := decide_eq_false (by omega)
      have P := Lib.hid (fun vx W hf hR (hx2 : ReadsN W vx x) => pair_any 118 4 enters_shift v ts b kk vx x W hf hR ht hlt (by decide) h7k hx2 hx (hL (b + 1) (by omega) (by omega)))
      have CO := ct_on ht (x := x) (show 3 ≤ 6 by decide) hlt hkk h7k.1 hline
      have NX : rd 3 (sfrom ts a) = nextR 4 ts b kk ts[b].at_ x := by
        rw [RW, CO]
        show (nextR 4 ts b kk ts[b].at_ x).then _ = _
        cases nextR 4 ts b kk ts[b].at_ x <;> rfl
      rw [← NX] at P
      obtain ⟨r, hr2⟩ : ∃ r, gotV ts.length (rd 3 (sfrom ts a)) = r := ⟨_, rfl⟩
      rw [hr2] at P ⊢
      clear RW CO NX hr hr2 hx hkk hbd hL hf hR hline hon ht
      go_enter Tryz.func106, Tryz.ntmps106
      go_wp2_with fail
      refine L.out.mono ?_
      rintro e1 w1 ⟨vx, rfl, ho, hb⟩
      obtain ⟨ad, cap, rfl⟩ := own_shape ho
      have F1 := Lib.hid (F.out.below hb)
      have R1 := Lib.hid (HR.out.below hb)
      have X1 := Lib.hid (own_readsN ho)
      have B1 := Lib.hid hb
      clear ho hb
      go_wp2_with fail
      refine (OP.out _ R1.out F1.out.2.2).mono ?_
      rintro e2 w2 ⟨rfl, rfl⟩
      go_wp2_with fail
      refine (P.out _ _ F1.out R1.out X1.out).mono ?_
      rintro e3 w3 ⟨vz, rfl, ho, hb⟩
      have O3 := Lib.hid (own_lower ho B1.out.size)
      have B3 := Lib.hid (below_step B1.out hb)
      clear ho hb
      go_wp2_with fail
      go_ret3
      exact ⟨_, rfl, O3.out, B3.out⟩
    · have NX : rd 3 (sfrom ts a) = .ok x (sfrom ts b) := by
        rw [RW]
        refine ct_off (by decide) ht ?_
        rw [hkk]
        rcases hbd with h | h
        · exact .inl h
        · exact .inr fun h5 => hon ((line_cmp kk h.1 h.2).2 h5)
      rw [NX, out_ok h2]
      clear RW NX hr hx hkk hbd hL hf hR ht
      by_cases t1 : kk < 12
      · have t1b : decide (kk < 12) = true := decide_eq_true t1
        clear hon
        go_enter Tryz.func106, Tryz.ntmps106
        go_wp2_with fail
        refine L.out.mono ?_
        rintro e1 w1 ⟨vx, rfl, ho, hb⟩
        obtain ⟨ad, cap, rfl⟩ := own_shape ho
        have F1 := Lib.hid (F.out.below hb)
        have R1 := Lib.hid (HR.out.below hb)
        have O1 := Lib.hid ho
        have B1 := Lib.hid hb
        clear ho hb
        go_wp2_with fail
        refine (OP.out _ R1.out F1.out.2.2).mono ?_
        rintro e2 w2 ⟨rfl, rfl⟩
        go_wp2_with fail
        go_ret3
        exact ⟨_, rfl, O1.out, B1.out⟩
      · have t1b : decide (kk < 12) = false := decide_eq_false t1
        have t2 : 17 < kk := by omega
        have t2b : decide (17 < kk) = true := decide_eq_true t2
        clear hon
        go_enter Tryz.func106, Tryz.ntmps106
        go_wp2_with fail
        refine L.out.mono ?_
        rintro e1 w1 ⟨vx, rfl, ho, hb⟩
        obtain ⟨ad, cap, rfl⟩ := own_shape ho
        have F1 := Lib.hid (F.out.below hb)
        have R1 := Lib.hid (HR.out.below hb)
        have O1 := Lib.hid ho
        have B1 := Lib.hid hb
        clear ho hb
        go_wp2_with fail
        refine (OP.out _ R1.out F1.out.2.2).mono ?_
        rintro e2 w2 ⟨rfl, rfl⟩
        go_wp2_with fail
        go_ret3
        exact ⟨_, rfl, O1.out, B1.out⟩
  · rw [hr] at RW
    replace RW : rd 3 (sfrom ts a) = .err c (sfrom ts b) := RW
    rw [hr, out_err h2] at L
    rw [RW, out_err h2]
    have hc2 : (c != 0) = true := by rw [bne_iff_ne]; omega
    clear RW hr hL hf hR hcc ht
    go_enter Tryz.func106, Tryz.ntmps106
    go_wp2_with fail
    refine L.out.mono ?_
    rintro e1 w1 ⟨vx, rfl, ho, hb⟩
    have B1 := Lib.hid hb
    clear ho hb
    go_wp2_with fail
    go_ret3
    exact ⟨_, rfl, World.ownsRow_nil _ _ _ _, B1.out⟩
/-! ### All lines, from the last token back to the first -/
structure AllOk (v : Value) (ts : List Tok) (a : Nat) : Prop where
  l0 : LineOk 51 0 v ts a
  l1 : LineOk 71 1 v ts a
  l2 : LineOk 91 2 v ts a
  l3 : LineOk 106 3 v ts a
  l4 : LineOk 118 4 v ts a
  l5 : LineOk 129 5 v ts a
  l6 : LineOk 136 6 v ts a
  l7 : LineOk 139 7 v ts a
  l8 : LineOk 140 8 v ts a
theorem all_at (v : Value) (ts : List Tok) (hs : Short ts) (ht : TsOk ts) (a : Nat) (ha : a ≤ ts.length) (ih : ∀ b, a < b → b ≤ ts.length → AllOk v ts b) : AllOk v ts a := by
  have h8 := primary_any v ts a hs ht ha fun h => (ih (a + 1) (by omega) (by omega)).l0
  have h7 := unary_any v ts a ht ha (From.of h8 fun b h1 h2 => (ih b h1 h2).l8)
  have h6 := product_any v ts a ht ha (From.of h7 fun b h1 h2 => (ih b h1 h2).l7)
  have h5 := sum_any v ts a ht ha (From.of h6 fun b h1 h2 => (ih b h1 h2).l6)
  have h4 := shift_any v ts a ht ha (From.of h5 fun b h1 h2 => (ih b h1 h2).l5)
  have h3 := compare_any v ts a ht ha (From.of h4 fun b h1 h2 => (ih b h1 h2).l4)
  have h2 := negation_any v ts a ht ha (From.of h3 fun b h1 h2 => (ih b h1 h2).l3)
  have h1 := conjunction_any v ts a ht ha (From.of h2 fun b h1 h2 => (ih b h1 h2).l2)
  have h0 := disjunction_any v ts a ht ha (From.of h1 fun b h1 h2 => (ih b h1 h2).l1)
  exact ⟨h0, h1, h2, h3, h4, h5, h6, h7, h8⟩
theorem all_ok (v : Value) (ts : List Tok) (hs : Short ts) (ht : TsOk ts) (m : Nat) : ∀ a, ts.length - a ≤ m → a ≤ ts.length → AllOk v ts a := by
  induction m with
  | zero => exact fun a h1 h2 => all_at v ts hs ht a h2 fun b h3 h4 => absurd h3 (by omega)
  | succ m ih => exact fun a h1 h2 => all_at v ts hs ht a h2 fun b h3 h4 => ih b (by omega) h4
end Go.Proofs.YtdinaedknlkicaaGreatDoor.ExprW
/-
  Contracts of package exprs at the landed code (layer 5): check, Parse.
-/
namespace Go.Proofs.YtdinaedknlkicaaGreatDoor.ExprW
open Nodes Exprs
open Go.ChangeShapes Go.WideShapes Go.ChangeAt Go.RowKit

def atB (t : Tok) : Bool := decide (0 ≤ t.at_ ∧ t.at_ ≤ 400)
def ckV (ts : List Tok) : Int := if 200 < ts.length then 4 else if ts.all validT = false then 8 else if ts.all atB = false then 8 else 0
set_option maxRecDepth 100000 in
set_option maxHeartbeats 1000000 in
theorem exprsCheck_any (v : Value) (ts : List Tok) (w : World) (hf : ExprFix w) (hR : Go.Proofs.YtdinaedknlkicaaGreatDoor.Reads w v ts) (hn : ts.length ≤ 1000000) (hs : Short ts) :
    Calls Tryz.prog 50 #[v] w fun e w' => e = .returned (.int .i64 (ckV ts)) ∧ Below w.heap.size w w' := by
  have J := Lib.hid (lexJoin_any v ts w hf.1 hR (by omega) hs)
  unfold JoinEnds at J
  obtain ⟨ad, cap, rfl⟩ := hR.shape
  obtain ⟨x, er, hj⟩ : ∃ x er, joinV ts = (x, er) := ⟨_, _, rfl⟩
  rw [hj] at J
  have HE : (200 < ts.length ∧ er = 4) ∨ (ts.length ≤ 200 ∧ ts.all validT = false ∧ er = 8) ∨ (ts.length ≤ 200 ∧ ts.all validT = true ∧ er ≠ 4 ∧ er ≠ 8) := by
    unfold joinV at hj
    split at hj
    · rename_i h
      injection hj with _ hj
      exact .inl ⟨h, hj.symm⟩
    split at hj
    · rename_i h
      injection hj with _ hj
      exact .inr (.inl ⟨by omega, h, hj.symm⟩)
    · rename_i h1 h
      refine .inr (.inr ⟨by omega, by simpa using h, ?_⟩)
      split at hj
      all_goals
        injection hj with _ hj
        subst hj
        decide
  have HR := Lib.hid hR
  clear hj hf hR hs
  rcases HE with ⟨h1, rfl⟩ | ⟨h1, h2, rfl⟩ | ⟨h1, h2, h3, h4⟩
  · have H : Hid (ckV ts = 4) := Lib.hid (by unfold ckV; rw [if_pos h1])
    clear h1
    go_enter Tryz.func50, Tryz.ntmps50
    go_wp2_with fail
    refine J.out.mono ?_
    rintro e1 w1 ⟨rfl, hb⟩
    go_wp2_with fail
    go_ret
    exact ⟨by rw [H.out]; rfl, hb⟩
  · have H : Hid (ckV ts = 8) := Lib.hid (by unfold ckV; rw [if_neg (by omega), if_pos h2])
    clear h1 h2
    go_enter Tryz.func50, Tryz.ntmps50
    go_wp2_with fail
    refine J.out.mono ?_
    rintro e1 w1 ⟨rfl, hb⟩
    go_wp2_with fail
    go_ret
    exact ⟨by rw [H.out]; rfl, hb⟩
  · have t1 : (er == 4) = false := by rw [beq_eq_false_iff_ne]; exact h3
    have t2 : (er == 8) = false := by rw [beq_eq_false_iff_ne]; exact h4
    have HC : Hid (ckV ts = if ts.all atB = false then 8 else 0) := Lib.hid (by unfold ckV; rw [if_neg (by omega), if_neg (by rw [h2]; simp)])
    clear h2 h3 h4
    go_enter Tryz.func50, Tryz.ntmps50
    go_wp2_with fail
    refine J.out.mono ?_
    rintro e1 w1 ⟨rfl, hb⟩
    have B1 := Lib.hid hb
    have R1 := Lib.hid (HR.out.below hb)
    clear hb
    go_wp2_with fail
    go_loopg [21] ts.length (fun g i wx => ∃ k : Nat, k + g = ts.length ∧ i = .int .i64 k ∧ Hid ((ts.take k).all atB = true) ∧ Hid (Below w.heap.size w wx))
    case atStart => exact ⟨0, by omega, rfl, Lib.hid rfl, B1⟩
    case round =>
      obtain ⟨k, hk, rfl, HK, HB⟩ := hrel
      cases gk with
      | zero =>
        obtain rfl : k = ts.length := by omega
        have H : Hid (ckV ts = 0) := Lib.hid (by
          have := HK.out
          rw [List.take_length] at this
          rw [HC.out, if_neg (by rw [this]; simp)])
        clear hk HK
        go_wp2_with fail
        go_ret
        exact ⟨by rw [H.out]; rfl, HB.out⟩
      | succ g =>
        have hlt : k < ts.length := by omega
        obtain ⟨b, o, cap', z, hv, hx, hbs, c0, c1, c2⟩ := (HR.out.below HB.out).tok k hlt
        cases hv
        obtain ⟨q, hq⟩ : ∃ q, ts[k].at_ = q := ⟨_, rfl⟩
        rw [hq] at c2
        have bad : atB ts[k] = false → ckV ts = 8 := fun h => by
          rw [HC.out, if_pos]
          rw [List.all_eq_false]
          exact ⟨_, List.getElem_mem hlt, by rw [h]; simp⟩
        by_cases h0 : q < 0
        · have hd : decide (q < 0) = true := decide_eq_true h0
          have H : Hid (ckV ts = 8) := Lib.hid (bad (by unfold atB; rw [hq]; exact decide_eq_false (by omega)))
          clear h0 bad hx hq
          go_wp2_with fail
          go_ret
          exact ⟨by rw [H.out]; rfl, HB.out.alloc HB.out.size _⟩
        · have hd : decide (q < 0) = false := decide_eq_false h0
          by_cases h4 : 400 < q
          · have hd4 : decide (400 < q) = true := decide_eq_true h4
            have H : Hid (ckV ts = 8) := Lib.hid (bad (by unfold atB; rw [hq]; exact decide_eq_false (by omega)))
            clear h0 h4 bad hx hq
            go_wp2_with fail
            go_ret
            exact ⟨by rw [H.out]; rfl, HB.out.alloc HB.out.size _⟩
          · have hd4 : decide (400 < q) = false := decide_eq_false h4
            have HK2 : Hid ((ts.take (k + 1)).all atB = true) := Lib.hid (by
              rw [List.take_succ_eq_append_getElem hlt, List.all_append, HK.out]
              simp only [List.all_cons, List.all_nil, Bool.and_true, Bool.true_and]
              unfold atB
              rw [hq]
              exact decide_eq_true (by omega))
            clear h0 h4 bad hx hq
            go_wp2_with fail
            go_roundg g
            case measure => omega
            case rel => exact ⟨k + 1, by omega, by go_num, HK2, Lib.hid (HB.out.alloc HB.out.size _)⟩
/-! ### Parse -/
theorem asked_ck (ts : List Tok) (at_ : Int) : askedV ts at_ = if ckV ts ≠ 0 then ckV ts else if at_ < 0 ∨ (ts.length : Int) < at_ then 2 else 0 := by
  unfold askedV ckV
  by_cases h1 : 200 < ts.length
  · rw [if_pos h1, if_pos h1]; rfl
  rw [if_neg h1, if_neg h1]
  have hall : ts.all (fun t => validT t && decide (0 ≤ t.at_ ∧ t.at_ ≤ 400)) = (ts.all validT && ts.all atB) := by
    induction ts with
    | nil => rfl
    | cons t ts ih =>
      simp only [List.all_cons]
      rw [ih (by simp at h1; omega)]
      unfold atB
      cases validT t <;> cases (decide (0 ≤ t.at_ ∧ t.at_ ≤ 400)) <;> cases (ts.all validT) <;> rfl
  rw [hall]
  cases ts.all validT <;> cases ts.all atB <;> rfl
theorem ts_ok {ts : List Tok} (h : ckV ts = 0) : TsOk ts := by
  have h2 := asked_ck ts 0
  rw [if_neg (by rw [h]; simp), if_neg (by omega)] at h2
  have := asked_ok.1 h2
  exact ⟨this.1, this.2.1⟩
theorem parse_out {ts : List Tok} {a : Nat} (h : ckV ts = 0) (ha : a ≤ ts.length) : parseV ts a = gotV ts.length (rd 0 (sfrom ts a)) := by
  unfold parseV
  have h2 := asked_ck ts a
  rw [if_neg (by rw [h]; simp), if_neg (by omega)] at h2
  rw [if_pos h2, Int.toNat_natCast]
  show (match parse (sfrom ts a) with | .ok x rest => (x, (ts.length : Int) - rest.length, (0 : Int)) | .err c rest => ([], (ts.length : Int) - rest.length, c)) = _
  rw [parse_rd]
  cases rd 0 (sfrom ts a) <;> rfl
theorem parse_no {ts : List Tok} {at_ : Int} {c : Int} (h : askedV ts at_ = c) (hc : c ≠ 0) : parseV ts at_ = ([], 0, c) := by
  unfold parseV
  rw [h, if_neg hc]
set_option maxRecDepth 100000 in
set_option maxHeartbeats 1000000 in
theorem exprsParse_any (v : Value) (ts : List Tok) (at_ : Int) (w : World) (hf : ExprFix w) (hR : Go.Proofs.YtdinaedknlkicaaGreatDoor.Reads w v ts) (hn : ts.length ≤ 1000000) (hs : ∀ t ∈ ts, t.text.length ≤ 281474976710656) :
    Calls Tryz.prog 21 #[v, .int .i64 at_] w (ParseEnds (parseV ts at_) w) := by
  have C := Lib.hid (exprsCheck_any v ts w hf hR hn hs)
  have HA := asked_ck ts at_
  by_cases hc : ckV ts = 0
  · rw [if_neg (by rw [hc]; simp)] at HA
    rw [hc] at C
    obtain ⟨ad, cap, hv⟩ := hR.shape
    by_cases h0 : at_ < 0
    · have H : Hid (parseV ts at_ = ([], 0, 2)) := Lib.hid (parse_no (by rw [HA, if_pos (.inl h0)]) (by decide))
      have hd : decide (at_ < 0) = true := decide_eq_true h0
      subst hv
      clear HA hf hR hs hc h0
      go_enter Tryz.func21, Tryz.ntmps21
      go_wp2_with fail
      refine C.out.mono ?_
      rintro e1 w1 ⟨rfl, hb⟩
      go_wp2_with fail
      go_ret3
      exact ⟨_, by rw [H.out]; rfl, by rw [H.out]; exact World.ownsRow_nil _ _ _ _, hb⟩
    · have hd : decide (at_ < 0) = false := decide_eq_false h0
      by_cases h1 : (ts.length : Int) < at_
      · have H : Hid (parseV ts at_ = ([], 0, 2)) := Lib.hid (parse_no (by rw [HA, if_pos (.inr h1)]) (by decide))
        have hd1 : decide ((ts.length : Int) < at_) = true := decide_eq_true h1
        subst hv
        clear HA hf hR hs hc h0 h1
        go_enter Tryz.func21, Tryz.ntmps21
        go_wp2_with fail
        refine C.out.mono ?_
        rintro e1 w1 ⟨rfl, hb⟩
        go_wp2_with fail
        go_ret3
        exact ⟨_, by rw [H.out]; rfl, by rw [H.out]; exact World.ownsRow_nil _ _ _ _, hb⟩
      · obtain ⟨a, rfl⟩ : ∃ a : Nat, at_ = a := ⟨at_.toNat, by omega⟩
        have hd1 : decide ((ts.length : Int) < (a : Int)) = false := decide_eq_false h1
        have hd2 : decide (ts.length < a) = false := decide_eq_false (by omega)
        have ha : a ≤ ts.length := by omega
        rw [parse_out hc ha]
        have D := Lib.hid ((all_ok v ts hs (ts_ok hc) _ a (Nat.le_refl _) ha).l0)
        obtain ⟨r, hr⟩ : ∃ r, gotV ts.length (rd 0 (sfrom ts a)) = r := ⟨_, rfl⟩
        unfold LineOk at D
        rw [hr] at D ⊢
        have F := Lib.hid hf
        have HR := Lib.hid hR
        subst hv
        clear HA hf hR hs hc h0 h1 hr
        go_enter Tryz.func21, Tryz.ntmps21
        go_wp2_with fail
        refine C.out.mono ?_
        rintro e1 w1 ⟨rfl, hb⟩
        have F1 := Lib.hid (F.out.below hb)
        have R1 := Lib.hid (HR.out.below hb)
        have B1 := Lib.hid hb
        clear hb
        go_wp2_with fail
        refine (D.out _ F1.out R1.out).mono ?_
        rintro e2 w2 ⟨vx, rfl, ho, hb⟩
        have O2 := Lib.hid (own_lower ho B1.out.size)
        have B2 := Lib.hid (below_step B1.out hb)
        clear ho hb
        go_wp2_with fail
        go_ret3
        exact ⟨_, rfl, O2.out, B2.out⟩
  · rw [if_pos hc] at HA
    have H : Hid (parseV ts at_ = ([], 0, ckV ts)) := Lib.hid (parse_no HA hc)
    have hc2 : (ckV ts != 0) = true := by rw [bne_iff_ne]; exact hc
    obtain ⟨c, hcc⟩ : ∃ c, ckV ts = c := ⟨_, rfl⟩
    rw [hcc] at H C hc2
    clear HA hf hR hs hc hcc
    go_enter Tryz.func21, Tryz.ntmps21
    go_wp2_with fail
    refine C.out.mono ?_
    rintro e1 w1 ⟨rfl, hb⟩
    go_wp2_with fail
    go_ret3
    exact ⟨_, by rw [H.out]; rfl, by rw [H.out]; exact World.ownsRow_nil _ _ _ _, hb⟩
end Go.Proofs.YtdinaedknlkicaaGreatDoor.ExprW
/-
  Contracts of package exprs at the landed code (layer 5): written, partOf, Text.
-/
namespace Go.Proofs.YtdinaedknlkicaaGreatDoor.ExprW
open Nodes Exprs
open Go.ChangeShapes Go.WideShapes Go.ChangeAt Go.RowKit

def WrittenOk (v : Value) (l : List Nd) (i : Nat) : Prop := ∀ w, ExprFix w → ReadsN w v l →
  Calls Tryz.prog 68 #[v, .int .i64 i] w fun e w' => e = .returned (.string ⟨(WT l i).toArray⟩) ∧ Below w.heap.size w w'
def PartOk (v : Value) (l : List Nd) (i : Nat) : Prop := ∀ w, ExprFix w → ReadsN w v l →
  Calls Tryz.prog 88 #[v, .int .i64 i] w fun e w' => e = .returned (.string ⟨(PT l i).toArray⟩) ∧ Below w.heap.size w w'
theorem parts_in {k : Int} (h1 : 1 ≤ k) (h2 : k ≤ 19) : partsV k = (((arity k : Nat) : Int), 0) := by unfold partsV; rw [if_pos ⟨h1, h2⟩]
set_option maxRecDepth 100000 in
set_option maxHeartbeats 1000000 in
theorem part_any (v : Value) (l : List Nd) (i : Nat) (hc : checkV l = 0) (hw : Wide l) (hi : i < l.length) (hW : WrittenOk v l i) : PartOk v l i := by
  intro w hf hR
  have W := Lib.hid (hW w hf hR)
  have hb := wt_bound hc hw hi
  obtain ⟨k1, k2, _⟩ := node_facts hc hi
  have HR := Lib.hid hR
  obtain ⟨kd, hkd⟩ : ∃ kd, l[i].kind = kd := ⟨_, rfl⟩
  rw [hkd] at k1 k2
  have P := Lib.hid (fun W => nodesParts_any kd (by omega) (by omega) W)
  rw [parts_in k1 k2] at P
  have hPT : PT l i = if arity kd = 0 then WT l i else 40 :: WT l i ++ [41] := by unfold PT; rw [kindAt_lt hi, hkd]
  obtain ⟨s, hs⟩ : ∃ s : ByteArray, (⟨(WT l i).toArray⟩ : ByteArray) = s := ⟨_, rfl⟩
  have hl : s.data.toList = WT l i := by rw [← hs]
  have hsz : s.size ≤ 2000 := by rw [← hs]; show (WT l i).toArray.size ≤ 2000; simpa using hb.1
  rw [hs] at W
  by_cases h0 : arity kd = 0
  · rw [if_pos h0] at hPT
    rw [hPT, hs]
    rw [h0] at P
    clear hf hR hW hPT hw hc h0 hs hl hb
    go_enter Tryz.func88, Tryz.ntmps88
    go_wp2_with fail
    refine W.out.mono ?_
    rintro e w1 ⟨rfl, hb⟩
    have R1 := HR.out.below hb
    have B1 := Lib.hid hb
    obtain ⟨bb, o, cap, rfl, hlt, c0, c1, c2, c3, c4⟩ := R1.nd i hi
    rw [hkd] at c0
    clear hb hkd
    go_wp2_with fail
    refine (P.out _).mono ?_
    rintro e w2 ⟨rfl, hb⟩
    have B2 := Lib.hid (below_step B1.out hb)
    clear hb
    go_wp2_with fail
    go_ret
    exact ⟨rfl, B2.out⟩
  · rw [if_neg h0] at hPT
    have H : Hid ((⟨(PT l i).toArray⟩ : ByteArray) = ({ data := #[40] } : ByteArray) ++ s ++ ({ data := #[41] } : ByteArray)) := Lib.hid (by
      rw [hPT, ← hl]
      apply ByteArray.ext
      apply Array.toList_inj.1
      simp [ByteArray.data_append])
    have hne : (((arity kd : Nat) : Int) == 0) = false := by rw [beq_eq_false_iff_ne]; omega
    obtain ⟨z, hz⟩ : ∃ z : Int, ((arity kd : Nat) : Int) = z := ⟨_, rfl⟩
    rw [hz] at P hne
    clear hf hR hW hPT hw hc h0 hs hl hb
    go_enter Tryz.func88, Tryz.ntmps88
    go_wp2_with fail
    refine W.out.mono ?_
    rintro e w1 ⟨rfl, hb⟩
    have R1 := HR.out.below hb
    have B1 := Lib.hid hb
    obtain ⟨bb, o, cap, rfl, hlt, c0, c1, c2, c3, c4⟩ := R1.nd i hi
    rw [hkd] at c0
    clear hb hkd
    go_wp2_with fail
    refine (P.out _).mono ?_
    rintro e w2 ⟨rfl, hb⟩
    have B2 := Lib.hid (below_step B1.out hb)
    clear hb
    go_wp2_with fail
    go_ret
    exact ⟨by rw [H.out]; rfl, B2.out⟩
/-! ### written -/
set_option maxRecDepth 100000 in
set_option maxHeartbeats 1000000 in
theorem written_leaf (v : Value) (l : List Nd) (i : Nat) (hc : checkV l = 0) (hw : Wide l) (hi : i < l.length) (h0 : arity l[i].kind = 0) : WrittenOk v l i := by
  intro w hf hR
  obtain ⟨k1, k2, hn0, hn1, _⟩ := node_facts hc hi
  have hn2 := hw _ (List.getElem_mem hi)
  rw [wt_leaf hi h0]
  obtain ⟨bb, o, cap, rfl, hlt, c0, c1, c2, c3, c4⟩ := hR.nd i hi
  have IT := Lib.hid (fun W hW => intsText_any l[i].n (by omega) hn2 W hW)
  obtain ⟨kd, hkd⟩ : ∃ kd, l[i].kind = kd := ⟨_, rfl⟩
  obtain ⟨n, hn⟩ : ∃ n, l[i].n = n := ⟨_, rfl⟩
  rw [hkd] at c0 k1 k2 hn1 h0 ⊢
  rw [hn] at c1 hn0 hn1 hn2 IT ⊢
  have F := Lib.hid hf
  have hk : kd = 1 ∨ kd = 2 ∨ kd = 3 ∨ kd = 4 := by
    unfold arity at h0
    split at h0
    · omega
    · split at h0 <;> cases h0
  clear hf hR hc hw h0 hkd hn k1 k2
  rcases hk with rfl | rfl | rfl | rfl
  · go_enter Tryz.func68, Tryz.ntmps68
    go_wp2_with fail
    refine (IT.out _ (F.out.below ((Below.refl _ _).alloc (Nat.le_refl _) _)).2.1).mono ?_
    rintro e w1 ⟨rfl, hb⟩
    have B1 := Lib.hid (Nodes.below_box (Below.refl _ _) hb)
    clear hb
    go_wp2_with fail
    go_ret
    exact ⟨rfl, B1.out⟩
  all_goals
    go_enter Tryz.func68, Tryz.ntmps68
    go_wp2_with fail
    go_ret
    exact ⟨rfl, (Below.refl _ _).alloc (Nat.le_refl _) _⟩
theorem front_text (k : Int) (h : k = 5 ∨ k = 6) (x : List UInt8) (s : ByteArray) (hl : s.data.toList = x) : (⟨((frontI k).2 ++ 32 :: x).toArray⟩ : ByteArray) = (if k = 5 then { data := #[45, 32] } else { data := #[110, 111, 116, 32] }) ++ s := by
  rw [← hl]
  rcases h with rfl | rfl
  · rw [if_pos rfl]
    apply ByteArray.ext
    apply Array.toList_inj.1
    simp [ByteArray.data_append, frontI]
  · rw [if_neg (by decide)]
    apply ByteArray.ext
    apply Array.toList_inj.1
    simp [ByteArray.data_append, frontI]
set_option maxRecDepth 100000 in
set_option maxHeartbeats 1000000 in
theorem written_one (v : Value) (l : List Nd) (i : Nat) (hc : checkV l = 0) (hw : Wide l) (hi : i < l.length) (h0 : arity l[i].kind = 1) (hP : ∀ j, j < i → PartOk v l j) : WrittenOk v l i := by
  intro w hf hR
  obtain ⟨k1, k2, _⟩ := node_facts hc hi
  obtain ⟨j, hj, ha, he⟩ := wt_one hc hi h0
  rw [he]
  have P := Lib.hid (hP j hj)
  unfold PartOk at P
  have F := Lib.hid hf
  have HR := Lib.hid hR
  have hb := (wt_bound hc hw (show j < l.length by omega)).2
  obtain ⟨s, hs⟩ : ∃ s : ByteArray, (⟨(PT l j).toArray⟩ : ByteArray) = s := ⟨_, rfl⟩
  have hl : s.data.toList = PT l j := by rw [← hs]
  have hsz : s.size ≤ 2000 := by rw [← hs]; show (PT l j).toArray.size ≤ 2000; simpa using hb
  rw [hs] at P
  obtain ⟨bb, o, cap, rfl, hlt, c0, c1, c2, c3, c4⟩ := hR.nd i hi
  rw [ha] at c2
  have hk : l[i].kind = 5 ∨ l[i].kind = 6 := by
    unfold arity at h0
    split at h0
    · cases h0
    · split at h0
      · omega
      · cases h0
  have H := Lib.hid (front_text l[i].kind hk _ s hl)
  obtain ⟨kd, hkd⟩ : ∃ kd, l[i].kind = kd := ⟨_, rfl⟩
  rw [hkd] at c0 H hk ⊢
  clear hf hR hc hw h0 hkd k1 k2 hP ha he hs hl hb hj
  rcases hk with rfl | rfl
  all_goals
    go_enter Tryz.func68, Tryz.ntmps68
    go_wp2_with fail
    refine (P.out _ (F.out.below ((Below.refl _ _).alloc (Nat.le_refl _) _)) (HR.out.below ((Below.refl _ _).alloc (Nat.le_refl _) _))).mono ?_
    rintro e w1 ⟨rfl, hb⟩
    have B1 := Lib.hid (Nodes.below_box (Below.refl _ _) hb)
    clear hb
    go_wp2_with fail
    go_ret
    exact ⟨by rw [H.out]; rfl, B1.out⟩
theorem two_text (k : Int) (x y : List UInt8) (s t : ByteArray) (n : Nat) (hk : k = 7 + (n : Int)) (hl : s.data.toList = x) (hm : t.data.toList = y) : (⟨(x ++ 32 :: (opT k ++ 32 :: y)).toArray⟩ : ByteArray) = s ++ { data := #[32] } ++ opAt n ++ { data := #[32] } ++ t := by
  have e : (opAt n).data.toList = opT k := by
    unfold opAt opT
    rw [hk]
    have : ((7 + (n : Int)).toNat - 7) = n := by omega
    rw [this]
  rw [← hl, ← hm, ← e]
  apply ByteArray.ext
  apply Array.toList_inj.1
  simp [ByteArray.data_append]
/-- What a call of written holds on to while it writes its parts. -/
def Hold (v : Value) (l : List Nd) (w W : World) : Prop := ExprFix W ∧ ReadsN W v l ∧ Below w.heap.size w W ∧ w.heap.size < W.heap.size
def TwoAt (w : World) (kd j k : Int) (n : Nat) (W : World) : Prop :=
  W.cell? ⟨w.heap.size, 0, none⟩ = some (.int .u8 kd) ∧ W.cell? ⟨w.heap.size, 2, none⟩ = some (.int .i64 j) ∧ W.cell? ⟨w.heap.size, 3, none⟩ = some (.int .i64 k) ∧ W.cell? ⟨3, n, none⟩ = some (.string (opAt n))
theorem Hold.then_ {v : Value} {l : List Nd} {w W W' : World} (h : Hold v l w W) (hb : Below W.heap.size W W') : Hold v l w W' :=
  ⟨h.1.below hb, h.2.1.below hb, below_step h.2.2.1 hb, Nat.lt_of_lt_of_le h.2.2.2 hb.size⟩
theorem TwoAt.then_ {w W W' : World} {kd j k : Int} {n : Nat} (h : TwoAt w kd j k n W) (hl : w.heap.size < W.heap.size) (hb : Below W.heap.size W W') : TwoAt w kd j k n W' :=
  ⟨(hb.cell (p := ⟨_, _, none⟩) hl).trans h.1, (hb.cell (p := ⟨_, _, none⟩) hl).trans h.2.1, (hb.cell (p := ⟨_, _, none⟩) hl).trans h.2.2.1, (hb.cell (p := ⟨_, _, none⟩) (World.block_lt_of_cell? _ _ h.2.2.2)).trans h.2.2.2⟩
theorem Hold.drew {v : Value} {l : List Nd} {w W : World} (h : Hold v l w W) : Hold v l w W.drew := h.then_ (Below.drew (Below.refl _ _))
theorem op_cell_at {w : World} (h : OpFix w) (n : Nat) (hn : n < 13) : w.cell? ⟨3, n, none⟩ = some (.string (opAt n)) := by
  have hr := fix_ops h n (.string (opAt n)) (by
    match n, hn with
    | 0, _ | 1, _ | 2, _ | 3, _ | 4, _ | 5, _ | 6, _ | 7, _ | 8, _ | 9, _ | 10, _ | 11, _ | 12, _ => rfl)
  rw [Nat.zero_add] at hr
  exact hr
set_option maxRecDepth 100000 in
set_option maxHeartbeats 2000000 in
theorem written_two (v : Value) (l : List Nd) (i : Nat) (hc : checkV l = 0) (hw : Wide l) (hi : i < l.length) (h0 : arity l[i].kind = 2) (hP : ∀ j, j < i → PartOk v l j) : WrittenOk v l i := by
  intro w hf hR
  obtain ⟨k1, k2, _⟩ := node_facts hc hi
  obtain ⟨j, k, hj, hk, ha, hb, he, _⟩ := wt_two hc hi h0
  rw [he]
  have P := Lib.hid (hP j hj)
  have Q := Lib.hid (hP k hk)
  have hb1 := (wt_bound hc hw (show j < l.length by omega)).2
  have hb2 := (wt_bound hc hw (show k < l.length by omega)).2
  have HR := Lib.hid hR
  have F := Lib.hid hf
  obtain ⟨s, hs⟩ : ∃ s : ByteArray, (⟨(PT l j).toArray⟩ : ByteArray) = s := ⟨_, rfl⟩
  have hl : s.data.toList = PT l j := by rw [← hs]
  have hsz : s.size ≤ 2000 := by rw [← hs]; show (PT l j).toArray.size ≤ 2000; simpa using hb1
  obtain ⟨t, htt⟩ : ∃ s : ByteArray, (⟨(PT l k).toArray⟩ : ByteArray) = s := ⟨_, rfl⟩
  have hl2 : t.data.toList = PT l k := by rw [← htt]
  have hsz2 : t.size ≤ 2000 := by rw [← htt]; show (PT l k).toArray.size ≤ 2000; simpa using hb2
  unfold PartOk at P Q
  obtain ⟨jI, hjI⟩ : ∃ q : Int, (j : Int) = q := ⟨_, rfl⟩
  obtain ⟨kI, hkI⟩ : ∃ q : Int, (k : Int) = q := ⟨_, rfl⟩
  rw [hs] at P
  rw [htt] at Q
  simp only [hjI] at P
  simp only [hkI] at Q
  obtain ⟨bb, o, cap, rfl, hlt, c0, c1, c2, c3, c4⟩ := hR.nd i hi
  rw [ha, hjI] at c2
  rw [hb, hkI] at c3
  have hkk : 7 ≤ l[i].kind := by
    unfold arity at h0
    split at h0
    · cases h0
    · split at h0
      · cases h0
      · omega
  obtain ⟨kd, hkd⟩ : ∃ kd, l[i].kind = kd := ⟨_, rfl⟩
  rw [hkd] at c0 hkk k2 ⊢
  obtain ⟨n, hkn⟩ : ∃ n : Nat, kd - 7 = (n : Int) := ⟨(kd - 7).toNat, by omega⟩
  have hn13 : n < 13 := by omega
  rw [two_text kd _ _ s t n (by omega) hl hl2]
  have hn0 : (0 : Int) ≤ n := by omega
  have hn1 : (n : Int) < 13 := by omega
  have hw8 : IntKind.u8.wrap (n : Int) = (n : Int) := by
    match n, hn13 with
    | 0, _ | 1, _ | 2, _ | 3, _ | 4, _ | 5, _ | 6, _ | 7, _ | 8, _ | 9, _ | 10, _ | 11, _ | 12, _ => rfl
  have ho : (opAt n).size ≤ 3 := by
    match n, hn13 with
    | 0, _ | 1, _ | 2, _ | 3, _ | 4, _ | 5, _ | 6, _ | 7, _ | 8, _ | 9, _ | 10, _ | 11, _ | 12, _ => decide
  have z1 : (9223372036854775807 < s.size + 1) = False := eq_false (by omega)
  have z2 : (9223372036854775807 < s.size + 1 + (opAt n).size) = False := eq_false (by omega)
  have z3 : (9223372036854775807 < s.size + 1 + (opAt n).size + 1) = False := eq_false (by omega)
  have z4 : (9223372036854775807 < s.size + 1 + (opAt n).size + 1 + t.size) = False := eq_false (by omega)
  have t1 : (kd == 1) = false := by rw [beq_eq_false_iff_ne]; omega
  have t2 : (kd == 2) = false := by rw [beq_eq_false_iff_ne]; omega
  have t3 : (kd == 3) = false := by rw [beq_eq_false_iff_ne]; omega
  have t4 : (kd == 4) = false := by rw [beq_eq_false_iff_ne]; omega
  have t5 : (kd == 5) = false := by rw [beq_eq_false_iff_ne]; omega
  have t6 : (kd == 6) = false := by rw [beq_eq_false_iff_ne]; omega
  have H : Hid (Hold (.slice (some { block := bb, off := o }) l.length cap) l w w) → True := fun _ => trivial
  have PP : Hid (∀ W, TwoAt w kd jI kI n W → Hold (.slice (some { block := bb, off := o }) l.length cap) l w W → Calls Tryz.prog 88 #[.slice (some { block := bb, off := o }) l.length cap, .int .i64 jI] W fun e w' => e = .returned (.string s) ∧ TwoAt w kd jI kI n w' ∧ Hold (.slice (some { block := bb, off := o }) l.length cap) l w w') := Lib.hid fun W h1 h2 => by
    refine (P.out W h2.1 h2.2.1).mono ?_
    rintro e w' ⟨rfl, hb⟩
    exact ⟨rfl, h1.then_ h2.2.2.2 hb, h2.then_ hb⟩
  have QQ : Hid (∀ W, TwoAt w kd jI kI n W → Hold (.slice (some { block := bb, off := o }) l.length cap) l w W → Calls Tryz.prog 88 #[.slice (some { block := bb, off := o }) l.length cap, .int .i64 kI] W fun e w' => e = .returned (.string t) ∧ TwoAt w kd jI kI n w' ∧ Hold (.slice (some { block := bb, off := o }) l.length cap) l w w') := Lib.hid fun W h1 h2 => by
    refine (Q.out W h2.1 h2.2.1).mono ?_
    rintro e w' ⟨rfl, hb⟩
    exact ⟨rfl, h1.then_ h2.2.2.2 hb, h2.then_ hb⟩
  have OC := op_cell_at hf.2.2 n hn13
  have H0 : Hid (∀ ob : Obj, Hold (.slice (some { block := bb, off := o }) l.length cap) l w (w.alloc ob)) := Lib.hid fun ob => by
    have hb : Below w.heap.size w (w.alloc ob) := (Below.refl _ _).alloc (Nat.le_refl _) _
    exact ⟨hf.below hb, hR.below hb, hb, by simp⟩
  have HD : ∀ W, Hold (.slice (some { block := bb, off := o }) l.length cap) l w W → Hold (.slice (some { block := bb, off := o }) l.length cap) l w W.drew := fun W h => h.drew
  clear H P Q hf hR hc hw h0 hkd k1 hP ha he hs hb hb1 hb2 htt hj hk hl hl2 F HR hjI hkI
  go_enter Tryz.func68, Tryz.ntmps68
  go_wp2_with fail
  have H1 := H0.out (Obj.cells #[.int .u8 kd, .int .i64 l[i].n, .int .i64 jI, .int .i64 kI, .int .i64 l[i].at_] 43)
  go_region_held3 (fun W => W.cell? ⟨w.heap.size, 0, none⟩ = some (.int .u8 kd) ∧ W.cell? ⟨w.heap.size, 2, none⟩ = some (.int .i64 jI) ∧ W.cell? ⟨w.heap.size, 3, none⟩ = some (.int .i64 kI) ∧ W.cell? ⟨3, n, none⟩ = some (.string (opAt n)) ∧ Hold (.slice (some { block := bb, off := o }) l.length cap) l w W) (go_keep) (first
    | (go_at_call_of 88 jI; refine (PP.out _ ?_ ?_).mono ?_; (unfold TwoAt; simp [*]); (simp [*]); rintro e w2 ⟨rfl, ⟨e0, e2, e3, e4⟩, e5⟩)
    | (go_at_call_of 88 kI; refine (QQ.out _ ?_ ?_).mono ?_; (unfold TwoAt; simp [*]); (simp [*]); rintro e w2 ⟨rfl, ⟨e0, e2, e3, e4⟩, e5⟩))
  go_wp2_with fail
  go_ret
  exact ⟨rfl, e5.2.2.1⟩
theorem all_written (v : Value) (l : List Nd) (hc : checkV l = 0) (hw : Wide l) (m : Nat) : ∀ i, i < m → i < l.length → PartOk v l i ∧ WrittenOk v l i := by
  induction m with
  | zero => intro i h; omega
  | succ m ih =>
    intro i him hi
    have hP : ∀ j, j < i → PartOk v l j := fun j hj => (ih j (by omega) (by omega)).1
    have hW : WrittenOk v l i := by
      obtain ⟨_, _, _, _, _, _, hcase⟩ := node_facts hc hi
      rcases hcase with ⟨h0, _⟩ | ⟨h1, _⟩ | ⟨h2, _⟩
      · exact written_leaf v l i hc hw hi h0
      · exact written_one v l i hc hw hi h1 hP
      · exact written_two v l i hc hw hi h2 hP
    exact ⟨part_any v l i hc hw hi hW, hW⟩
/-! ### Text -/
set_option maxRecDepth 100000 in
theorem exprsText_any (v : Value) (l : List Nd) (w : World) (hf : ExprFix w) (hR : ReadsN w v l) (hn : l.length ≤ 1000000) (hw : Wide l) :
    Calls Tryz.prog 45 #[v] w (TextEnds (textV l) w) := by
  have C := Lib.hid (nodesCheck_any v l w hR hn)
  obtain ⟨ad, cap, hv⟩ := hR.shape
  by_cases hc : checkV l = 0
  · have hl : 0 < l.length := (check_acc hc).2.1
    have T := Lib.hid (all_written v l hc hw l.length (l.length - 1) (by omega) (by omega)).2
    unfold WrittenOk at T
    rw [textV_wt hc hl]
    obtain ⟨x, hx⟩ : ∃ x, WT l (l.length - 1) = x := ⟨_, rfl⟩
    rw [hx] at T ⊢
    rw [hc] at C
    have he : IntKind.i64.wrap ((l.length : Int) - 1) = ((l.length - 1 : Nat) : Int) := by rw [IntKind.wrap_i64]; omega
    have F := Lib.hid hf
    have HR := Lib.hid hR
    subst hv
    clear hf hR hc hw hx
    go_enter Tryz.func45, Tryz.ntmps45
    go_wp2_with fail
    refine C.out.mono ?_
    rintro e w1 ⟨rfl, hb⟩
    have F1 := Lib.hid (F.out.below hb)
    have R1 := Lib.hid (HR.out.below hb)
    have B1 := Lib.hid hb
    clear hb
    go_wp2_with fail
    refine (T.out _ F1.out R1.out).mono ?_
    rintro e w2 ⟨rfl, hb⟩
    have B2 := Lib.hid (below_step B1.out hb)
    clear hb
    go_wp2_with fail
    go_ret2
    exact ⟨rfl, B2.out⟩
  · have H : Hid (textV l = ([], checkV l)) := Lib.hid (by unfold textV; rw [if_neg hc])
    have hc2 : (checkV l != 0) = true := by rw [bne_iff_ne]; exact hc
    obtain ⟨c, hcc⟩ : ∃ c, checkV l = c := ⟨_, rfl⟩
    rw [hcc] at C H hc2
    rw [H.out]
    subst hv
    clear hf hR hw hc hcc
    go_enter Tryz.func45, Tryz.ntmps45
    go_wp2_with fail
    refine C.out.mono ?_
    rintro e w1 ⟨rfl, hb⟩
    go_wp2_with fail
    go_ret2
    exact ⟨rfl, hb⟩
end Go.Proofs.YtdinaedknlkicaaGreatDoor.ExprW
/-
  All that the walks of layer 5's statements ask of the packages that they reach.
-/


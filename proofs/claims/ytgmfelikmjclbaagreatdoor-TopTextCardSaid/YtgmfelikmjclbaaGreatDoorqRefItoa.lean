/-
  Contracts of the reference of layer 5: leaf, part, Written; of the reference of layer 1: Text of a number that is not negative.
-/
import Derived.Test.YtgmfelikmjclbaaGreatDoorPackE1
import Derived.Test.YtgmfelikmjclbaaGreatDoorqRefNode
import Derived.Lib.SlBytesRow
import Derived.Lib.ItoaLen
import Derived.Deep.RegionHeld3
import Derived.Outline
namespace Go.Proofs.YtgmfelikmjclbaaGreatDoor.ExprW
open Nodes Exprs
open Go.ChangeShapes Go.WideShapes Go.ChangeAt Go.RowKit

def oneT (x : Int) : ByteArray := ⟨#[UInt8.ofNat x.toNat]⟩
theorem convT (x : Int) (h0 : 0 ≤ x) (h1 : x ≤ 255) (w : World) :
    (convert 100 9 (.slice (some { block := w.heap.size, off := 0 }) 1 1)).run Tryz.prog (w.alloc (Obj.cells #[Value.int IntKind.u8 x] 5)) = .ok (.string (oneT x)) (w.alloc (Obj.cells #[Value.int IntKind.u8 x] 5)) := by
  refine Lib.run_convert_whole (w.alloc (Obj.cells #[Value.int IntKind.u8 x] 5)) 100 5 9 Tryz.underlying100 Tryz.underlying5 Tryz.underlying9 w.heap.size 0 (oneT x) ?_ 1
  intro i hi
  have h : i < 1 := hi
  obtain rfl : i = 0 := by omega
  have e : ((oneT x)[0]'hi).toNat = x.toNat := by
    show (UInt8.ofNat x.toNat).toNat = x.toNat
    rw [UInt8.toNat_ofNat']; omega
  rw [show (((oneT x)[0]'hi).toNat : Int) = x by rw [e]; omega]
  simp [go_sem]
def bytesT (l : List UInt8) : ByteArray := ⟨l.toArray⟩
theorem bytesT_append (l m : List UInt8) : bytesT l ++ bytesT m = bytesT (l ++ m) := by
  apply ByteArray.ext; simp [bytesT]
theorem oneT_bytes (x : Int) : oneT x = bytesT [UInt8.ofNat x.toNat] := rfl
theorem tailT {n : Int} (h : 10 ≤ n) : bytesT (Lib.itoa (n / 10)) ++ oneT (48 + n % 10) = bytesT (Lib.itoa n) := by
  rw [oneT_bytes, bytesT_append]
  congr 1
  unfold Lib.itoa
  rw [if_neg (by omega), if_neg (by omega)]
  rw [Lib.decDigits.eq_1 n.toNat, dif_neg (by omega)]
  rw [show (n / 10).toNat = n.toNat / 10 by omega, show (48 + n % 10).toNat = 48 + n.toNat % 10 by omega]
theorem lastT {n : Int} (h0 : 0 ≤ n) (h : n < 10) : oneT (48 + n % 10) = bytesT (Lib.itoa n) := by
  rw [oneT_bytes]
  congr 1
  unfold Lib.itoa
  rw [if_neg (by omega), Lib.decDigits.eq_1 n.toNat, dif_pos (by omega), show (48 + n % 10).toNat = 48 + n.toNat by omega]
theorem sizeT (n x : Int) (h0 : -9223372036854775808 ≤ n) (h1 : n ≤ 9223372036854775807) : (bytesT (Lib.itoa n)).size + (oneT x).size ≤ 9223372036854775807 := by
  have := Lib.itoa_length_le n h0 h1
  have e : (bytesT (Lib.itoa n)).size = (Lib.itoa n).length := by simp [bytesT, ByteArray.size]
  have e1 : (oneT x).size = 1 := rfl
  omega
def ItoaEnds (n : Int) (w : World) (e : Ending) (w' : World) : Prop := e = .returned (.string (bytesT (Lib.itoa n))) ∧ Below w.heap.size w w'
set_option maxRecDepth 100000 in
theorem refItoa_last (n : Int) (h0 : 0 ≤ n) (h1 : n < 10) (w : World) : Calls Tryz.prog 60 #[.int .i64 n] w (ItoaEnds n w) := by
  have hc := convT (48 + n % 10) (by omega) (by omega) w
  have hq : (n / 10 != 0) = false := by rw [bne_eq_false_iff_eq]; omega
  have H := Lib.hid (lastT h0 h1)
  go_enter Tryz.func60, Tryz.ntmps60
  go_wp2_with fail
  go_ret
  exact ⟨congrArg (fun x => Ending.returned (.string x)) H.out, (Below.refl w.heap.size w).alloc (Nat.le_refl _) _⟩
set_option maxRecDepth 100000 in
theorem refItoa_tail (n : Int) (h0 : 10 ≤ n) (h1 : n ≤ 9223372036854775807) (w : World) (ih : ∀ W : World, Calls Tryz.prog 60 #[.int .i64 (n / 10)] W (ItoaEnds (n / 10) W)) : Calls Tryz.prog 60 #[.int .i64 n] w (ItoaEnds n w) := by
  have hc := convT (48 + n % 10) (by omega) (by omega) w
  have hq : (n / 10 != 0) = true := by rw [bne_iff_ne]; omega
  have H := Lib.hid (tailT h0)
  have hs := sizeT (n / 10) (48 + n % 10) (by omega) (by omega)
  have IH := Lib.hid ih
  clear ih
  go_enter Tryz.func60, Tryz.ntmps60
  go_wp2_with fail
  refine (IH.out _).mono ?_
  rintro e w' ⟨rfl, hb⟩
  go_wp2_with fail
  go_ret
  exact ⟨congrArg (fun x => Ending.returned (.string x)) H.out, Nodes.below_box (Below.refl _ _) hb⟩
theorem refItoa_all (k : Nat) : ∀ (n : Int) (w : World), n.toNat ≤ k → 0 ≤ n → n ≤ 9223372036854775807 → Calls Tryz.prog 60 #[.int .i64 n] w (ItoaEnds n w) := by
  induction k with
  | zero =>
    intro n w hk h0 _
    exact refItoa_last n h0 (by omega) w
  | succ k ih =>
    intro n w hk h0 h1
    by_cases h : n < 10
    · exact refItoa_last n h0 h w
    · exact refItoa_tail n (by omega) h1 w fun W => ih _ W (by omega) (by omega) (by omega)
theorem refItoa_any (n : Int) (h0 : 0 ≤ n) (h1 : n ≤ 9223372036854775807) (w : World) : Calls Tryz.prog 60 #[.int .i64 n] w (ItoaEnds n w) := refItoa_all n.toNat n w (Nat.le_refl _) h0 h1

/-! ### leaf, part, Written -/
set_option maxRecDepth 100000 in
set_option maxHeartbeats 1000000 in
theorem refLeaf_any (l : List Nd) (i : Nat) (w : World) (hc : checkV l = 0) (hw : Wide l) (hi : i < l.length) (h0 : arity l[i].kind = 0) :
    Calls Tryz.prog 38 #[ndVal l[i]] w fun e w' => e = .returned (.string ⟨(WT l i).toArray⟩) ∧ Below w.heap.size w w' := by
  obtain ⟨k1, k2, hn0, hn1, _⟩ := node_facts hc hi
  have hn2 := hw _ (List.getElem_mem hi)
  rw [wt_leaf hi h0]
  obtain ⟨x, hx⟩ : ∃ x, l[i] = x := ⟨_, rfl⟩
  rw [hx] at k1 k2 hn0 hn1 hn2 h0 ⊢
  obtain ⟨kd, n, xa, xb, xp⟩ := x
  unfold ndVal
  simp only at k1 k2 hn0 hn1 hn2 h0 ⊢
  have IT := Lib.hid (fun W => refItoa_any n (by omega) hn2 W)
  have hk : kd = 1 ∨ kd = 2 ∨ kd = 3 ∨ kd = 4 := by
    unfold arity at h0
    split at h0
    · omega
    · split at h0 <;> cases h0
  clear hc hw h0 k1 k2 hx
  rcases hk with rfl | rfl | rfl | rfl
  · go_enter Tryz.func38, Tryz.ntmps38
    go_wp2_with fail
    refine (IT.out _).mono ?_
    rintro e w1 ⟨rfl, hb⟩
    have B1 := Lib.hid (Nodes.below_box (Below.refl _ _) hb)
    clear hb
    go_wp2_with fail
    go_ret
    exact ⟨rfl, B1.out⟩
  all_goals
    go_enter Tryz.func38, Tryz.ntmps38
    go_wp2_with fail
    go_ret
    exact ⟨rfl, ((Below.refl _ _).alloc (Nat.le_refl _) _).alloc (by simp) _⟩
def RefWrOk (v : Value) (l : List Nd) (i : Nat) : Prop := ∀ w, ReadsN w v l →
  Calls Tryz.prog 15 #[v, .int .i64 i] w fun e w' => e = .returned (.string ⟨(WT l i).toArray⟩) ∧ Below w.heap.size w w'
def RefPtOk (v : Value) (l : List Nd) (i : Nat) : Prop := ∀ w, ReadsN w v l →
  Calls Tryz.prog 39 #[v, .int .i64 i] w fun e w' => e = .returned (.string ⟨(PT l i).toArray⟩) ∧ Below w.heap.size w w'
set_option maxRecDepth 100000 in
set_option maxHeartbeats 1000000 in
theorem refPart_ok (v : Value) (l : List Nd) (i : Nat) (hc : checkV l = 0) (hw : Wide l) (hi : i < l.length) (hW : RefWrOk v l i) : RefPtOk v l i := by
  intro w hR
  have W := Lib.hid (hW w hR)
  have hb := wt_bound hc hw hi
  have HR := Lib.hid hR
  have LF := Lib.hid (fun h0 W => refLeaf_any l i W hc hw hi h0)
  obtain ⟨kd, hkd⟩ : ∃ kd, l[i].kind = kd := ⟨_, rfl⟩
  have P := Lib.hid (fun W => refCount_any kd W)
  have hPT : PT l i = if arity kd = 0 then WT l i else 40 :: WT l i ++ [41] := by unfold PT; rw [kindAt_lt hi, hkd]
  obtain ⟨s, hs⟩ : ∃ s : ByteArray, (⟨(WT l i).toArray⟩ : ByteArray) = s := ⟨_, rfl⟩
  have hl : s.data.toList = WT l i := by rw [← hs]
  have hsz : s.size ≤ 2000 := by rw [← hs]; show (WT l i).toArray.size ≤ 2000; simpa using hb.1
  rw [hs] at W LF
  obtain ⟨bb, o, cap, rfl, hlt, c0, c1, c2, c3, c4⟩ := hR.nd i hi
  have hi' : (i : Int) < l.length := by omega
  by_cases h0 : arity kd = 0
  · rw [if_pos h0] at hPT
    rw [hPT, hs]
    have L1 := Lib.hid (fun W => LF.out (by rw [hkd]; exact h0) W)
    unfold ndVal at L1
    rw [h0] at P
    rw [hkd] at c0 L1
    clear hR hW hPT hw hc h0 hs hl hb hkd LF
    go_enter Tryz.func39, Tryz.ntmps39
    go_wp2_with fail
    refine (P.out _).mono ?_
    rintro e w2 ⟨rfl, rfl⟩
    go_wp2_with fail
    refine (L1.out _).mono ?_
    rintro e w3 ⟨rfl, hb⟩
    have B3 := Lib.hid hb
    clear hb
    go_wp2_with fail
    go_ret
    exact ⟨rfl, B3.out⟩
  · rw [if_neg h0] at hPT
    have H : Hid ((⟨(PT l i).toArray⟩ : ByteArray) = ({ data := #[40] } : ByteArray) ++ s ++ ({ data := #[41] } : ByteArray)) := Lib.hid (by
      rw [hPT, ← hl]
      apply ByteArray.ext
      apply Array.toList_inj.1
      simp [ByteArray.data_append])
    have hne : (((arity kd : Nat) : Int) == 0) = false := by rw [beq_eq_false_iff_ne]; omega
    obtain ⟨z, hz⟩ : ∃ z : Int, ((arity kd : Nat) : Int) = z := ⟨_, rfl⟩
    rw [hz] at P hne
    rw [hkd] at c0
    clear hR hW hPT hw hc h0 hs hl hb hkd LF hz
    go_enter Tryz.func39, Tryz.ntmps39
    go_wp2_with fail
    refine (P.out _).mono ?_
    rintro e w2 ⟨rfl, rfl⟩
    go_wp2_with fail
    refine W.out.mono ?_
    rintro e w3 ⟨rfl, hb⟩
    have B3 := Lib.hid hb
    clear hb
    go_wp2_with fail
    go_ret
    exact ⟨by rw [H.out]; rfl, B3.out⟩
theorem refWr_leaf (v : Value) (l : List Nd) (i : Nat) (hc : checkV l = 0) (hw : Wide l) (hi : i < l.length) (h0 : arity l[i].kind = 0) : RefWrOk v l i := by
  intro w hR
  have LF := Lib.hid (fun W => refLeaf_any l i W hc hw hi h0)
  obtain ⟨bb, o, cap, rfl, hlt, c0, c1, c2, c3, c4⟩ := hR.nd i hi
  have hi' : (i : Int) < l.length := by omega
  obtain ⟨s, hs⟩ : ∃ s : ByteArray, (⟨(WT l i).toArray⟩ : ByteArray) = s := ⟨_, rfl⟩
  rw [hs] at LF ⊢
  have P := Lib.hid (fun W => refCount_any l[i].kind W)
  rw [h0] at P
  unfold ndVal at LF
  clear hR hw hc h0 hs
  go_enter Tryz.func15, Tryz.ntmps15
  go_wp2_with fail
  refine (P.out _).mono ?_
  rintro e w2 ⟨rfl, rfl⟩
  go_wp2_with fail
  refine (LF.out _).mono ?_
  rintro e w3 ⟨rfl, hb⟩
  have B3 := Lib.hid (Nodes.below_box (Below.refl _ _) hb)
  clear hb
  go_wp2_with fail
  go_ret
  exact ⟨rfl, B3.out⟩
set_option maxRecDepth 100000 in
set_option maxHeartbeats 1000000 in
theorem refWr_one (v : Value) (l : List Nd) (i : Nat) (hc : checkV l = 0) (hw : Wide l) (hi : i < l.length) (h0 : arity l[i].kind = 1) (hP : ∀ j, j < i → RefPtOk v l j) : RefWrOk v l i := by
  intro w hR
  obtain ⟨k1, k2, _⟩ := node_facts hc hi
  obtain ⟨j, hj, ha, he⟩ := wt_one hc hi h0
  rw [he]
  have P := Lib.hid (hP j hj)
  unfold RefPtOk at P
  have HR := Lib.hid hR
  have hb := (wt_bound hc hw (show j < l.length by omega)).2
  obtain ⟨s, hs⟩ : ∃ s : ByteArray, (⟨(PT l j).toArray⟩ : ByteArray) = s := ⟨_, rfl⟩
  have hl : s.data.toList = PT l j := by rw [← hs]
  have hsz : s.size ≤ 2000 := by rw [← hs]; show (PT l j).toArray.size ≤ 2000; simpa using hb
  rw [hs] at P
  obtain ⟨bb, o, cap, rfl, hlt, c0, c1, c2, c3, c4⟩ := hR.nd i hi
  rw [ha] at c2
  have hi' : (i : Int) < l.length := by omega
  have hk : l[i].kind = 5 ∨ l[i].kind = 6 := by
    unfold arity at h0
    split at h0
    · cases h0
    · split at h0
      · omega
      · cases h0
  have CN := Lib.hid (fun W => refCount_any l[i].kind W)
  rw [h0] at CN
  have H := Lib.hid (front_text l[i].kind hk _ s hl)
  obtain ⟨kd, hkd⟩ : ∃ kd, l[i].kind = kd := ⟨_, rfl⟩
  rw [hkd] at c0 H hk CN ⊢
  clear hR hc hw h0 hkd k1 k2 hP ha he hs hl hb hj
  rcases hk with rfl | rfl
  all_goals
    go_enter Tryz.func15, Tryz.ntmps15
    go_wp2_with fail
    refine (CN.out _).mono ?_
    rintro e w0 ⟨rfl, rfl⟩
    go_wp2_with fail
    refine (P.out _ (HR.out.below ((Below.refl _ _).alloc (Nat.le_refl _) _))).mono ?_
    rintro e w1 ⟨rfl, hb⟩
    have B1 := Lib.hid (Nodes.below_box (Below.refl _ _) hb)
    clear hb
    go_wp2_with fail
    go_ret
    exact ⟨by rw [H.out]; rfl, B1.out⟩
end Go.Proofs.YtgmfelikmjclbaaGreatDoor.ExprW

/-
  The walk of layer 9's statement ParserNames: the chapter's examples, short queries, errors with their places.
-/
import Derived.Test.YtdinaedknlkicaaGreatDoorPackH1
import Derived.Test.YtdinaedknlkicaaGreatDoorPackD1
import Derived.Outline
namespace Go.Proofs.YtdinaedknlkicaaGreatDoor.ParserW
open Nodes Exprs ExprW Prs
open Go.ChangeShapes Go.WideShapes Go.ChangeAt Go.RowKit

def namesTx : List (List UInt8) := [[115, 101, 108, 101, 99, 116, 32, 99, 111, 117, 110, 116, 40, 42, 41, 32, 102, 114, 111, 109, 32, 98, 32, 119, 105, 110, 100, 111, 119, 32, 116, 117, 109, 98, 108, 101, 32, 49], [115, 101, 108, 101, 99, 116, 32, 109, 97, 120, 40, 116, 41, 32, 102, 114, 111, 109, 32, 100, 32, 119, 105, 110, 100, 111, 119, 32, 115, 101, 115, 115, 105, 111, 110, 32, 49, 48, 55, 51, 55, 52, 49, 56, 50, 52, 32, 108, 97, 116, 101, 32, 100, 114, 111, 112], [115, 101, 108, 101, 99, 116, 32, 109, 105, 110, 40, 45, 107, 41, 32, 102, 114, 111, 109, 32, 97, 32, 106, 111, 105, 110, 32, 100, 32, 119, 105, 110, 100, 111, 119, 32, 116, 117, 109, 98, 108, 101, 32, 57, 32, 98, 121, 32, 107, 101, 121], [115, 101, 108, 101, 99, 116, 32, 99, 111, 117, 110, 116, 32, 40, 32, 42, 32, 41, 32, 102, 114, 111, 109, 32, 100, 32, 117, 110, 105, 111, 110, 32, 99, 32, 117, 110, 105, 111, 110, 32, 98, 32, 117, 110, 105, 111, 110, 32, 97, 32, 119, 105, 110, 100, 111, 119, 32, 115, 108, 105, 100, 101, 32, 49, 54, 32, 101, 118, 101, 114, 121, 32, 49]]
theorem names_all : ∀ k : Fin 4, (parseP (namesTx.getD k.val [])).2 = (((namesTx.getD k.val []).length : Int), 0) ∧ checkQ (parseP (namesTx.getD k.val [])).1 = 0 := by decide +kernel
theorem names_two : (parseP (namesTx.getD 2 [])).1.join = true ∧ (parseP (namesTx.getD 2 [])).1.key = true ∧ (parseP (namesTx.getD 2 [])).1.agg = 3 ∧ (parseP (namesTx.getD 2 [])).1.src = [0, 3] ∧ (parseP (namesTx.getD 2 [])).1.late = 1 := by decide +kernel
theorem names_short : ∀ k : Fin 4, (namesTx.getD k.val []).length ≤ 100 := by decide
abbrev namesBox : Obj := .cells (namesTx.map fun x => Value.string ⟨x.toArray⟩).toArray 9
def TextsAt (W : World) (b : Nat) : Prop := b < W.heap.size ∧ ∀ k : Nat, k < 4 → W.cell? ⟨b, k, none⟩ = some (.string ⟨(namesTx.getD k []).toArray⟩)
theorem TextsAt.below {W W' : World} {b : Nat} (h : TextsAt W b) (hb : Below W.heap.size W W') : TextsAt W' b :=
  ⟨Nat.lt_of_lt_of_le h.1 hb.size, fun k hk => (hb.cell (p := ⟨b, k, none⟩) h.1).trans (h.2 k hk)⟩
theorem texts_start (w : World) : TextsAt (w.alloc namesBox) w.heap.size := by
  refine ⟨by simp, fun k hk => ?_⟩
  rw [World.cell?_alloc_at _ _ _ _ rfl]
  match k, hk with
  | 0, _ => rfl
  | 1, _ => rfl
  | 2, _ => rfl
  | 3, _ => rfl
theorem lit_ints (w : World) (l : List Int) (n : Nat) (hn : l.length = n) (nb : Nat) (hb : nb = w.heap.size) : ReadsI (w.alloc (intBox l)) (.slice (some ⟨nb, 0, none⟩) n n) l := by
  subst hn hb
  exact lit_reads w l
theorem fails_at (s : ByteArray) (at_ want : Int) (h : s.size ≤ 1000000 ∧ (parseP s.data.toList).2 = (at_, want) ∧ (parseP s.data.toList).1.src.length = 0) (w : World) (hf : ParFix w) :
    Calls Tryz.prog 11 #[.string s, .int .i64 at_, .int .i64 want] w fun e w' => e = .returned (.bool true) ∧ Below w.heap.size w w' := fails_is s at_ want h.1 h.2 w hf
set_option maxRecDepth 100000 in
set_option maxHeartbeats 8000000 in
theorem names_walk (w : World) (hf : ParFix w) : Calls Tryz.prog 3 #[] w fun e w' => e = .returned (.bool true) ∧ Below w.heap.size w w' := by
  have F0 := Lib.hid hf
  have B0 : Hid (Below w.heap.size w (w.alloc namesBox)) := Lib.hid (refl_alloc9 _ _)
  have T0 := Lib.hid (texts_start w)
  clear hf
  go_enter Tryz.func3, Tryz.ntmps3
  go_wp2_with fail
  go_loopg [2] 4 (fun g i wx => ∃ k : Nat, k + g = 4 ∧ i = .int .i64 k ∧ Hid (Below w.heap.size w wx) ∧ Hid (TextsAt wx w.heap.size))
  case atStart => exact ⟨0, by omega, rfl, B0, T0⟩
  case round =>
    obtain ⟨k, hk, rfl, BX, TX⟩ := hrel
    cases gk with
    | succ g =>
      have hlt : k < 4 := by omega
      have hl4 : (k : Int) < 4 := by omega
      have c0 := TX.out.2 k hlt
      have d0 : ∀ w2, Hid (Below wr.heap.size wr w2) → ∀ o, (w2.alloc o).cell? ⟨w.heap.size, k, none⟩ = some (.string ⟨(namesTx.getD k []).toArray⟩) := fun w2 hb o => ((TX.out.below hb.out).below (refl_alloc9 w2 o)).2 k hlt
      have D0 := Lib.hid d0
      have hA := names_all ⟨k, hlt⟩
      have hSz := names_short ⟨k, hlt⟩
      simp only at hA hSz
      obtain ⟨t, ht⟩ : ∃ t, namesTx.getD k [] = t := ⟨_, rfl⟩
      rw [ht] at c0 hA hSz D0
      have hsm := parse_small t
      obtain ⟨q, hq⟩ : ∃ q, (parseP t).1 = q := ⟨_, rfl⟩
      rw [hq] at hA hsm
      obtain ⟨x, hx⟩ : ∃ x : ByteArray, (⟨t.toArray⟩ : ByteArray) = x := ⟨_, rfl⟩
      rw [hx] at c0 D0
      have hxs : x.size = t.length := by rw [← hx]; simp [ByteArray.size]
      have A := Lib.hid (parse_out x (by unfold maxLen; omega) q (x.size : Int) 0 (by
        rw [hxs, ← hx]
        show parseP t = _
        rw [← hq, ← hA.1]) wr (F0.out.below BX.out))
      obtain ⟨n1, n2, n3⟩ := hsm
      have HC := Lib.hid hA.2
      clear d0 hA hSz ht hq hx hxs
      go_wp2_with fail
      refine A.out.mono ?_
      rintro e w1 ⟨x1, y1, x2, y2, x3, y3, rfl, hr, hb⟩
      have S1 := Lib.hid ((SL.nil_of (below_step BX.out hb)).box w1.heap.size rfl ⟨.slice x1 q.arg.length y1, .slice x2 q.src.length y2, .slice x3 q.cond.length y3⟩ q)
      have R1 := Lib.hid (hr.below (refl_alloc9 w1 (qyBox ⟨.slice x1 q.arg.length y1, .slice x2 q.src.length y2, .slice x3 q.cond.length y3⟩ q)))
      have T1 := Lib.hid ((TX.out.below hb).below (refl_alloc9 w1 (qyBox ⟨.slice x1 q.arg.length y1, .slice x2 q.src.length y2, .slice x3 q.cond.length y3⟩ q)))
      have e0 := D0.out w1 (Lib.hid hb)
      have E1 := Lib.hid (refCheckQ_any _ q _ R1.out (by omega) (by omega) (by omega))
      rw [HC.out] at E1
      clear hr hb
      go_wp2_with fail
      refine E1.out.mono ?_
      rintro e w2 ⟨rfl, hb⟩
      have B2 := Lib.hid (S1.out.below hb).base
      have T2 := Lib.hid (T1.out.below hb)
      clear hb
      go_wp2_with fail
      go_roundg g
      case measure => omega
      case rel => exact ⟨k + 1, by omega, by go_num, B2, T2⟩
    | zero =>
      obtain rfl : k = 4 := by omega
      have c2 := TX.out.2 2 (by decide)
      have hA := names_all ⟨2, by decide⟩
      have hB := names_two
      have hsm := parse_small (namesTx.getD 2 [])
      simp only at hA
      obtain ⟨arg, cond, win, hq⟩ : ∃ arg cond win, (parseP (namesTx.getD 2 [])).1 = ⟨3, arg, [0, 3], true, cond, win, true, 1⟩ := by
        obtain ⟨h1, h2, h3, h4, h5⟩ := hB
        cases hp : (parseP (namesTx.getD 2 [])).1 with
        | mk a b c d e f g h =>
          rw [hp] at h1 h2 h3 h4 h5
          simp only at h1 h2 h3 h4 h5
          subst h1 h2 h3 h4 h5
          exact ⟨b, e, f, rfl⟩
      rw [hq] at hsm
      simp only at hsm
      have A := Lib.hid (parse_out ⟨(namesTx.getD 2 []).toArray⟩ (by decide) ⟨3, arg, [0, 3], true, cond, win, true, 1⟩ ((namesTx.getD 2 []).length : Int) 0 (by
        show parseP (namesTx.getD 2 []) = _
        rw [← hq, ← hA.1]) wr (F0.out.below BX.out))
      obtain ⟨n1, n2, _⟩ := hsm
      clear hk hA hB hq
      go_wp2_with fail
      refine A.out.mono ?_
      rintro e w1 ⟨x1, y1, x2, y2, x3, y3, rfl, hr, hb⟩
      have B1 := Lib.hid (below_step BX.out hb)
      have R1 := Lib.hid hr
      have E1 : ∀ o : Obj, Hid (Calls Tryz.prog 10 #[.slice x2 2 y2, .slice (some ⟨w1.heap.size + 1, 0, none⟩) 2 2] ((w1.alloc o).alloc (intBox [0, 3])) fun e w' => e = .returned (.bool true) ∧ Below ((w1.alloc o).alloc (intBox [0, 3])).heap.size ((w1.alloc o).alloc (intBox [0, 3])) w') := fun o => Lib.hid (by
        have r2 : ReadsI ((w1.alloc o).alloc (intBox [0, 3])) (.slice x2 2 y2) [0, 3] := (R1.out.src.below (refl_alloc9 w1 o)).below (refl_alloc9 _ _)
        have r3 := lit_ints (w1.alloc o) [0, 3] 2 rfl (w1.heap.size + 1) (by simp)
        refine (refSameSources_any _ _ [0, 3] [0, 3] _ r2 r3 (by decide)).mono ?_
        rintro e w' ⟨rfl, hd⟩
        exact ⟨rfl, hd.below _⟩)
      have S1 := Lib.hid ((SL.nil_of B1.out).box w1.heap.size rfl ⟨.slice x1 arg.length y1, .slice x2 2 y2, .slice x3 cond.length y3⟩ ⟨3, arg, [0, 3], true, cond, win, true, 1⟩)
      clear hr hb c2
      go_wp2_with fail
      refine (E1 _).out.mono ?_
      rintro e w2 ⟨rfl, hb⟩
      have S2 := (S1.out.below (refl_alloc9 _ (intBox [0, 3]))).below hb
      have c9 : w2.cell? ⟨w1.heap.size, 9, none⟩ = some (.int .u8 1) := S2.at0.cells.2.2.2.2.2.2.2.2.2
      have B := Lib.hid S2.base
      clear hb S2
      go_wp2_with fail
      refine (fails_at _ _ _ (by decide +kernel) _ (F0.out.below B.out)).mono ?_
      rintro e w3 ⟨rfl, hb⟩
      have B := Lib.hid (below_step B.out hb)
      clear hb
      go_wp2_with fail
      refine (fails_at _ _ _ (by decide +kernel) _ (F0.out.below B.out)).mono ?_
      rintro e w3 ⟨rfl, hb⟩
      have B := Lib.hid (below_step B.out hb)
      clear hb
      go_wp2_with fail
      refine (fails_at _ _ _ (by decide +kernel) _ (F0.out.below B.out)).mono ?_
      rintro e w3 ⟨rfl, hb⟩
      have B := Lib.hid (below_step B.out hb)
      clear hb
      go_wp2_with fail
      refine (fails_at _ _ _ (by decide +kernel) _ (F0.out.below B.out)).mono ?_
      rintro e w3 ⟨rfl, hb⟩
      have B := Lib.hid (below_step B.out hb)
      clear hb
      go_wp2_with fail
      refine (fails_at _ _ _ (by decide +kernel) _ (F0.out.below B.out)).mono ?_
      rintro e w3 ⟨rfl, hb⟩
      have B := Lib.hid (below_step B.out hb)
      clear hb
      go_wp2_with fail
      refine (fails_at _ _ _ (by decide +kernel) _ (F0.out.below B.out)).mono ?_
      rintro e w3 ⟨rfl, hb⟩
      have B := Lib.hid (below_step B.out hb)
      clear hb
      go_wp2_with fail
      refine (fails_at _ _ _ (by decide +kernel) _ (F0.out.below B.out)).mono ?_
      rintro e w3 ⟨rfl, hb⟩
      have B := Lib.hid (below_step B.out hb)
      clear hb
      go_wp2_with fail
      refine (fails_at _ _ _ (by decide +kernel) _ (F0.out.below B.out)).mono ?_
      rintro e w3 ⟨rfl, hb⟩
      have B := Lib.hid (below_step B.out hb)
      clear hb
      go_wp2_with fail
      refine (fails_at _ _ _ (by decide +kernel) _ (F0.out.below B.out)).mono ?_
      rintro e w3 ⟨rfl, hb⟩
      have B := Lib.hid (below_step B.out hb)
      clear hb
      go_wp2_with fail
      refine (fails_at _ _ _ (by decide +kernel) _ (F0.out.below B.out)).mono ?_
      rintro e w3 ⟨rfl, hb⟩
      have B := Lib.hid (below_step B.out hb)
      clear hb
      go_wp2_with fail
      refine (fails_at _ _ _ (by decide +kernel) _ (F0.out.below B.out)).mono ?_
      rintro e w3 ⟨rfl, hb⟩
      have B := Lib.hid (below_step B.out hb)
      clear hb
      go_wp2_with fail
      refine (fails_at _ _ _ (by decide +kernel) _ (F0.out.below B.out)).mono ?_
      rintro e w3 ⟨rfl, hb⟩
      have B := Lib.hid (below_step B.out hb)
      clear hb
      go_wp2_with fail
      refine (fails_at _ _ _ (by decide +kernel) _ (F0.out.below B.out)).mono ?_
      rintro e w3 ⟨rfl, hb⟩
      have B := Lib.hid (below_step B.out hb)
      clear hb
      go_wp2_with fail
      refine (fails_at _ _ _ (by decide +kernel) _ (F0.out.below B.out)).mono ?_
      rintro e w3 ⟨rfl, hb⟩
      have B := Lib.hid (below_step B.out hb)
      clear hb
      go_wp2_with fail
      refine (fails_at _ _ _ (by decide +kernel) _ (F0.out.below B.out)).mono ?_
      rintro e w3 ⟨rfl, hb⟩
      have B := Lib.hid (below_step B.out hb)
      clear hb
      go_wp2_with fail
      refine (fails_at _ _ _ (by decide +kernel) _ (F0.out.below B.out)).mono ?_
      rintro e w3 ⟨rfl, hb⟩
      have B := Lib.hid (below_step B.out hb)
      clear hb
      go_wp2_with fail
      refine (fails_at _ _ _ (by decide +kernel) _ (F0.out.below B.out)).mono ?_
      rintro e w3 ⟨rfl, hb⟩
      have B := Lib.hid (below_step B.out hb)
      clear hb
      go_wp2_with fail
      refine (fails_at _ _ _ (by decide +kernel) _ (F0.out.below B.out)).mono ?_
      rintro e w3 ⟨rfl, hb⟩
      have B := Lib.hid (below_step B.out hb)
      clear hb
      go_wp2_with fail
      refine (fails_at _ _ _ (by decide +kernel) _ (F0.out.below B.out)).mono ?_
      rintro e w3 ⟨rfl, hb⟩
      have B := Lib.hid (below_step B.out hb)
      clear hb
      go_wp2_with fail
      refine (fails_at _ _ _ (by decide +kernel) _ (F0.out.below B.out)).mono ?_
      rintro e w3 ⟨rfl, hb⟩
      have B := Lib.hid (below_step B.out hb)
      clear hb
      go_wp2_with fail
      refine (fails_at _ _ _ (by decide +kernel) _ (F0.out.below B.out)).mono ?_
      rintro e w3 ⟨rfl, hb⟩
      have B := Lib.hid (below_step B.out hb)
      clear hb
      go_wp2_with fail
      refine (fails_at _ _ _ (by decide +kernel) _ (F0.out.below B.out)).mono ?_
      rintro e w3 ⟨rfl, hb⟩
      have B := Lib.hid (below_step B.out hb)
      clear hb
      go_wp2_with fail
      refine (fails_at _ _ _ (by decide +kernel) _ (F0.out.below B.out)).mono ?_
      rintro e w3 ⟨rfl, hb⟩
      have B := Lib.hid (below_step B.out hb)
      clear hb
      go_wp2_with fail
      refine (fails_at _ _ _ (by decide +kernel) _ (F0.out.below B.out)).mono ?_
      rintro e w3 ⟨rfl, hb⟩
      have B := Lib.hid (below_step B.out hb)
      clear hb
      go_wp2_with fail
      refine (fails_at _ _ _ (by decide +kernel) _ (F0.out.below B.out)).mono ?_
      rintro e w3 ⟨rfl, hb⟩
      have B := Lib.hid (below_step B.out hb)
      clear hb
      go_wp2_with fail
      refine (fails_at _ _ _ (by decide +kernel) _ (F0.out.below B.out)).mono ?_
      rintro e w3 ⟨rfl, hb⟩
      have B := Lib.hid (below_step B.out hb)
      clear hb
      go_wp2_with fail
      refine (fails_at _ _ _ (by decide +kernel) _ (F0.out.below B.out)).mono ?_
      rintro e w3 ⟨rfl, hb⟩
      have B := Lib.hid (below_step B.out hb)
      clear hb
      go_wp2_with fail
      refine (fails_at _ _ _ (by decide +kernel) _ (F0.out.below B.out)).mono ?_
      rintro e w3 ⟨rfl, hb⟩
      have B := Lib.hid (below_step B.out hb)
      clear hb
      go_wp2_with fail
      refine (fails_at _ _ _ (by decide +kernel) _ (F0.out.below B.out)).mono ?_
      rintro e w3 ⟨rfl, hb⟩
      have B := Lib.hid (below_step B.out hb)
      clear hb
      go_wp2_with fail
      refine (fails_at _ _ _ (by decide +kernel) _ (F0.out.below B.out)).mono ?_
      rintro e w3 ⟨rfl, hb⟩
      have B := Lib.hid (below_step B.out hb)
      clear hb
      go_wp2_with fail
      refine (alive_any _ (F0.out.below B.out)).mono ?_
      rintro e w3 ⟨rfl, hb⟩
      have B := Lib.hid (below_step B.out hb)
      clear hb
      go_wp2_with fail
      go_ret
      exact ⟨rfl, B.out⟩
end Go.Proofs.YtdinaedknlkicaaGreatDoor.ParserW

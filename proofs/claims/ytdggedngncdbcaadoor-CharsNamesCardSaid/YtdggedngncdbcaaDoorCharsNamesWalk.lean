/-
  The walk of layer 2's statement CharsNames: the chapter's examples, all symbols and words, some texts that are none, and errors.
-/
import Derived.Test.YtdggedngncdbcaaDoorCharsLaw
import Derived.Deep.QuietTactic
import Derived.BigQuiet
namespace Go.Proofs.YtdggedngncdbcaaDoor
open Go.ChangeShapes Go.WideShapes Go.ChangeAt Go.RowKit

def noneTab : List (List UInt8) := [[], [33], [33, 32, 61], [97, 60], [49], [32, 60], [0], [38], [124], [47], [37], [44], [46]]
def noneAt (k : Nat) : ByteArray := ⟨(noneTab.getD k []).toArray⟩
def cross : ByteArray := { data := #[120] }
def blank : ByteArray := { data := #[32] }
theorem names_syms : ∀ k : Fin 13, (refAt k).size ≤ 2 ∧ lenV (refAt k).data.toList 0 = (refAt k).size ∧ lenV ((cross ++ refAt k) ++ cross).data.toList 1 = (refAt k).size := by decide +kernel
theorem names_words : ∀ k : Fin 29, (wordAt k).size ≤ 7 ∧ wordB (wordAt k).data.toList = true ∧ wordB (wordAt k ++ blank).data.toList = false ∧ wordB (blank ++ wordAt k).data.toList = false ∧ wordB (wordAt k ++ wordAt k).data.toList = false := by decide +kernel
theorem names_nones : ∀ k : Fin 13, (noneAt k).size ≤ 3 ∧ lenV (noneAt k).data.toList 0 = 0 := by decide +kernel
theorem Calls.draws_of {f : FuncId} {args : Array Value} {w : World} {n : Nat} {v : Value} (h : Calls Tryd.prog f args (w.drewN n) fun e w' => e = .returned v ∧ Draws (w.drewN n) w') :
    Calls Tryd.prog f args (w.drewN n) fun e w'' => e = .returned v ∧ ∃ m, w'' = w.drewN m := Calls.quiet_of h
theorem Calls.still_of {f : FuncId} {args : Array Value} {w : World} {n : Nat} {v : Value} (h : Calls Tryd.prog f args (w.drewN n) fun e w' => e = .returned v ∧ w.drewN n = w') :
    Calls Tryd.prog f args (w.drewN n) fun e w'' => e = .returned v ∧ ∃ m, w'' = w.drewN m := h.mono fun _ _ ⟨he, hm⟩ => ⟨he, n, hm.symm⟩
theorem Fix.drewN {w : World} (h : Fix w) (n : Nat) : Fix (w.drewN n) := h.below ((Draws.refl w).drewN n |>.below _)

theorem symbol_is (s : ByteArray) (at_ n er : Int) (h : s.size ≤ maxLen ∧ symN s.data.toList at_ = n ∧ symE s.size at_ = er) (w : World) (hf : Fix w) :
    Calls Tryd.prog 13 #[.string s, .int .i64 at_] w (SymEnds n er w) := by
  obtain ⟨h0, rfl, rfl⟩ := h
  exact symbol_any s at_ h0 w hf
/-- The cells of a list that was laid stay as they are behind draws. -/
theorem list_cells {w w1 : World} {l : List (List UInt8)} {t : TypeId} (h : w.alloc (.cells (strVals l) t) = w1) (i : Nat) (wx : World) (hi : i < l.length) (hd : Draws w1 wx) : wx.cell? ⟨w.heap.size, i, none⟩ = some (.string ⟨(l.getD i []).toArray⟩) := by
  subst h
  exact ((hd.below _).cell (p := ⟨w.heap.size, i, none⟩) (vals_size w (strVals l) t)).trans (vals_cell w l t i hi)

set_option maxRecDepth 100000 in
set_option maxHeartbeats 2000000 in
theorem names_walk (w : World) (hf : Fix w) :
    Calls Tryd.prog 3 #[] w fun e w' => e = .returned (.bool true) ∧ Below w.heap.size w w' := by
  have F := Lib.hid hf
  clear hf
  go_enter Tryd.func3, Tryd.ntmps3
  go_wp2_with fail
  refine (symbols_any _).mono ?_
  rintro e w1 ⟨rfl, hw1⟩
  have HC : Hid (∀ i (wx : World), i < 13 → Draws w1 wx → wx.cell? ⟨w.heap.size, i, none⟩ = some (.string (refAt i))) := Lib.hid fun i wx hi hd => list_cells hw1 i wx hi hd
  have HB : Hid (Below w.heap.size w w1) := Lib.hid (by rw [← hw1]; exact vals_below w _ _)
  have F1 := Lib.hid (F.out.below HB.out)
  clear hw1
  go_wp2_with fail
  go_loopg [2] 13 (fun g i wx => ∃ k : Nat, k + g = 13 ∧ i = .int .i64 k ∧ Hid (Draws w1 wx))
  case atStart => exact ⟨0, by omega, rfl, Lib.hid (Draws.refl _)⟩
  case round =>
    obtain ⟨k, hk, rfl, DX⟩ := hrel
    cases gk with
    | succ g =>
      have hlt : k < 13 := by omega
      have hc := HC.out k wr hlt DX.out
      have FX := F1.out.draws DX.out
      have N := names_syms ⟨k, hlt⟩
      obtain ⟨x, hxe⟩ : ∃ x, refAt k = x := ⟨_, rfl⟩
      simp only [hxe] at N
      rw [hxe] at hc
      have hs := N.1
      have L1 : Hid (∀ n, Calls Tryd.prog 10 #[.string x, .int .i64 0] (wr.drewN n) fun e w'' => e = .returned (.int .i64 x.size) ∧ ∃ m, w'' = wr.drewN m) := Lib.hid fun n => Calls.draws_of (length_is x 0 x.size ⟨by unfold maxLen; omega, N.2.1⟩ _ (FX.drewN n))
      have L2 : Hid (∀ n, Calls Tryd.prog 10 #[.string ({ data := #[120] } ++ x ++ { data := #[120] }), .int .i64 1] (wr.drewN n) fun e w'' => e = .returned (.int .i64 x.size) ∧ ∃ m, w'' = wr.drewN m) :=
        Lib.hid fun n => Calls.draws_of (length_is _ 1 x.size ⟨by rw [ByteArray.size_append, ByteArray.size_append]; show 1 + x.size + 1 ≤ maxLen; unfold maxLen; omega, N.2.2⟩ _ (FX.drewN n))
      clear N hxe FX
      go_wp2_with fail
      go_quiet (first | (go_at_call 10; with_reducible exact L2.out _) | (go_at_call 10; with_reducible exact L1.out _))
      go_wp2_with fail
      go_roundg g
      case measure => omega
      case rel => exact ⟨k + 1, by omega, by go_num, Lib.hid (DX.out.drewN _)⟩
    | zero =>
      obtain rfl : k = 13 := by omega
      clear hk
      have BX := Lib.hid (below_step HB.out (DX.out.below _))
      have FX := Lib.hid (F1.out.draws DX.out)
      clear HC HB F1 DX
      go_wp2_with fail
      refine (words_any _).mono ?_
      rintro e w2 ⟨rfl, hw2⟩
      have HC : Hid (∀ i (wx : World), i < 29 → Draws w2 wx → wx.cell? ⟨wr.heap.size, i, none⟩ = some (.string (wordAt i))) := Lib.hid fun i wx hi hd => list_cells hw2 i wx hi hd
      have HB : Hid (Below wr.heap.size wr w2) := Lib.hid (by rw [← hw2]; exact vals_below wr _ _)
      have F2 := Lib.hid (FX.out.below HB.out)
      have B2 := Lib.hid (below_step BX.out HB.out)
      clear hw2
      go_wp2_with fail
      go_loopg [4] 29 (fun g i wx => ∃ k : Nat, k + g = 29 ∧ i = .int .i64 k ∧ Hid (Draws w2 wx))
      case atStart => exact ⟨0, by omega, rfl, Lib.hid (Draws.refl _)⟩
      case round =>
        obtain ⟨k, hk, rfl, DY⟩ := hrel
        cases gk with
        | succ g =>
          have hlt : k < 29 := by omega
          have hc := HC.out k wr hlt DY.out
          have FY := F2.out.draws DY.out
          have N := names_words ⟨k, hlt⟩
          obtain ⟨x, hxe⟩ : ∃ x, wordAt k = x := ⟨_, rfl⟩
          simp only [hxe] at N
          rw [hxe] at hc
          have hs := N.1
          have W1 : Hid (∀ n, Calls Tryd.prog 12 #[.string x] (wr.drewN n) fun e w'' => e = .returned (.bool true) ∧ ∃ m, w'' = wr.drewN m) := Lib.hid fun n => Calls.still_of (word_at x true N.2.1 _ (FY.drewN n))
          have W2 : Hid (∀ n, Calls Tryd.prog 12 #[.string (x ++ { data := #[32] })] (wr.drewN n) fun e w'' => e = .returned (.bool false) ∧ ∃ m, w'' = wr.drewN m) := Lib.hid fun n => Calls.still_of (word_at _ false N.2.2.1 _ (FY.drewN n))
          have W3 : Hid (∀ n, Calls Tryd.prog 12 #[.string ({ data := #[32] } ++ x)] (wr.drewN n) fun e w'' => e = .returned (.bool false) ∧ ∃ m, w'' = wr.drewN m) := Lib.hid fun n => Calls.still_of (word_at _ false N.2.2.2.1 _ (FY.drewN n))
          have W4 : Hid (∀ n, Calls Tryd.prog 12 #[.string (x ++ x)] (wr.drewN n) fun e w'' => e = .returned (.bool false) ∧ ∃ m, w'' = wr.drewN m) := Lib.hid fun n => Calls.still_of (word_at _ false N.2.2.2.2 _ (FY.drewN n))
          clear N hxe FY
          go_wp2_with fail
          go_quiet (first | (go_at_call 12; with_reducible exact W1.out _) | (go_at_call 12; with_reducible exact W2.out _) | (go_at_call 12; with_reducible exact W3.out _) | (go_at_call 12; with_reducible exact W4.out _))
          go_wp2_with fail
          go_roundg g
          case measure => omega
          case rel => exact ⟨k + 1, by omega, by go_num, Lib.hid (DY.out.drewN _)⟩
        | zero =>
          obtain rfl : k = 29 := by omega
          clear hk
          have BY := Lib.hid (below_step B2.out (DY.out.below _))
          have FY := Lib.hid (F2.out.draws DY.out)
          clear HC HB F2 B2 DY BX FX
          obtain ⟨w3, hw3⟩ : ∃ w3, wr.alloc (.cells (strVals noneTab) 9) = w3 := ⟨_, rfl⟩
          have HC : Hid (∀ i (wx : World), i < 13 → Draws w3 wx → wx.cell? ⟨wr.heap.size, i, none⟩ = some (.string (noneAt i))) := Lib.hid fun i wx hi hd => list_cells hw3 i wx hi hd
          have HB : Hid (Below wr.heap.size wr w3) := Lib.hid (by rw [← hw3]; exact vals_below wr _ _)
          have F3 := Lib.hid (FY.out.below HB.out)
          have B3 := Lib.hid (below_step BY.out HB.out)
          have HW := Lib.hid hw3
          clear BY FY HB hw3
          go_wp2_with fail
          go_loopg [6] 13 (fun g i wx => ∃ k : Nat, k + g = 13 ∧ i = .int .i64 k ∧ Hid (Draws w3 wx))
          case atStart => exact ⟨0, by omega, rfl, Lib.hid (by rw [← HW.out]; exact Draws.refl _)⟩
          case round =>
            obtain ⟨k, hk, rfl, DZ⟩ := hrel
            cases gk with
            | succ g =>
              have hlt : k < 13 := by omega
              have hc := HC.out k wr hlt DZ.out
              have FZ := F3.out.draws DZ.out
              have N := names_nones ⟨k, hlt⟩
              obtain ⟨x, hxe⟩ : ∃ x, noneAt k = x := ⟨_, rfl⟩
              simp only [hxe] at N
              rw [hxe] at hc
              have L1 := Lib.hid (length_is x 0 0 ⟨by unfold maxLen; omega, N.2⟩ _ FZ)
              clear N hxe FZ
              go_wp2_with fail
              refine L1.out.mono ?_
              rintro e w4 ⟨rfl, hd⟩
              have DU := Lib.hid (DZ.out.trans hd)
              clear hd
              go_wp2_with fail
              go_roundg g
              case measure => omega
              case rel => exact ⟨k + 1, by omega, by go_num, DU⟩
            | zero =>
              obtain rfl : k = 13 := by omega
              clear hk
              have BU := Lib.hid (below_step B3.out (DZ.out.below _))
              have FU := Lib.hid (F3.out.draws DZ.out)
              clear HC HW F3 B3 DZ
              go_wp2_with fail
              refine (symbol_is _ 2 0 2 (by decide) _ FU.out).mono ?_
              rintro e w4 ⟨rfl, hd⟩
              have B4 := Lib.hid (below_step BU.out (hd.below _))
              have F4 := Lib.hid (FU.out.draws hd)
              clear hd
              go_wp2_with fail
              refine (symbol_is _ (-1) 0 2 (by decide) _ F4.out).mono ?_
              rintro e w5 ⟨rfl, hd⟩
              have B5 := Lib.hid (below_step B4.out (hd.below _))
              have F5 := Lib.hid (F4.out.draws hd)
              clear hd
              go_wp2_with fail
              refine (length_is _ 1 0 (by decide) _ F5.out).mono ?_
              rintro e w6 ⟨rfl, hd⟩
              have B6 := Lib.hid (below_step B5.out (hd.below _))
              have F6 := Lib.hid (F5.out.draws hd)
              clear hd
              iterate 4
                go_wp2_with fail
                refine (word_at _ false (by decide) _ F6.out).mono ?_
                rintro e w7 ⟨rfl, rfl⟩
              go_wp2_with fail
              refine (alive_any _ F6.out).mono ?_
              rintro e w8 ⟨rfl, hb⟩
              have B8 := Lib.hid (below_step B6.out hb)
              clear hb
              go_wp2_with fail
              go_ret
              exact ⟨rfl, B8.out⟩
end Go.Proofs.YtdggedngncdbcaaDoor

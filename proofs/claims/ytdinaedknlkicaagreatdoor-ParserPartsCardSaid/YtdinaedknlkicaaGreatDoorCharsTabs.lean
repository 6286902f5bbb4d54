/-
  Contracts of package chars: Symbol and Word, in every world in which the package's two tables hold what their initialisers lay.
-/
import Derived.Test.YtdinaedknlkicaaGreatDoorCharsKind
import Derived.Test.YtdinaedknlkicaaGreatDoorDraws
import Derived.FnData
import Derived.Deep.MidRow
import Derived.Deep.LoopGhost
import Derived.Deep.Draws
namespace Go.Proofs.YtdinaedknlkicaaGreatDoor
open Go.ChangeShapes Go.WideShapes Go.ChangeAt Go.RowKit

def strVals (l : List (List UInt8)) : Array Value := (l.map fun x => Value.string ⟨x.toArray⟩).toArray
def symVals : Array Value := strVals symTab
def wordVals : Array Value := strVals wordTab
def symAt (k : Nat) : ByteArray := ⟨(symTab.getD k []).toArray⟩
def wordAt (k : Nat) : ByteArray := ⟨(wordTab.getD k []).toArray⟩

theorem gSym : Tryz.prog.globalNamed "tailwater/chars.symbols" = some 1 := by kernel_rfl
theorem gWord : Tryz.prog.globalNamed "tailwater/chars.words" = some 2 := by kernel_rfl
/-- What the calls read: the two tables. -/
def Fix (w : World) : Prop := w.var? Tryz.prog "tailwater/chars.symbols" = some symVals ∧ w.var? Tryz.prog "tailwater/chars.words" = some wordVals
theorem var_lt {w : World} {n : String} {g : Nat} {cs : Array Value} (hg : Tryz.prog.globalNamed n = some g) (h : w.var? Tryz.prog n = some cs) : g < w.heap.size := by
  rcases Nat.lt_or_ge g w.heap.size with h' | h'
  · exact h'
  · unfold World.var? at h
    simp [hg, Array.getElem?_eq_none h'] at h
theorem Fix.below {w w' : World} (h : Fix w) (hb : Below w.heap.size w w') : Fix w' :=
  ⟨var?_below hb gSym (var_lt gSym h.1) h.1, var?_below hb gWord (var_lt gWord h.2) h.2⟩
theorem fix_syms {w : World} (h : Fix w) : w.rangeAt 1 0 symVals.toList := fun j v hv => by
  have := World.var?_cell gSym h.1 j
  rw [Nat.zero_add, this]; simpa using hv
theorem fix_words {w : World} (h : Fix w) : w.rangeAt 2 0 wordVals.toList := fun j v hv => by
  have := World.var?_cell gWord h.2 j
  rw [Nat.zero_add, this]; simpa using hv
theorem iSym : (Tryz.prog.info? 122).map (·.size) = some symVals.toList.length := by kernel_rfl
theorem iWord : (Tryz.prog.info? 125).map (·.size) = some wordVals.toList.length := by kernel_rfl

theorem sym_index : ∀ k : Nat, k < 13 → ∀ w : World, (Instr.index 122 (.agg symVals) (.int .i64 (k : Int))).run Tryz.prog w = .ok (.string (symAt k)) w
  | 0, _ => fun _ => by kernel_rfl
  | 1, _ => fun _ => by kernel_rfl
  | 2, _ => fun _ => by kernel_rfl
  | 3, _ => fun _ => by kernel_rfl
  | 4, _ => fun _ => by kernel_rfl
  | 5, _ => fun _ => by kernel_rfl
  | 6, _ => fun _ => by kernel_rfl
  | 7, _ => fun _ => by kernel_rfl
  | 8, _ => fun _ => by kernel_rfl
  | 9, _ => fun _ => by kernel_rfl
  | 10, _ => fun _ => by kernel_rfl
  | 11, _ => fun _ => by kernel_rfl
  | 12, _ => fun _ => by kernel_rfl
  | _ + 13, h => absurd h (by omega)
theorem word_index : ∀ k : Nat, k < 29 → ∀ w : World, (Instr.index 125 (.agg wordVals) (.int .i64 (k : Int))).run Tryz.prog w = .ok (.string (wordAt k)) w
  | 0, _ => fun _ => by kernel_rfl
  | 1, _ => fun _ => by kernel_rfl
  | 2, _ => fun _ => by kernel_rfl
  | 3, _ => fun _ => by kernel_rfl
  | 4, _ => fun _ => by kernel_rfl
  | 5, _ => fun _ => by kernel_rfl
  | 6, _ => fun _ => by kernel_rfl
  | 7, _ => fun _ => by kernel_rfl
  | 8, _ => fun _ => by kernel_rfl
  | 9, _ => fun _ => by kernel_rfl
  | 10, _ => fun _ => by kernel_rfl
  | 11, _ => fun _ => by kernel_rfl
  | 12, _ => fun _ => by kernel_rfl
  | 13, _ => fun _ => by kernel_rfl
  | 14, _ => fun _ => by kernel_rfl
  | 15, _ => fun _ => by kernel_rfl
  | 16, _ => fun _ => by kernel_rfl
  | 17, _ => fun _ => by kernel_rfl
  | 18, _ => fun _ => by kernel_rfl
  | 19, _ => fun _ => by kernel_rfl
  | 20, _ => fun _ => by kernel_rfl
  | 21, _ => fun _ => by kernel_rfl
  | 22, _ => fun _ => by kernel_rfl
  | 23, _ => fun _ => by kernel_rfl
  | 24, _ => fun _ => by kernel_rfl
  | 25, _ => fun _ => by kernel_rfl
  | 26, _ => fun _ => by kernel_rfl
  | 27, _ => fun _ => by kernel_rfl
  | 28, _ => fun _ => by kernel_rfl
  | _ + 29, h => absurd h (by omega)

/-! ### Word -/
theorem word_in {l : List UInt8} {k : Nat} (hk : k < 29) (h : l = (wordAt k).data.toList) : wordB l = true := by
  have hm : (wordAt k).data.toList ∈ wordTab := by
    have : wordTab.getD k [] ∈ wordTab := by
      have hl : k < wordTab.length := hk
      rw [List.getD_eq_getElem?_getD, List.getElem?_eq_getElem hl]
      exact List.getElem_mem _
    simpa [wordAt] using this
  rw [h]; unfold wordB; simpa using hm
theorem word_out {l : List UInt8} (h : ∀ k, k < 29 → l ≠ (wordAt k).data.toList) : wordB l = false := by
  unfold wordB
  rw [List.contains_eq_mem, decide_eq_false_iff_not]
  intro hm
  obtain ⟨k, hk, e⟩ := List.getElem_of_mem hm
  refine h k hk ?_
  show l = (wordTab.getD k [])
  rw [List.getD_eq_getElem?_getD, List.getElem?_eq_getElem hk, ← e]; rfl

set_option maxRecDepth 100000 in
theorem word_any (s : ByteArray) (w : World) (hf : Fix w) :
    Calls Tryz.prog 63 #[.string s] w fun e w' => e = .returned (.bool (wordB s.data.toList)) ∧ w = w' := by
  have hr := fix_words hf
  have hix := word_index
  clear hf
  go_enter Tryz.func63, Tryz.ntmps63
  go_wp2_with (refine wpList_load_mid rfl 125 _ rfl 2 0 rfl wordVals.toList _ hr Tryz.underlying125 rfl iWord ?_)
  clear hr
  go_loop [6] (fun i => ∃ k : Nat, k ≤ 29 ∧ i = .int .i64 k ∧ Hid (∀ j, j < k → s.data.toList ≠ (wordAt j).data.toList)) (fun i => 29 - (intOf i).toNat)
  case atStart => exact ⟨0, Nat.zero_le _, rfl, Lib.hid fun j hj => absurd hj (Nat.not_lt_zero _)⟩
  case round =>
    obtain ⟨k, hk, rfl, hall⟩ := hrel
    by_cases hlt : k < 29
    · have hx := hix k hlt
      by_cases he : s.data.toList = (wordAt k).data.toList
      · have H := Lib.hid (word_in hlt he)
        have ht : (s.toList == (wordAt k).toList) = true := by rw [beq_iff_eq, ByteArray.toList_eq, ByteArray.toList_eq]; exact he
        clear he hall hix
        go_wp2
        go_ret
        exact ⟨by rw [H.out]; rfl, rfl⟩
      · have H : Hid (∀ j, j < k + 1 → s.data.toList ≠ (wordAt j).data.toList) := Lib.hid fun j hj => by
          rcases Nat.lt_succ_iff_lt_or_eq.1 hj with h | rfl
          · exact hall.out j h
          · exact he
        have ht : (s.toList == (wordAt k).toList) = false := by rw [beq_eq_false_iff_ne, ByteArray.toList_eq, ByteArray.toList_eq]; exact he
        clear he hall hix
        go_wp2
        go_round
        case rel => exact ⟨k + 1, by omega, by go_num, H⟩
        case measure => simp [intOf]; omega
    · obtain rfl : k = 29 := by omega
      have H := Lib.hid (word_out hall.out)
      clear hall hix
      go_wp2
      go_ret
      exact ⟨by rw [H.out]; rfl, rfl⟩

/-! ### Symbol -/
def SymEnds (n er : Int) (w : World) (e : Ending) (w' : World) : Prop := e = .returned (.tuple #[.int .i64 n, .int .i64 er]) ∧ Draws w w'

set_option maxRecDepth 100000 in
theorem symbol_low (s : ByteArray) (at_ : Int) (h : at_ < 0) (w : World) : Calls Tryz.prog 61 #[.string s, .int .i64 at_] w (SymEnds 0 2 w) := by
  go_enter Tryz.func61, Tryz.ntmps61
  go_wp2
  go_step3
  go_wp2
  rw [Exit.noGoto_ret]
  go_ret2
  exact ⟨rfl, Draws.refl _⟩
set_option maxRecDepth 100000 in
theorem symbol_high (s : ByteArray) (at_ : Int) (h0 : 0 ≤ at_) (h : (s.size : Int) < at_) (w : World) : Calls Tryz.prog 61 #[.string s, .int .i64 at_] w (SymEnds 0 2 w) := by
  go_enter Tryz.func61, Tryz.ntmps61
  go_wp2
  go_step3
  go_wp2
  rw [Exit.noGoto_ret]
  go_ret2
  exact ⟨rfl, Draws.refl _⟩
/-- One step: the symbol x begins the text r, or does not. -/
theorem best_step (l : List UInt8) (i : Nat) (x : ByteArray) (hx : symAt i = x) : best l (i + 1) = if x.data.toList.isPrefixOf l then max (best l i) x.size else best l i := by
  subst hx; rfl
theorem prefix_long {x r : ByteArray} (h : r.size < x.size) : x.data.toList.isPrefixOf r.data.toList = false := by
  rw [Bool.eq_false_iff]
  intro hp
  have := (List.isPrefixOf_iff_prefix.1 hp).length_le
  simp at this
  omega
theorem prefix_all {x r : ByteArray} (h : x.data.toList = r.data.toList.take x.size) : x.data.toList.isPrefixOf r.data.toList = true := by
  rw [List.isPrefixOf_iff_prefix, h]
  exact List.take_prefix _ _
theorem prefix_not {x r : ByteArray} {j : Nat} (hj : j < x.size) (hr : j < r.size) (h : r[j] ≠ x[j]) : x.data.toList.isPrefixOf r.data.toList = false := by
  rw [Bool.eq_false_iff]
  intro hp
  have hp' := List.isPrefixOf_iff_prefix.1 hp
  apply h
  have e := hp'.getElem (i := j) (by simpa using hj)
  exact e.symm
theorem take_more {x r : ByteArray} {j : Nat} (hj : j < x.size) (hr : j < r.size) (h : x.data.toList.take j = r.data.toList.take j) (e : r[j] = x[j]) : x.data.toList.take (j + 1) = r.data.toList.take (j + 1) := by
  rw [List.take_succ_eq_append_getElem (by simpa using hj), List.take_succ_eq_append_getElem (by simpa using hr), h]
  congr 2
  exact e.symm
theorem ne_bytes {a b : UInt8} (h : a ≠ b) : ((a.toNat : Int) != b.toNat) = true := by
  rw [bne_iff_ne]
  intro e
  exact h (UInt8.toNat_inj.1 (by omega))
theorem eq_bytes {a b : UInt8} (h : a = b) : ((a.toNat : Int) != b.toNat) = false := by
  subst h; simp
theorem max_if (a b : Nat) : ((max a b : Nat) : Int) = max (a : Int) b := by omega

set_option maxRecDepth 100000 in
set_option maxHeartbeats 1000000 in
theorem symbol_ok (s : ByteArray) (k : Nat) (h : k ≤ s.size) (hs : s.size ≤ maxLen) (w : World) (hf : Fix w) : Calls Tryz.prog 61 #[.string s, .int .i64 k] w (SymEnds (best (s.data.toList.drop k) 13) 0 w) := by
  have hr := fix_syms hf
  have hix := sym_index
  clear hf
  unfold maxLen at hs
  obtain ⟨r, her⟩ : ∃ r, s.extract k s.size = r := ⟨_, rfl⟩
  have hd : s.data.toList.drop k = r.data.toList := by
    rw [← her, ByteArray.data_extract, Array.toList_extract, List.extract_eq_take_drop, List.take_of_length_le]
    simp
  have hrl : r.size ≤ 2 ^ 63 - 1 := by rw [← her]; simp; omega
  rw [hd]
  clear hd
  go_enter Tryz.func61, Tryz.ntmps61
  go_wp2
  go_step3
  go_wp2
  go_step3
  go_wp2_with (refine wpList_load_mid rfl 122 _ rfl 1 0 rfl symVals.toList _ hr Tryz.underlying122 rfl iSym ?_)
  clear hr her
  go_loopg [7, 23] 13 (fun g s7 s23 wx => ∃ i : Nat, i + g = 13 ∧ s23 = .int .i64 i ∧ s7 = .int .i64 (best r.data.toList i) ∧ Draws w wx)
  case atStart => exact ⟨0, by omega, rfl, rfl, Draws.refl _⟩
  case round =>
    obtain ⟨i, hi, rfl, rfl, hbw⟩ := hrel
    cases gk with
    | zero =>
      obtain rfl : i = 13 := by omega
      clear hi
      go_wp2
      go_ret2
      exact ⟨rfl, hbw⟩
    | succ g =>
      have hlt : i < 13 := by omega
      have hx := hix i hlt
      clear hix
      obtain ⟨x, hxe⟩ : ∃ x, symAt i = x := ⟨_, rfl⟩
      have hb := Lib.hid (best_step r.data.toList i x hxe)
      rw [hxe] at hx
      clear hxe
      by_cases hl : (r.size : Int) < x.size
      · have H := Lib.hid (prefix_long (x := x) (r := r) (by omega))
        go_wp2
        go_roundg g
        case measure => omega
        case rel => exact ⟨i + 1, by omega, by go_num, by rw [hb.out, H.out]; rfl, hbw⟩
      · go_wp2
        go_loopg [33] x.size (fun g2 s33 wy => ∃ j : Nat, j + g2 = x.size ∧ s33 = .int .i64 j ∧ Hid (x.data.toList.take j = r.data.toList.take j) ∧ Draws w wy)
        case atStart => exact ⟨0, by omega, rfl, Lib.hid rfl, hbw⟩
        case round =>
          obtain ⟨j, hj, rfl, HT, hbx⟩ := hrel
          cases gk with
          | zero =>
            obtain rfl : j = x.size := by omega
            have H := Lib.hid (prefix_all (x := x) (r := r) (by rw [← HT.out, List.take_of_length_le (by simp)]))
            by_cases hm : (best r.data.toList i : Int) < x.size
            · have H2 : Hid ((best r.data.toList (i + 1)) = x.size) := Lib.hid (by rw [hb.out, H.out, if_pos rfl]; omega)
              go_wp2
              go_roundg g
              case measure => omega
              case rel => exact ⟨i + 1, by omega, by go_num, by rw [H2.out], hbx⟩
            · have H2 : Hid ((best r.data.toList (i + 1)) = best r.data.toList i) := Lib.hid (by rw [hb.out, H.out, if_pos rfl]; omega)
              go_wp2
              go_roundg g
              case measure => omega
              case rel => exact ⟨i + 1, by omega, by go_num, by rw [H2.out], hbx⟩
          | succ g2 =>
            have hjx : j < x.size := by omega
            have hjr : j < r.size := by omega
            by_cases he : r[j] = x[j]
            · have H := Lib.hid (take_more hjx hjr HT.out he)
              have hq := eq_bytes he
              clear he
              go_wp2
              go_region
              go_wp2
              go_roundg g2
              case measure => omega
              case rel => exact ⟨j + 1, by omega, by go_num, H, hbx.drew⟩
            · have H := Lib.hid (prefix_not hjx hjr he)
              have hq := ne_bytes he
              clear he
              go_wp2
              go_region
              go_wp2
              go_roundg g
              case measure => omega
              case rel => exact ⟨i + 1, by omega, by go_num, by rw [hb.out, H.out]; rfl, hbx.drew⟩
/-- What Symbol returns: a length and an error. -/
def symN (l : List UInt8) (at_ : Int) : Int := if 0 ≤ at_ ∧ at_ ≤ l.length then symL (l.drop at_.toNat) else 0
def symE (n : Nat) (at_ : Int) : Int := if 0 ≤ at_ ∧ at_ ≤ n then 0 else 2
theorem symbol_any (s : ByteArray) (at_ : Int) (hs : s.size ≤ maxLen) (w : World) (hf : Fix w) :
    Calls Tryz.prog 61 #[.string s, .int .i64 at_] w (SymEnds (symN s.data.toList at_) (symE s.size at_) w) := by
  have el : s.data.toList.length = s.size := by simp
  unfold symN symE
  rw [el]
  by_cases h0 : 0 ≤ at_
  · by_cases h1 : at_ ≤ s.size
    · rw [if_pos ⟨h0, h1⟩, if_pos ⟨h0, h1⟩, ← best_sym]
      have := symbol_ok s at_.toNat (by omega) hs w hf
      rw [show ((at_.toNat : Nat) : Int) = at_ by omega] at this
      exact this
    · rw [if_neg (fun h => h1 h.2), if_neg (fun h => h1 h.2)]
      exact symbol_high s at_ h0 (by omega) w
  · rw [if_neg (fun h => h0 h.1), if_neg (fun h => h0 h.1)]
    exact symbol_low s at_ (by omega) w
end Go.Proofs.YtdinaedknlkicaaGreatDoor

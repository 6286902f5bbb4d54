/-
  The walk of layer 2's statement CharsWords: it returns true.
-/
import Derived.Test.YtdggedngncdbcaaDoorCharsLaw
namespace Go.Proofs.YtdggedngncdbcaaDoor
open Go.ChangeShapes Go.WideShapes Go.ChangeAt Go.RowKit

theorem byte_range (a : UInt8) : 0 ≤ (a.toNat : Int) ∧ (a.toNat : Int) ≤ 255 := by
  have := a.toNat_lt
  omega
/-- How often a text stands among the first k words. -/
def times (l : List UInt8) (k : Nat) : Nat := (wordTab.take k).count l
theorem times_succ (l : List UInt8) (k : Nat) (h : k < 29) : times l (k + 1) = times l k + if (wordAt k).data.toList = l then 1 else 0 := by
  unfold times
  have hl : k < wordTab.length := h
  rw [List.take_succ_eq_append_getElem hl, List.count_append]
  congr 1
  have e : wordTab[k] = (wordAt k).data.toList := by
    show _ = wordTab.getD k []
    rw [List.getD_eq_getElem?_getD, List.getElem?_eq_getElem hl]; rfl
  rw [e, List.count_singleton]
  by_cases hc : (wordAt k).data.toList = l <;> simp [hc]
theorem times_le (l : List UInt8) (k : Nat) : times l k ≤ k := by
  unfold times
  have h1 := List.count_le_length (a := l) (l := wordTab.take k)
  have h2 := List.length_take_le k wordTab
  omega
theorem times_all (l : List UInt8) : times l 29 = wordTab.count l := rfl

set_option maxRecDepth 100000 in
set_option maxHeartbeats 1000000 in
theorem words_walk (s : ByteArray) (w : World) (hf : Fix w) :
    Calls Tryd.prog 8 #[.string s] w fun e w' => e = .returned (.bool true) ∧ Below w.heap.size w w' := by
  have A := Lib.hid (alive_any w hf)
  by_cases g1 : (400 : Int) < s.size
  · clear hf
    go_enter Tryd.func8, Tryd.ntmps8
    go_wp2_with fail
    refine A.out.mono ?_
    rintro e w1 ⟨rfl, hb⟩
    go_wp2_with fail
    go_ret
    exact ⟨rfl, hb⟩
  have F := Lib.hid hf
  cases hw : wordB s.data.toList
  · have W := Lib.hid (word_at s false hw w hf)
    clear hf hw
    go_enter Tryd.func8, Tryd.ntmps8
    go_wp2_with fail
    refine W.out.mono ?_
    rintro e w1 ⟨rfl, rfl⟩
    go_wp2_with fail
    refine A.out.mono ?_
    rintro e w1 ⟨rfl, hb⟩
    go_wp2_with fail
    go_ret
    exact ⟨rfl, hb⟩
  have W := Lib.hid (word_at s true hw w hf)
  obtain ⟨h1, h2, h3, h4⟩ := word_is hw
  have el : s.data.toList.length = s.size := by simp
  rw [el] at h1 h2
  rw [← times_all] at h3
  have H3 := Lib.hid h3
  have H4 := Lib.hid h4
  clear hf hw h3 h4 el
  go_enter Tryd.func8, Tryd.ntmps8
  go_wp2_with fail
  refine W.out.mono ?_
  rintro e w1 ⟨rfl, rfl⟩
  go_wp2_with fail
  go_loopg [3] s.size (fun g i wx => ∃ j : Nat, j + g = s.size ∧ i = .int .i64 j ∧ Hid (Below w.heap.size w wx) ∧ Hid (Fix wx))
  case atStart => exact ⟨0, by omega, rfl, Lib.hid (Below.refl _ _), F⟩
  case round =>
    obtain ⟨j, hj, rfl, BX, FX⟩ := hrel
    cases gk with
    | succ g =>
      have hi : j < s.size := by omega
      have hk := Lib.hid (kind_is (s[j].toNat : Int) 3 ⟨byte_range _, H4.out s[j] (by
        have : s[j] = s.data.toList[j]'(by simpa using hi) := rfl
        rw [this]; exact List.getElem_mem _)⟩)
      go_wp2_with fail
      refine (hk.out _).mono ?_
      rintro e w2 ⟨rfl, hb⟩
      have BY := Lib.hid (below_step BX.out hb)
      have FY := Lib.hid (FX.out.below hb)
      clear hb
      go_wp2_with fail
      go_roundg g
      case measure => omega
      case rel => exact ⟨j + 1, by omega, by go_num, BY, FY⟩
    | zero =>
      obtain rfl : j = s.size := by omega
      clear hj
      go_wp2_with fail
      refine (words_any _).mono ?_
      rintro e w2 ⟨rfl, hw2⟩
      have HC : Hid (∀ i, i < 29 → w2.cell? ⟨wr.heap.size, i, none⟩ = some (.string (wordAt i))) := Lib.hid fun i hi => by rw [← hw2]; exact vals_cell wr wordTab _ i hi
      have HB : Hid (Below wr.heap.size wr w2) := Lib.hid (by rw [← hw2]; exact vals_below wr _ _)
      clear hw2
      go_wp2_with fail
      go_loopg [4, 6] 29 (fun g f i wx => ∃ k : Nat, k + g = 29 ∧ i = .int .i64 k ∧ f = .int .i64 (times s.data.toList k) ∧ w2 = wx)
      case atStart => exact ⟨0, by omega, rfl, rfl, rfl⟩
      case round =>
        obtain ⟨k, hk, rfl, rfl, rfl⟩ := hrel
        cases gk with
        | succ g =>
          have hlt : k < 29 := by omega
          have hx := HC.out k hlt
          have hle := times_le s.data.toList k
          have hs := times_succ s.data.toList k hlt
          cases hq : ((wordAt k).toList == s.toList)
          · rw [if_neg (by rw [← ByteArray.toList_eq, ← ByteArray.toList_eq]; simpa using hq)] at hs
            have H := Lib.hid hs
            clear hs
            go_wp2_with fail
            go_roundg g
            case measure => omega
            case rel => exact ⟨k + 1, by omega, by go_num, by rw [H.out]; rfl, rfl⟩
          · rw [if_pos (by rw [← ByteArray.toList_eq, ← ByteArray.toList_eq]; simpa using hq)] at hs
            have H := Lib.hid hs
            clear hs
            go_wp2_with fail
            go_roundg g
            case measure => omega
            case rel => exact ⟨k + 1, by omega, by go_num, by rw [H.out]; rfl, rfl⟩
        | zero =>
          obtain rfl : k = 29 := by omega
          have h3 := H3.out
          clear hk
          have BZ := Lib.hid (below_step BX.out HB.out)
          have FZ := Lib.hid (FX.out.below HB.out)
          go_wp2_with fail
          refine (alive_any _ FZ.out).mono ?_
          rintro e w3 ⟨rfl, hb⟩
          have BU := Lib.hid (below_step BZ.out hb)
          clear hb
          go_wp2_with fail
          go_ret
          exact ⟨rfl, BU.out⟩
end Go.Proofs.YtdggedngncdbcaaDoor

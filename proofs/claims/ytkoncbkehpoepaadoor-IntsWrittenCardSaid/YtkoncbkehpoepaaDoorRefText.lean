/-
  Contracts of the reference of layer 1: Text and Read.
-/
import Derived.Test.YtkoncbkehpoepaaDoorIntsLaw
import Derived.Lib.SlBytesRow
import Derived.Lib.ItoaLen
import Derived.LoopTactic
namespace Go.Proofs.YtkoncbkehpoepaaDoor
open Go.ChangeShapes Go.WideShapes Go.ChangeAt Go.RowKit

def one (x : Int) : ByteArray := ⟨#[UInt8.ofNat x.toNat]⟩
theorem conv_one (x : Int) (h0 : 0 ≤ x) (h1 : x ≤ 255) (w : World) :
    (convert 25 9 (.slice (some { block := w.heap.size, off := 0 }) 1 1)).run Tryd.prog (w.alloc (Obj.cells #[Value.int IntKind.u8 x] 5)) = .ok (.string (one x)) (w.alloc (Obj.cells #[Value.int IntKind.u8 x] 5)) := by
  refine Lib.run_convert_whole (w.alloc (Obj.cells #[Value.int IntKind.u8 x] 5)) 25 5 9 Tryd.underlying25 Tryd.underlying5 Tryd.underlying9 w.heap.size 0 (one x) ?_ 1
  intro i hi
  have h : i < 1 := hi
  obtain rfl : i = 0 := by omega
  have e : ((one x)[0]'hi).toNat = x.toNat := by
    show (UInt8.ofNat x.toNat).toNat = x.toNat
    rw [UInt8.toNat_ofNat']; omega
  rw [show (((one x)[0]'hi).toNat : Int) = x by rw [e]; omega]
  simp [go_sem]

/-! ### Texts joined -/
def txt (l : List UInt8) : ByteArray := ⟨l.toArray⟩
theorem txt_append (l m : List UInt8) : txt l ++ txt m = txt (l ++ m) := by
  apply ByteArray.ext; simp [txt]
theorem one_txt (x : Int) : one x = txt [UInt8.ofNat x.toNat] := rfl
theorem tail_pos {n : Int} (h : 10 ≤ n) : txt (Lib.itoa (n / 10)) ++ one (48 + n % 10) = txt (Lib.itoa n) := by
  rw [one_txt, txt_append]
  congr 1
  unfold Lib.itoa
  rw [if_neg (by omega), if_neg (by omega)]
  rw [Lib.decDigits.eq_1 n.toNat, dif_neg (by omega)]
  rw [show (n / 10).toNat = n.toNat / 10 by omega, show (48 + n % 10).toNat = 48 + n.toNat % 10 by omega]
theorem last_pos {n : Int} (h0 : 0 ≤ n) (h : n < 10) : one (48 + n % 10) = txt (Lib.itoa n) := by
  rw [one_txt]
  congr 1
  unfold Lib.itoa
  rw [if_neg (by omega), Lib.decDigits.eq_1 n.toNat, dif_pos (by omega), show (48 + n % 10).toNat = 48 + n.toNat by omega]
theorem quo_ten {n : Int} (h : n < 0) : n.tdiv 10 = -((-n) / 10) ∧ n.tmod 10 = -((-n) % 10) := by
  have hb : 0 ≤ -n := by omega
  have e : n = -(-n) := by omega
  constructor
  · rw [← Int.tdiv_eq_ediv_of_nonneg hb, ← Int.neg_tdiv, ← e]
  · rw [← Int.tmod_eq_emod_of_nonneg hb, ← Int.neg_tmod, ← e]
theorem tail_neg {n d : Int} (h : n ≤ -10) (hd : d = -n.tmod 10) : txt (Lib.itoa (n.tdiv 10)) ++ one (48 + d) = txt (Lib.itoa n) := by
  obtain ⟨q, r⟩ := quo_ten (show n < 0 by omega)
  rw [r] at hd
  rw [q, one_txt, txt_append]
  congr 1
  unfold Lib.itoa
  rw [if_pos (by omega), if_pos (by omega)]
  rw [Lib.decDigits.eq_1 n.natAbs, dif_neg (by omega), List.cons_append]
  rw [show (-((-n) / 10)).natAbs = n.natAbs / 10 by omega, show (48 + d).toNat = 48 + n.natAbs % 10 by omega]
theorem last_neg {n : Int} (h0 : n < 0) (h : -10 < n) : txt [45] ++ one (48 + -n.tmod 10) = txt (Lib.itoa n) := by
  obtain ⟨q, r⟩ := quo_ten h0
  rw [r, one_txt, txt_append]
  congr 1
  unfold Lib.itoa
  rw [if_pos h0, Lib.decDigits.eq_1 n.natAbs, dif_pos (by omega), show (48 + - -((-n) % 10)).toNat = 48 + n.natAbs by omega]
  rfl

theorem sum_size (n x : Int) (hn : I64 n) : (txt (Lib.itoa n)).size + (one x).size ≤ 9223372036854775807 := by
  have := Lib.itoa_length_le n hn.1 hn.2
  have e : (txt (Lib.itoa n)).size = (Lib.itoa n).length := by simp [txt, ByteArray.size]
  have e1 : (one x).size = 1 := rfl
  omega
def TextEnds (n : Int) (w : World) (e : Ending) (w' : World) : Prop := e = .returned (.string (txt (Lib.itoa n))) ∧ Below w.heap.size w w'
theorem text_below {w w' : World} {c : Array Value} {t : TypeId} (hb : Below (w.alloc (.cells c t)).heap.size (w.alloc (.cells c t)) w') : Below w.heap.size w w' :=
  ((Below.refl w.heap.size w).alloc (Nat.le_refl _) _).trans (hb.mono (by simp))

theorem refText_last_pos (n : Int) (h0 : 0 ≤ n) (h1 : n < 10) (w : World) : Calls Tryd.prog 15 #[.int .i64 n] w (TextEnds n w) := by
  have hc := conv_one (48 + n % 10) (by omega) (by omega) w
  have hq : (n / 10 != 0) = false := by rw [bne_eq_false_iff_eq]; omega
  have H := Lib.hid (last_pos h0 h1)
  go_enter Tryd.func15, Tryd.ntmps15
  go_wp2_with fail
  go_ret
  exact ⟨congrArg (fun x => Ending.returned (.string x)) H.out, (Below.refl w.heap.size w).alloc (Nat.le_refl _) _⟩
theorem refText_tail_pos (n : Int) (h0 : 10 ≤ n) (h1 : n ≤ 9223372036854775807) (w : World) (ih : ∀ W : World, Calls Tryd.prog 15 #[.int .i64 (n / 10)] W (TextEnds (n / 10) W)) : Calls Tryd.prog 15 #[.int .i64 n] w (TextEnds n w) := by
  have hc := conv_one (48 + n % 10) (by omega) (by omega) w
  have hq : (n / 10 != 0) = true := by rw [bne_iff_ne]; omega
  have H := Lib.hid (tail_pos h0)
  have hs := sum_size (n / 10) (48 + n % 10) (by unfold I64; omega)
  have IH := Lib.hid ih
  clear ih
  go_enter Tryd.func15, Tryd.ntmps15
  go_wp2_with fail
  refine (IH.out _).mono ?_
  rintro e w' ⟨rfl, hb⟩
  go_wp2_with fail
  go_ret
  exact ⟨congrArg (fun x => Ending.returned (.string x)) H.out, text_below hb⟩
theorem refText_last_neg (n : Int) (h0 : n < 0) (h1 : -10 < n) (w : World) : Calls Tryd.prog 15 #[.int .i64 n] w (TextEnds n w) := by
  obtain ⟨q, r⟩ := quo_ten h0
  have hr : n.tmod 10 < 0 := by omega
  have hr2 : -9 ≤ n.tmod 10 := by omega
  have hc := conv_one (48 + -n.tmod 10) (by omega) (by omega) w
  have hq : (n.tdiv 10 != 0) = false := by rw [bne_eq_false_iff_eq]; omega
  have H := Lib.hid (last_neg h0 h1)
  clear q r
  go_enter Tryd.func15, Tryd.ntmps15
  go_wp2_with fail
  go_ret
  exact ⟨congrArg (fun x => Ending.returned (.string x)) H.out, (Below.refl w.heap.size w).alloc (Nat.le_refl _) _⟩
theorem refText_tail_neg (n : Int) (h0 : n ≤ -10) (h1 : -9223372036854775808 ≤ n) (hr : n.tmod 10 < 0) (w : World) (ih : ∀ W : World, Calls Tryd.prog 15 #[.int .i64 (n.tdiv 10)] W (TextEnds (n.tdiv 10) W)) : Calls Tryd.prog 15 #[.int .i64 n] w (TextEnds n w) := by
  obtain ⟨q, r⟩ := quo_ten (show n < 0 by omega)
  have hr2 : -9 ≤ n.tmod 10 := by omega
  have hc := conv_one (48 + -n.tmod 10) (by omega) (by omega) w
  have hq : (n.tdiv 10 != 0) = true := by rw [bne_iff_ne]; omega
  have H := Lib.hid (tail_neg h0 (d := -n.tmod 10) rfl)
  have hs := sum_size (n.tdiv 10) (48 + -n.tmod 10) (by unfold I64; omega)
  have IH := Lib.hid ih
  clear ih q r
  go_enter Tryd.func15, Tryd.ntmps15
  go_wp2_with fail
  refine (IH.out _).mono ?_
  rintro e w' ⟨rfl, hb⟩
  go_wp2_with fail
  go_ret
  exact ⟨congrArg (fun x => Ending.returned (.string x)) H.out, text_below hb⟩
theorem refText_tail_zero (n : Int) (h0 : n ≤ -10) (h1 : -9223372036854775808 ≤ n) (hr : n.tmod 10 = 0) (w : World) (ih : ∀ W : World, Calls Tryd.prog 15 #[.int .i64 (n.tdiv 10)] W (TextEnds (n.tdiv 10) W)) : Calls Tryd.prog 15 #[.int .i64 n] w (TextEnds n w) := by
  obtain ⟨q, r⟩ := quo_ten (show n < 0 by omega)
  have hc := conv_one 48 (by omega) (by omega) w
  have hq : (n.tdiv 10 != 0) = true := by rw [bne_iff_ne]; omega
  have H := Lib.hid (tail_neg h0 (d := 0) (by omega))
  have hs := sum_size (n.tdiv 10) 48 (by unfold I64; omega)
  have IH := Lib.hid ih
  clear ih q r
  go_enter Tryd.func15, Tryd.ntmps15
  go_wp2_with fail
  refine (IH.out _).mono ?_
  rintro e w' ⟨rfl, hb⟩
  go_wp2_with fail
  go_ret
  exact ⟨congrArg (fun x => Ending.returned (.string x)) H.out, text_below hb⟩
theorem refText_all (k : Nat) : ∀ (n : Int) (w : World), n.natAbs ≤ k → I64 n → Calls Tryd.prog 15 #[.int .i64 n] w (TextEnds n w) := by
  induction k with
  | zero => intro n w hk hn; exact refText_last_pos n (by omega) (by omega) w
  | succ k ih =>
    intro n w hk hn
    obtain ⟨h0, h1⟩ := hn
    by_cases hp : 0 ≤ n
    · by_cases ht : n < 10
      · exact refText_last_pos n hp ht w
      · exact refText_tail_pos n (by omega) h1 w fun W => ih _ W (by omega) (by unfold I64; omega)
    · obtain ⟨q, r⟩ := quo_ten (show n < 0 by omega)
      by_cases ht : -10 < n
      · exact refText_last_neg n (by omega) ht w
      · by_cases hr : n.tmod 10 = 0
        · exact refText_tail_zero n (by omega) h0 hr w fun W => ih _ W (by omega) (by unfold I64; omega)
        · exact refText_tail_neg n (by omega) h0 (by omega) w fun W => ih _ W (by omega) (by unfold I64; omega)
theorem refText_any (n : Int) (hn : I64 n) (w : World) : Calls Tryd.prog 15 #[.int .i64 n] w (TextEnds n w) := refText_all n.natAbs n w (Nat.le_refl _) hn
/-! ### The reference's Read -/
theorem dig_at {s : ByteArray} (h : digB s.data.toList = true) (k : Nat) (hk : k < s.size) : 48 ≤ s[k].toNat ∧ s[k].toNat ≤ 57 := by
  unfold digB at h
  simp only [Bool.and_eq_true] at h
  have hm : s[k] ∈ s.data.toList := by
    have : s[k] = s.data.toList[k]'(by simpa using hk) := rfl
    rw [this]; exact List.getElem_mem _
  have := List.all_eq_true.1 h.2 _ hm
  simpa [isDig] using this
theorem drop_at (s : ByteArray) (k : Nat) (hk : k < s.size) : s.data.toList.drop k = s[k] :: s.data.toList.drop (k + 1) := by
  rw [List.drop_eq_getElem_cons (by simpa using hk)]; rfl
def RefReads (v er : Int) (w : World) (e : Ending) (w' : World) : Prop := e = .returned (.tuple #[.int .i64 v, .int .i64 er]) ∧ w = w'

theorem refRead_form (s : ByteArray) (hs : s.size ≤ 1000000) (hd : digB s.data.toList = false) (w : World) : Calls Tryd.prog 14 #[.string s] w (RefReads 0 12 w) := by
  by_cases he : s.size = 0
  · have h1 : s.toList.isEmpty = true := by rw [ByteArray.toList_eq, List.isEmpty_iff, ← List.length_eq_zero_iff]; simpa using he
    clear hd
    go_enter Tryd.func14, Tryd.ntmps14
    go_wp2
    go_ret2
    exact ⟨rfl, rfl⟩
  · have h1 : s.toList.isEmpty = false := by
      rw [ByteArray.toList_eq, List.isEmpty_eq_false_iff]; intro h; apply he; have := congrArg List.length h; simpa using this
    have HD := Lib.hid hd
    have HE := Lib.hid he
    clear hd he
    go_enter Tryd.func14, Tryd.ntmps14
    go_wp2
    go_loop [4] (fun i => ∃ k : Nat, k ≤ s.size ∧ i = .int .i64 k ∧ Hid ((s.data.toList.take k).all isDig = true)) (fun i => s.size - (intOf i).toNat)
    case atStart => exact ⟨0, Nat.zero_le _, rfl, Lib.hid rfl⟩
    case round =>
      obtain ⟨k, hk, rfl, hall⟩ := hrel
      by_cases hlt : k < s.size
      · by_cases g1 : (s[k].toNat : Int) < 48
        · go_wp2
          go_ret2
          exact ⟨rfl, rfl⟩
        · by_cases g2 : 57 < (s[k].toNat : Int)
          · go_wp2
            go_ret2
            exact ⟨rfl, rfl⟩
          · have H := Lib.hid (take_all_succ s k hlt hall.out (by omega) (by omega))
            go_wp2
            go_round
            case rel => exact ⟨k + 1, by omega, by go_num, H⟩
            case measure => simp [intOf]; omega
      · exfalso
        obtain rfl : k = s.size := by omega
        have := hall.out
        rw [List.take_of_length_le (by simp)] at this
        have hd := HD.out
        unfold digB at hd
        rw [this, Bool.and_true, Bool.not_eq_false', List.isEmpty_iff, ← List.length_eq_zero_iff] at hd
        exact HE.out (by simpa using hd)

theorem refRead_step (acc : Nat) (c : UInt8) (r : List UInt8) (h1 : 48 ≤ c.toNat) : refRead acc (c :: r) = if (9223372036854775807 - ((c.toNat : Int) - 48)) / 10 < (acc : Int) then none else refRead (10 * acc + (c.toNat - 48)) r := by
  conv => lhs; unfold refRead
  have hc : c.toNat < 256 := c.toNat_lt
  have e : ((9223372036854775807 - (c.toNat - 48)) / 10 < acc) ↔ ((9223372036854775807 - ((c.toNat : Int) - 48)) / 10 < (acc : Int)) := by omega
  by_cases g : (9223372036854775807 - ((c.toNat : Int) - 48)) / 10 < (acc : Int)
  · rw [if_pos g, if_pos (e.2 g)]
  · rw [if_neg g, if_neg (fun h => g (e.1 h))]
/-- What is returned behind the digits. -/
def outV (o : Option Nat) : Int := match o with | some n => n | none => 0
def outE (o : Option Nat) : Int := match o with | some _ => 0 | none => 16
set_option maxHeartbeats 1000000 in
theorem refRead_digits (s : ByteArray) (hs : s.size ≤ 1000000) (hd : digB s.data.toList = true) (w : World) : Calls Tryd.prog 14 #[.string s] w (RefReads (outV (refRead 0 s.data.toList)) (outE (refRead 0 s.data.toList)) w) := by
  have h1 : s.toList.isEmpty = false := by
    unfold digB at hd
    rw [ByteArray.toList_eq]; simp only [Bool.and_eq_true, Bool.not_eq_true'] at hd; exact hd.1
  have D := Lib.hid (fun k hk => dig_at hd k hk)
  clear hd
  go_enter Tryd.func14, Tryd.ntmps14
  go_wp2
  go_loop [4] (fun i => ∃ k : Nat, k ≤ s.size ∧ i = .int .i64 k) (fun i => s.size - (intOf i).toNat)
  case atStart => exact ⟨0, Nat.zero_le _, rfl⟩
  case round =>
    obtain ⟨k, hk, rfl⟩ := hrel
    by_cases hlt : k < s.size
    · have g1 : (48 : Int) ≤ (s[k].toNat : Int) := by have := (D.out k hlt).1; omega
      have g2 : (s[k].toNat : Int) ≤ 57 := by have := (D.out k hlt).2; omega
      go_wp2
      go_round
      case rel => exact ⟨k + 1, by omega, by go_num⟩
      case measure => simp [intOf]; omega
    · go_wp2
      go_loop [5, 6] (fun n i => ∃ (j acc : Nat), j ≤ s.size ∧ i = .int .i64 j ∧ n = .int .i64 acc ∧ acc ≤ 9223372036854775807 ∧ Hid (refRead 0 s.data.toList = refRead acc (s.data.toList.drop j))) (fun _ i => s.size - (intOf i).toNat)
      case atStart => exact ⟨0, 0, Nat.zero_le _, rfl, rfl, by omega, Lib.hid rfl⟩
      case round =>
        obtain ⟨j, acc, hj, rfl, rfl, hacc, hrd⟩ := hrel
        by_cases hjt : j < s.size
        · have g1 : (48 : Int) ≤ (s[j].toNat : Int) := by have := (D.out j hjt).1; omega
          have g2 : (s[j].toNat : Int) ≤ 57 := by have := (D.out j hjt).2; omega
          have st := hrd.out
          rw [drop_at s j hjt, refRead_step acc _ _ (by omega)] at st
          by_cases g : (9223372036854775807 - ((s[j].toNat : Int) - 48)) / 10 < (acc : Int)
          · rw [if_pos g] at st
            have ST := Lib.hid st
            clear st
            go_wp2
            go_ret2
            exact ⟨by rw [ST.out]; rfl, rfl⟩
          · rw [if_neg g] at st
            have ST := Lib.hid st
            have hb : 10 * acc + (s[j].toNat - 48) ≤ 9223372036854775807 := by omega
            clear st
            go_wp2
            go_round
            case rel => exact ⟨j + 1, 10 * acc + (s[j].toNat - 48), by omega, by go_num, congrArg (Value.int .i64) (by omega), hb, ST⟩
            case measure => simp [intOf]; omega
        · have ST : Hid (refRead 0 s.data.toList = some acc) := Lib.hid (by
            rw [hrd.out, List.drop_of_length_le (by simp; omega)]; rfl)
          clear hrd
          go_wp2
          go_ret2
          exact ⟨by rw [ST.out]; rfl, rfl⟩
theorem refRead_any (s : ByteArray) (hs : s.size ≤ 1000000) (w : World) : Calls Tryd.prog 14 #[.string s] w (RefReads (rdV s.data.toList) (rdE s.data.toList) w) := by
  unfold rdV rdE
  by_cases hd : digB s.data.toList = true
  · have e := refRead_dig s.data.toList 0 (by unfold digB at hd; simp only [Bool.and_eq_true] at hd; exact hd.2) (by decide)
    have h := refRead_digits s hs hd w
    rw [e] at h
    by_cases hv : val s.data.toList ≤ 9223372036854775807
    · rw [if_pos ⟨hd, hv⟩, if_pos hd, if_pos hv]
      rw [show valF 0 s.data.toList = val s.data.toList from rfl, if_pos hv] at h; exact h
    · rw [if_neg (fun h => hv h.2), if_pos hd, if_neg hv]
      rw [show valF 0 s.data.toList = val s.data.toList from rfl, if_neg hv] at h; exact h
  · rw [if_neg (fun h => hd h.1), if_neg hd]; exact refRead_form s hs (by simpa using hd) w
end Go.Proofs.YtkoncbkehpoepaaDoor

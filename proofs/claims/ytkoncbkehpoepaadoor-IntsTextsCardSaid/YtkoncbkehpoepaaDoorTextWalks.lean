/-
  The walks of layer 1's statements IntsTexts and IntsWritten.
-/
import Derived.Test.YtkoncbkehpoepaaDoorRefText
import Derived.LoopTactic
namespace Go.Proofs.YtkoncbkehpoepaaDoor
open Go.ChangeShapes Go.WideShapes Go.ChangeAt Go.RowKit

theorem text_txt (n : Int) (hn : I64 n) (w : World) (hf : Fix w) : Calls Tryd.prog 12 #[.int .i64 n] w (TextEnds n w) := text_any n hn w hf

set_option maxRecDepth 100000 in
theorem texts_walk (n : Int) (hn : I64 n) (s : ByteArray) (hs : s.size ≤ maxLen) (w : World) (hf : Fix w) :
    Calls Tryd.prog 4 #[.int .i64 n, .string s] w fun e w' => e = .returned (.bool true) ∧ Below w.heap.size w w' := by
  by_cases hl : s.size ≤ 100
  · have R := Lib.hid (read_any s (by omega) w hf)
    have T := Lib.hid (fun W => refRead_any s (by omega) W)
    have T1 := Lib.hid (fun W h => text_txt n hn W h)
    have T2 := Lib.hid (fun W => refText_any n hn W)
    have HF := Lib.hid hf
    clear hn hs hf
    go_enter Tryd.func4, Tryd.ntmps4
    go_wp2_with fail
    refine R.out.mono ?_
    rintro e w1 ⟨rfl, hb1⟩
    have F1 := Lib.hid (Fix.below HF.out hb1)
    go_wp2_with fail
    refine (T.out _).mono ?_
    rintro e w2 ⟨rfl, rfl⟩
    go_wp2_with fail
    refine (T1.out _ F1.out).mono ?_
    rintro e w3 ⟨rfl, hb3⟩
    go_wp2_with fail
    refine (T2.out _).mono ?_
    rintro e w4 ⟨rfl, hb4⟩
    go_wp2_with fail
    go_ret
    exact ⟨rfl, (hb1.trans (hb3.mono hb1.size)).trans (hb4.mono (Nat.le_trans hb1.size hb3.size))⟩
  · unfold maxLen at hs
    have hl' : (100 : Int) < (s.size : Int) := by omega
    clear hf hn hl
    go_enter Tryd.func4, Tryd.ntmps4
    go_wp2_with fail
    go_ret
    exact ⟨rfl, Below.refl _ _⟩
/-! ### IntsWritten -/
theorem txt_data (l : List UInt8) : (txt l).data.toList = l := by simp [txt]
theorem txt_toList (l : List UInt8) : (txt l).toList = l := by rw [ByteArray.toList_eq, txt_data]
theorem txt_size (l : List UInt8) : (txt l).size = l.length := by simp [txt, ByteArray.size]
theorem same_texts (n m : Int) : ((txt (Lib.itoa n)).toList == (txt (Lib.itoa m)).toList) = (n == m) := by
  rw [txt_toList, txt_toList, Bool.eq_iff_iff, beq_iff_eq, beq_iff_eq]
  exact ⟨itoa_inj, fun h => by rw [h]⟩
theorem text_not_empty (n : Int) : (txt (Lib.itoa n)).toList.isEmpty = false := by
  rw [txt_toList, List.isEmpty_eq_false_iff]; exact itoa_ne n
theorem zeros_step (k : Nat) : txt (List.replicate k 48) ++ ⟨#[48]⟩ = txt (List.replicate (k + 1) 48) := by
  rw [show (⟨#[48]⟩ : ByteArray) = txt [48] from rfl, txt_append]
  congr 1
  rw [List.replicate_succ']
theorem zeros_size (k : Nat) : (txt (List.replicate k 48)).size = k := by rw [txt_size]; simp
/-- What is read of a number's text with zeros in front. -/
theorem read_zeros_pos (z : Nat) (n : Int) (h : 0 ≤ n) (hn : I64 n) : rdV (List.replicate z 48 ++ Lib.itoa n) = n ∧ rdE (List.replicate z 48 ++ Lib.itoa n) = 0 := by
  have e : Lib.itoa n = Lib.decDigits n.toNat := by unfold Lib.itoa; rw [if_neg (by omega)]
  have hd := digB_zeros z (digB_decDigits n.toNat)
  have hv : val (List.replicate z 48 ++ Lib.decDigits n.toNat) = n.toNat := by
    unfold val; rw [valF_zeros]; exact val_decDigits _
  have hn1 := hn.2
  unfold rdV rdE
  rw [e, if_pos hd, hv, if_pos ⟨hd, by omega⟩, if_pos (by omega)]
  exact ⟨by omega, rfl⟩
theorem read_zeros_neg (z : Nat) (n : Int) (h : n < 0) : rdE (List.replicate z 48 ++ Lib.itoa n) = 12 := by
  have hd : digB (List.replicate z 48 ++ Lib.itoa n) = false := by
    unfold digB Lib.itoa
    rw [if_pos h, List.all_append, List.all_cons, show isDig 45 = false by decide]
    simp
  unfold rdE
  rw [hd]; rfl
theorem head_neg (n : Int) (h : n < 0) : ∃ r, Lib.itoa n = 45 :: r := by
  unfold Lib.itoa; rw [if_pos h]; exact ⟨_, rfl⟩
theorem itoa_size (n : Int) (hn : I64 n) : (txt (Lib.itoa n)).size ≤ 21 := by rw [txt_size]; exact Lib.itoa_length_le n hn.1 hn.2

set_option maxRecDepth 100000 in
set_option maxHeartbeats 1000000 in
theorem written_pos (n m : Int) (hn : I64 n) (hm : I64 m) (z : Nat) (hz : z ≤ 30) (h0 : 0 ≤ n) (w : World) (hf : Fix w) :
    Calls Tryd.prog 8 #[.int .i64 n, .int .i64 m, .int .i64 z] w fun e w' => e = .returned (.bool true) ∧ Below w.heap.size w w' := by
  have T1 := Lib.hid (fun W h => text_txt n hn W h)
  have T2 := Lib.hid (fun W h => text_txt m hm W h)
  have e1 := same_texts n m
  have e2 := text_not_empty n
  have s1 := itoa_size n hn
  have R := Lib.hid (fun (W : World) (h : Fix W) => read_any (txt (List.replicate z 48) ++ txt (Lib.itoa n)) (by rw [ByteArray.size_append, zeros_size]; omega) W h)
  have RZ : Hid (rdV (txt (List.replicate z 48) ++ txt (Lib.itoa n)).data.toList = n ∧ rdE (txt (List.replicate z 48) ++ txt (Lib.itoa n)).data.toList = 0) := Lib.hid (by
    rw [txt_append, txt_data]; exact read_zeros_pos z n h0 hn)
  rw [RZ.out.1, RZ.out.2] at R
  have HF := Lib.hid hf
  clear hn hm hf RZ
  go_enter Tryd.func8, Tryd.ntmps8
  go_wp2_with fail
  refine (T1.out _ HF.out).mono ?_
  rintro e w1 ⟨rfl, hb1⟩
  have F1 := Lib.hid (Fix.below HF.out hb1)
  go_wp2_with fail
  refine (T2.out _ F1.out).mono ?_
  rintro e w2 ⟨rfl, hb2⟩
  have F2 := Lib.hid (Fix.below F1.out hb2)
  go_wp2_with fail
  go_loop [9, 10] (fun f i => ∃ k : Nat, k ≤ z ∧ i = .int .i64 k ∧ f = .string (txt (List.replicate k 48))) (fun _ i => z - (intOf i).toNat)
  case atStart => exact ⟨0, Nat.zero_le _, rfl, rfl⟩
  case round =>
    obtain ⟨k, hk, rfl, rfl⟩ := hrel
    have hs := zeros_size k
    have HS := Lib.hid (zeros_step k)
    by_cases hlt : k < z
    · have hsz : (txt (List.replicate k 48)).size ≤ 30 := by omega
      clear hs
      go_wp2_with fail
      go_round
      case rel => exact ⟨k + 1, by omega, by go_num, congrArg Value.string HS.out⟩
      case measure => simp [intOf]; omega
    · obtain rfl : k = z := by omega
      have hsz : (txt (List.replicate k 48)).size ≤ 30 := by omega
      clear hs HS
      go_wp2_with fail
      refine (R.out _ F2.out).mono ?_
      rintro e w3 ⟨rfl, hb3⟩
      have F3 := Lib.hid (Fix.below F2.out hb3)
      go_wp2_with fail
      refine (alive_any _ F3.out).mono ?_
      rintro e w4 ⟨rfl, hb4⟩
      go_wp2_with fail
      go_ret
      exact ⟨rfl, ((hb1.trans (hb2.mono hb1.size)).trans (hb3.mono (Nat.le_trans hb1.size hb2.size))).trans (hb4.mono (Nat.le_trans (Nat.le_trans hb1.size hb2.size) hb3.size))⟩
theorem head_at (n : Int) (h : n < 0) (hs : 0 < (txt (Lib.itoa n)).size) : ((txt (Lib.itoa n))[0]'hs).toNat = 45 := by
  obtain ⟨r, hr⟩ := head_neg n h
  have e : (txt (Lib.itoa n))[0]'hs = (Lib.itoa n)[0]'(by rw [hr]; simp) := by
    show (txt (Lib.itoa n)).data[0]'_ = _
    simp [txt]
  rw [e]
  simp [hr]
set_option maxRecDepth 100000 in
set_option maxHeartbeats 1000000 in
theorem written_neg (n m : Int) (hn : I64 n) (hm : I64 m) (z : Nat) (hz : z ≤ 30) (h0 : n < 0) (w : World) (hf : Fix w) :
    Calls Tryd.prog 8 #[.int .i64 n, .int .i64 m, .int .i64 z] w fun e w' => e = .returned (.bool true) ∧ Below w.heap.size w w' := by
  have T1 := Lib.hid (fun W h => text_txt n hn W h)
  have T2 := Lib.hid (fun W h => text_txt m hm W h)
  have e1 := same_texts n m
  have e2 := text_not_empty n
  have s1 := itoa_size n hn
  have R := Lib.hid (fun (W : World) (h : Fix W) => read_any (txt (List.replicate z 48) ++ txt (Lib.itoa n)) (by rw [ByteArray.size_append, zeros_size]; omega) W h)
  have RZ : Hid (rdE (txt (List.replicate z 48) ++ txt (Lib.itoa n)).data.toList = 12) := Lib.hid (by
    rw [txt_append, txt_data]; exact read_zeros_neg z n h0)
  rw [RZ.out] at R
  generalize hv : rdV (txt (List.replicate z 48) ++ txt (Lib.itoa n)).data.toList = v at R
  clear hv
  have hlen : 1 ≤ (txt (Lib.itoa n)).size := by obtain ⟨r, hr⟩ := head_neg n h0; rw [txt_size, hr]; simp
  have hix : ∀ h : 0 < (txt (Lib.itoa n)).size, ((txt (Lib.itoa n))[0]'h).toNat = 45 := fun h => head_at n h0 h
  have HF := Lib.hid hf
  clear hn hm hf RZ
  go_enter Tryd.func8, Tryd.ntmps8
  go_wp2_with fail
  refine (T1.out _ HF.out).mono ?_
  rintro e w1 ⟨rfl, hb1⟩
  have F1 := Lib.hid (Fix.below HF.out hb1)
  go_wp2_with fail
  refine (T2.out _ F1.out).mono ?_
  rintro e w2 ⟨rfl, hb2⟩
  have F2 := Lib.hid (Fix.below F1.out hb2)
  go_wp2_with fail
  go_loop [9, 10] (fun f i => ∃ k : Nat, k ≤ z ∧ i = .int .i64 k ∧ f = .string (txt (List.replicate k 48))) (fun _ i => z - (intOf i).toNat)
  case atStart => exact ⟨0, Nat.zero_le _, rfl, rfl⟩
  case round =>
    obtain ⟨k, hk, rfl, rfl⟩ := hrel
    have hs := zeros_size k
    have HS := Lib.hid (zeros_step k)
    by_cases hlt : k < z
    · have hsz : (txt (List.replicate k 48)).size ≤ 30 := by omega
      clear hs
      go_wp2_with fail
      go_round
      case rel => exact ⟨k + 1, by omega, by go_num, congrArg Value.string HS.out⟩
      case measure => simp [intOf]; omega
    · obtain rfl : k = z := by omega
      have hsz : (txt (List.replicate k 48)).size ≤ 30 := by omega
      clear hs HS
      go_wp2_with fail
      refine (R.out _ F2.out).mono ?_
      rintro e w3 ⟨rfl, hb3⟩
      have F3 := Lib.hid (Fix.below F2.out hb3)
      go_wp2_with fail
      refine (alive_any _ F3.out).mono ?_
      rintro e w4 ⟨rfl, hb4⟩
      go_wp2_with fail
      go_ret
      exact ⟨rfl, ((hb1.trans (hb2.mono hb1.size)).trans (hb3.mono (Nat.le_trans hb1.size hb2.size))).trans (hb4.mono (Nat.le_trans (Nat.le_trans hb1.size hb2.size) hb3.size))⟩
theorem written_out (n m z : Int) (hz : z < 0 ∨ 30 < z) (w : World) (hf : Fix w) :
    Calls Tryd.prog 8 #[.int .i64 n, .int .i64 m, .int .i64 z] w fun e w' => e = .returned (.bool true) ∧ Below w.heap.size w w' := by
  have HF := Lib.hid hf
  clear hf
  by_cases h : z < 0
  · clear hz
    go_enter Tryd.func8, Tryd.ntmps8
    go_wp2_with fail
    refine (alive_any _ HF.out).mono ?_
    rintro e w4 ⟨rfl, hb4⟩
    go_wp2_with fail
    go_ret
    exact ⟨rfl, hb4⟩
  · have h' : 30 < z := by omega
    clear hz
    go_enter Tryd.func8, Tryd.ntmps8
    go_wp2_with fail
    refine (alive_any _ HF.out).mono ?_
    rintro e w4 ⟨rfl, hb4⟩
    go_wp2_with fail
    go_ret
    exact ⟨rfl, hb4⟩
theorem written_walk (n m z : Int) (hn : I64 n) (hm : I64 m) (w : World) (hf : Fix w) :
    Calls Tryd.prog 8 #[.int .i64 n, .int .i64 m, .int .i64 z] w fun e w' => e = .returned (.bool true) ∧ Below w.heap.size w w' := by
  by_cases hz : z < 0 ∨ 30 < z
  · exact written_out n m z hz w hf
  · obtain ⟨k, rfl⟩ := Int.eq_ofNat_of_zero_le (show 0 ≤ z by omega)
    by_cases h : 0 ≤ n
    · exact written_pos n m hn hm k (by omega) h w hf
    · exact written_neg n m hn hm k (by omega) (by omega) w hf
end Go.Proofs.YtkoncbkehpoepaaDoor

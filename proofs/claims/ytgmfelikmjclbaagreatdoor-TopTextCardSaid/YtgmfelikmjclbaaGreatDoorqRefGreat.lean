/-
  Contract of the reference of layer 3: Great.
-/
import Derived.Test.YtgmfelikmjclbaaGreatDoorqTokRows
import Derived.Outline
namespace Go.Proofs.YtgmfelikmjclbaaGreatDoor
open Go.ChangeShapes Go.WideShapes Go.ChangeAt Go.RowKit

def bigTok (t : Tok) : Bool := decide (500 < t.text.length)
def greatB (ts : List Tok) : Bool := decide (220 < ts.length) || (ts.take 220).any bigTok
set_option maxRecDepth 100000 in
theorem great_any (v : Value) (ts : List Tok) (w : World) (h : Reads w v ts) (hn : ts.length ≤ 9223372036854775807) :
    Calls Tryz.prog 9 #[v] w fun e w' => e = .returned (.bool (greatB ts)) ∧ w = w' := by
  obtain ⟨ad, cap, rfl⟩ := h.shape
  have HR := Lib.hid h
  clear h
  go_enter Tryz.func9, Tryz.ntmps9
  go_wp2_with fail
  go_loopg [3] ts.length (fun g i wx => ∃ k : Nat, k + g = ts.length ∧ i = .int .i64 k ∧ Hid (k ≤ 220 ∧ (ts.take k).any bigTok = false) ∧ w = wx)
  case atStart => exact ⟨0, by omega, rfl, Lib.hid ⟨Nat.zero_le _, rfl⟩, rfl⟩
  case round =>
    obtain ⟨k, hk, rfl, HK, rfl⟩ := hrel
    cases gk with
    | zero =>
      obtain rfl : k = ts.length := by omega
      have H : Hid (greatB ts = false) := Lib.hid (by
        obtain ⟨h1, h2⟩ := HK.out
        rw [List.take_length] at h2
        unfold greatB
        rw [List.take_of_length_le h1, h2, decide_eq_false (by omega)]; rfl)
      clear hk
      go_wp2_with fail
      go_ret
      exact ⟨by rw [H.out]; rfl, rfl⟩
    | succ g =>
      have hlt : k < ts.length := by omega
      obtain ⟨b, o, cap', x, hv, hx, hb, c0, c1, c2⟩ := HR.out.tok k hlt
      cases hv
      have hxs : x.size = ts[k].text.length := by rw [← hx]; simp
      by_cases h220 : (220 : Int) ≤ k
      · have H : Hid (greatB ts = true) := Lib.hid (by unfold greatB; rw [decide_eq_true (by omega)]; rfl)
        clear hx hxs
        go_wp2_with fail
        go_ret
        exact ⟨by rw [H.out]; rfl, rfl⟩
      · by_cases h500 : (500 : Int) < x.size
        · have H : Hid (greatB ts = true) := Lib.hid (by
            unfold greatB
            have hm : ts[k] ∈ ts.take 220 := by
              rw [List.mem_take_iff_getElem]
              exact ⟨k, by omega, rfl⟩
            rw [Bool.or_eq_true, List.any_eq_true]
            exact .inr ⟨_, hm, decide_eq_true (by omega)⟩)
          clear hx hxs
          go_wp2_with fail
          go_ret
          exact ⟨by rw [H.out]; rfl, rfl⟩
        · have H : Hid (k + 1 ≤ 220 ∧ (ts.take (k + 1)).any bigTok = false) := Lib.hid (by
            refine ⟨by omega, ?_⟩
            rw [List.take_succ_eq_append_getElem hlt, List.any_append, HK.out.2]
            simp only [List.any_cons, List.any_nil, Bool.or_false, Bool.false_or]
            exact decide_eq_false (by omega))
          clear hx hxs
          go_wp2_with fail
          go_roundg g
          case measure => omega
          case rel => exact ⟨k + 1, by omega, by go_num, H, rfl⟩
end Go.Proofs.YtgmfelikmjclbaaGreatDoor

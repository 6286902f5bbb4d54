/-
  Contract of package lexer: Join.
-/
import Derived.Test.YtdinaedknlkicaaGreatDoorLexCheck
import Derived.Test.YtdinaedknlkicaaGreatDoorBuilder
import Derived.Test.YtdinaedknlkicaaGreatDoorJoinDefs
import Derived.Deep.RegionWith
import Derived.Outline
namespace Go.Proofs.YtdinaedknlkicaaGreatDoor
open Go.ChangeShapes Go.WideShapes Go.ChangeAt Go.RowKit

theorem joinN_step (ts : List Tok) (k : Nat) : (joinN ts k).length ≤ (joinN ts (k + 1)).length := by
  show _ ≤ ((if k = 0 then [] else joinN ts k ++ [32]) ++ _).length
  rw [List.length_append]
  split
  · rename_i h; subst h; exact Nat.zero_le _
  · rw [List.length_append]; simp only [List.length_cons, List.length_nil]; omega
theorem joinN_mono (ts : List Tok) {k n : Nat} (h : k ≤ n) : (joinN ts k).length ≤ (joinN ts n).length := by
  induction n with
  | zero => obtain rfl : k = 0 := by omega
            exact Nat.le_refl _
  | succ n ih =>
    by_cases hk : k = n + 1
    · subst hk; exact Nat.le_refl _
    · exact Nat.le_trans (ih (by omega)) (joinN_step ts n)
theorem below_box {w wx w2 : World} {o : Obj} (h : Below w.heap.size w wx) (hb : Below (wx.alloc o).heap.size (wx.alloc o) w2) : Below w.heap.size w w2 :=
  below_then (h.alloc h.size _) hb
theorem box_fix {w wx : World} {o : Obj} (hf : LexFix w) (h : Below w.heap.size w wx) : LexFix (wx.alloc o) := hf.below (h.alloc h.size _)

set_option maxRecDepth 100000 in
set_option maxHeartbeats 1000000 in
theorem lexJoin_any (v : Value) (ts : List Tok) (w : World) (hf : LexFix w) (hR : Reads w v ts) (hn : ts.length ≤ 9223372036854775807) (hx : ∀ t ∈ ts, t.text.length ≤ 281474976710656) :
    Calls Tryz.prog 16 #[v] w (JoinEnds ts w) := by
  obtain ⟨ad, cap, rfl⟩ := hR.shape
  by_cases hbig : (200 : Int) < ts.length
  · have HV : Hid (joinV ts = ([], 4)) := Lib.hid (by unfold joinV; rw [if_pos (by omega)])
    clear hR hx
    go_enter Tryz.func16, Tryz.ntmps16
    go_wp2_with fail
    go_ret2
    exact ⟨by rw [HV.out]; rfl, Below.refl _ _⟩
  have HR := Lib.hid hR
  have HX := Lib.hid hx
  have HF := Lib.hid hf
  clear hR hx hf
  go_enter Tryz.func16, Tryz.ntmps16
  go_wp2_with fail
  go_loopg [14] ts.length (fun g i wx => ∃ k : Nat, k + g = ts.length ∧ i = .int .i64 k ∧ Hid ((ts.take k).all validT = true) ∧ Hid (Below w.heap.size w wx))
  case atStart => exact ⟨0, by omega, rfl, Lib.hid rfl, Lib.hid (Below.refl _ _)⟩
  case round =>
    obtain ⟨k, hk, rfl, HK, HB⟩ := hrel
    cases gk with
    | succ g =>
      have hlt : k < ts.length := by omega
      obtain ⟨b, o, cap', x, hv, hx, hb, c0, c1, c2⟩ := (HR.out.below HB.out).tok k hlt
      cases hv
      have hxs : x.size = ts[k].text.length := by rw [← hx]; simp
      have V := check_any ts[k].kind x (by rw [hxs]; exact HX.out _ (List.getElem_mem _))
      unfold CheckEnds at V
      rw [hx] at V
      obtain ⟨er, her⟩ : ∃ er, chkE ts[k].kind ts[k].text = er := ⟨_, rfl⟩
      have hval : er = 0 ↔ validT ts[k] = true := by rw [← her]; exact chk_valid _ _
      rw [her] at V
      have VV := Lib.hid V
      clear V her
      by_cases hq : er = 0
      · have hq2 : (er != 0) = false := by rw [hq]; rfl
        have HK2 : Hid ((ts.take (k + 1)).all validT = true) := Lib.hid (by
          rw [List.take_succ_eq_append_getElem hlt, List.all_append, HK.out]
          simp [hval.1 hq])
        clear hx hxs hq hval
        go_wp2_with fail
        refine (VV.out _ (box_fix HF.out HB.out)).mono ?_
        rintro e w2 ⟨rfl, hb2⟩
        have HB2 := Lib.hid (below_box HB.out hb2)
        clear hb2
        go_wp2_with fail
        go_roundg g
        case measure => omega
        case rel => exact ⟨k + 1, by omega, by go_num, HK2, HB2⟩
      · have hq2 : (er != 0) = true := by rw [bne_iff_ne]; exact hq
        have HV : Hid (joinV ts = ([], 8)) := Lib.hid (by
          unfold joinV
          rw [if_neg (by omega), if_pos]
          rw [List.all_eq_false]
          exact ⟨_, List.getElem_mem hlt, fun h => hq (hval.2 h)⟩)
        clear hx hxs hq hval
        go_wp2_with fail
        refine (VV.out _ (box_fix HF.out HB.out)).mono ?_
        rintro e w2 ⟨rfl, hb2⟩
        have HB2 := Lib.hid (below_box HB.out hb2)
        clear hb2
        go_wp2_with fail
        go_ret2
        exact ⟨by rw [HV.out]; rfl, HB2.out⟩
    | zero =>
      obtain rfl : k = ts.length := by omega
      have HA : Hid (ts.all validT = true) := Lib.hid (by have := HK.out; rwa [List.take_length] at this)
      clear hk HK
      have HU0 := Lib.hid (builds_new w.heap.size _ HB.out.size)
      have HB0 := Lib.hid (HB.out.alloc HB.out.size (Obj.cells #[.pointer none, .slice none 0 0] 80))
      go_wp2_with fail
      go_loopg [27] ts.length (fun g i wx => ∃ k : Nat, k + g = ts.length ∧ i = .int .i64 k ∧ Hid (Builds w.heap.size wr.heap.size (joinN ts k) wx) ∧ Hid ((joinN ts k).length ≤ 400) ∧ Hid (Below w.heap.size w wx))
      case atStart => exact ⟨0, by omega, rfl, HU0, Lib.hid (Nat.zero_le _), HB0⟩
      case round =>
        obtain ⟨k, hk, rfl, HU, HJ, HB1⟩ := hrel
        cases gk with
        | succ g =>
          have hlt : k < ts.length := by omega
          obtain ⟨b, o, cap', x, hv, hx, hb, c0, c1, c2⟩ := (HR.out.below HB1.out).tok k hlt
          cases hv
          have hxs : x.size ≤ 281474976710656 := by
            have h1 : x.size = ts[k].text.length := by rw [← hx]; simp
            rw [h1]; exact HX.out _ (List.getElem_mem _)
          have hmono := joinN_mono ts (k := k + 1) (n := ts.length) (by omega)
          by_cases hz : (0 : Int) < k
          · have hz2 : 0 < k := by omega
            have hnext : joinN ts (k + 1) = joinN ts k ++ [32] ++ x.data.toList := by rw [joinN_succ hz2 hlt, hx]
            have hlen : (joinN ts (k + 1)).length = (joinN ts k ++ [32]).length + x.size := by rw [hnext, List.length_append]; simp
            have HN := Lib.hid (And.intro hnext (And.intro hlen hmono))
            clear hx hnext hlen hmono
            go_wp2_with fail
            refine (writeByte_box _ _ _ 32 32 rfl _ _ HU.out (by have := HJ.out; omega) HB1.out.size).mono ?_
            rintro e w2 ⟨rfl, hu, hb2, hbox⟩
            have HU2 := Lib.hid hu
            have HB2 := Lib.hid (HB1.out.trans hb2)
            have d1 : w2.cell? { block := wr.heap.size, off := 1 } = some (.string x) := by rw [Lib.cell_of_heap hbox]; rfl
            clear hu hb2 hbox
            go_wp2_with fail
            have LQ0 := len_quiet _ _ _ _ HU2.out.builds
            obtain ⟨m, hm⟩ : ∃ m, (joinN ts k ++ [32]).length = m := ⟨_, rfl⟩
            have hm2 : m ≤ 401 := by rw [← hm, List.length_append]; have := HJ.out; simp only [List.length_cons, List.length_nil]; omega
            rw [hm] at LQ0
            have LQ := Lib.hid LQ0
            have HM := Lib.hid hm
            clear LQ0 hm
            by_cases h4 : (400 : Int) < (m : Int) + x.size
            · have HV : Hid (joinV ts = ([], 18)) := Lib.hid (by
                have := HN.out.2.1
                have := HN.out.2.2
                have := HM.out
                unfold joinV
                rw [if_neg (by omega), if_neg (by rw [HA.out]; simp), if_pos (by omega)])
              go_quiet (first | (go_at_call 41; with_reducible exact LQ.out _))
              go_wp2_with fail
              go_ret2
              exact ⟨by rw [HV.out]; rfl, below_drewN HB2.out _⟩
            · have HJ2 : Hid ((joinN ts (k + 1)).length ≤ 400) := Lib.hid (by rw [HN.out.2.1, HM.out]; omega)
              have WS := Lib.hid (fun n => writeString_any _ _ _ x (w2.drewN n) (HU2.out.builds.below (below_drewN (Below.refl _ _) _)) (by have := HJ.out; simp; omega) (by omega) (below_drewN HB2.out _).size)
              go_quiet (first | (go_at_call 41; with_reducible exact LQ.out _))
              go_wp2_with fail
              refine (WS.out _).mono ?_
              rintro e w4 ⟨rfl, hu, hb2⟩
              have HU3 := hu.builds
              rw [← HN.out.1] at HU3
              replace HU3 := Lib.hid HU3
              have HB3 := Lib.hid ((below_drewN HB2.out _).trans hb2)
              clear hu hb2
              go_wp2_with fail
              go_roundg g
              case measure => omega
              case rel => exact ⟨k + 1, by omega, by go_num, HU3, HJ2, HB3⟩
          · obtain rfl : k = 0 := by omega
            simp only [Nat.zero_mul, Nat.add_zero] at c0 c1 c2
            have hnext : joinN ts (0 + 1) = x.data.toList := by rw [joinN_one hlt, hx]
            have hlen : (joinN ts (0 + 1)).length = x.size := by rw [hnext]; simp
            have HN := Lib.hid (And.intro hnext (And.intro hlen hmono))
            have HU2 : Hid (∀ o : Obj, Builds w.heap.size _ [] (World.alloc _ o)) := Lib.hid (fun o => HU.out.below ((Below.refl _ _).alloc (Nat.le_refl _) o))
            have HB2 : Hid (∀ o : Obj, Below w.heap.size w (World.alloc _ o)) := Lib.hid (fun o => HB1.out.alloc HB1.out.size o)
            have LQ := Lib.hid (fun o => len_quiet _ _ _ _ (HU2.out o))
            have WS := Lib.hid (fun o n (hs4 : x.size ≤ 400) => writeString_any _ _ _ x _ ((HU2.out o).below (below_drewN (Below.refl _ _) n)) (by simp) (by omega) (below_drewN (HB2.out o) n).size)
            clear hx hnext hlen hmono
            by_cases h4 : (400 : Int) < x.size
            · have HV : Hid (joinV ts = ([], 18)) := Lib.hid (by
                have := HN.out.2.1
                have := HN.out.2.2
                unfold joinV
                rw [if_neg (by omega), if_neg (by rw [HA.out]; simp), if_pos (by omega)])
              go_wp2_with fail
              go_quiet (first | (go_at_call 41; with_reducible exact LQ.out _ _))
              go_wp2_with fail
              go_ret2
              exact ⟨by rw [HV.out]; rfl, below_drewN (HB2.out _) _⟩
            · have HJ2 : Hid ((joinN ts (0 + 1)).length ≤ 400) := Lib.hid (by rw [HN.out.2.1]; omega)
              go_wp2_with fail
              go_quiet (first | (go_at_call 41; with_reducible exact LQ.out _ _))
              go_wp2_with fail
              refine (WS.out _ _ (by omega)).mono ?_
              rintro e w4 ⟨rfl, hu, hb2⟩
              have HU3 := hu.builds
              rw [List.nil_append, ← HN.out.1] at HU3
              replace HU3 := Lib.hid HU3
              have HB3 := Lib.hid ((below_drewN (HB2.out _) _).trans hb2)
              clear hu hb2
              go_wp2_with fail
              go_roundg g
              case measure => omega
              case rel => exact ⟨0 + 1, by omega, by go_num, HU3, HJ2, HB3⟩
        | zero =>
          obtain rfl : k = ts.length := by omega
          have SG := Lib.hid (string_any _ _ _ _ HU.out HB1.out.size)
          have HV : Hid (joinV ts = (joinN ts ts.length, 0)) := Lib.hid (by
            have := HJ.out
            unfold joinV
            rw [if_neg (by omega), if_neg (by rw [HA.out]; simp), if_neg (by omega)])
          clear hk
          go_wp2_with fail
          refine SG.out.mono ?_
          rintro e w2 ⟨rfl, hb2⟩
          have HB2 := Lib.hid (HB1.out.trans hb2)
          clear hb2
          go_wp2_with fail
          go_ret2
          exact ⟨by rw [HV.out]; rfl, HB2.out⟩
end Go.Proofs.YtdinaedknlkicaaGreatDoor

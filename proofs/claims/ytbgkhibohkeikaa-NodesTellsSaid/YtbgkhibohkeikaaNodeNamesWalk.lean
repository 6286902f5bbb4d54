/-
  Walk of the statement NodesNames: the chapter's examples, limits, lists that are no expressions, and errors.
-/
import Derived.Test.YtbgkhibohkeikaaNodeNamesFacts
import Derived.Deep.RegionHeld3
import Derived.Outline
namespace Go.Proofs.Ytbgkhibohkeikaa.Nodes
open Go.ChangeShapes Go.WideShapes Go.ChangeAt Go.RowKit

set_option maxRecDepth 100000 in
set_option maxHeartbeats 4000000 in
theorem names_walk (w : World) : Calls Try.prog 3 #[] w fun e w' => e = .returned (.bool true) ∧ Below w.heap.size w w' := by
  have HS := Lib.hid (bads_start w)
  obtain ⟨DL, dl0, dlS, dlen, dd, dn⟩ := deep_step
  obtain ⟨WL, wl0, wlen, wS, wE⟩ := wide_step
  have HDL := Lib.hid (And.intro dl0 (And.intro dlS dlen))
  have HWL := Lib.hid (And.intro wl0 wlen)
  have DD := Lib.hid (fun W v h => depth_is2 (DL 19) 20 dd (by rw [dlen]; decide) W v h)
  have DN := Lib.hid (fun W vp h => node_err 5 0 0 [DL 19] 34 dn (by decide) (by decide) (fun q hq => by simp at hq; subst hq; rw [dlen]; decide) (by simp) W vp h)
  have WN := Lib.hid (fun k (hk : k < 19) W vp h => node_is 8 0 0 [WL k, [vN]] (WL (k + 1)) 0 (wS k hk) (by decide) (by decide) (fun q hq => by
    simp at hq
    rcases hq with rfl | rfl
    · have := wlen k (by omega); omega
    · decide) (by simp) W vp h)
  have WE := Lib.hid (fun W vp h => node_err 8 0 0 [WL 19, [vN]] 34 wE (by decide) (by decide) (fun q hq => by
    simp at hq
    rcases hq with rfl | rfl
    · have := wlen 19 (by omega); omega
    · decide) (by simp) W vp h)
  clear dl0 dlS dlen dd dn wl0 wlen wS wE
  have SE := Lib.hid (fun W v h => size_err exL 5 2 ex_errors.1 (by decide) W v h)
  have PE := Lib.hid (fun W v h => part_err exL (-1) 2 ex_errors.2.1 (by decide) W v h)
  have P0 := Lib.hid (parts_err 0 (by decide) (by decide) ex_errors.2.2.1)
  have P20 := Lib.hid (parts_err 20 (by decide) (by decide) ex_errors.2.2.2)
  have C61 := Lib.hid (fun W v h => check_is (List.replicate 61 zeroN) 4 zeros_is (by rw [List.length_replicate]; decide) W v h)
  go_enter Try.func3, Try.ntmps3
  go_wp2_with fail
  go_loopg [3] 19 (fun g s3 wx => ∃ k : Nat, k + g = 19 ∧ s3 = .int .i64 k ∧ Hid (BadsAt wx (w.heap.size + 1 + 1 + 1 + 1 + 1 + 1 + 1 + 1 + 1 + 1 + 1 + 1 + 1 + 1 + 1 + 1 + 1 + 1 + 1 + 1)) ∧ Hid (wx.heap[w.heap.size]? = some (.cells (rowN [vN]).toArray 23 (0, 0))) ∧ Hid (Below w.heap.size w wx))
  case atStart => exact ⟨0, by omega, rfl, Lib.hid HS.out.1, Lib.hid HS.out.2.1, Lib.hid HS.out.2.2⟩
  case round =>
    obtain ⟨k, hk, rfl, HBad, HV, HB⟩ := hrel
    generalize hnb : w.heap.size + 1 + 1 + 1 + 1 + 1 + 1 + 1 + 1 + 1 + 1 + 1 + 1 + 1 + 1 + 1 + 1 + 1 + 1 + 1 + 1 = nb at HBad ⊢
    have hwn : w.heap.size < nb := by omega
    have HNB := Lib.hid hnb
    clear hnb
    cases gk with
    | zero =>
      obtain rfl : k = 19 := by omega
      have v0 : wr.cell? ⟨w.heap.size, 0, none⟩ = some (.int .u8 4) := (cell_of HV.out 0).trans rfl
      have v1 : wr.cell? ⟨w.heap.size, 1, none⟩ = some (.int .i64 0) := (cell_of HV.out 1).trans rfl
      have v2 : wr.cell? ⟨w.heap.size, 2, none⟩ = some (.int .i64 0) := (cell_of HV.out 2).trans rfl
      have v3 : wr.cell? ⟨w.heap.size, 3, none⟩ = some (.int .i64 0) := (cell_of HV.out 3).trans rfl
      have v4 : wr.cell? ⟨w.heap.size, 4, none⟩ = some (.int .i64 0) := (cell_of HV.out 4).trans rfl
      have HD0 : Hid ((wr.alloc (Obj.cells #[.int .u8 4, .int .i64 0, .int .i64 0, .int .i64 0, .int .i64 0] 23)).ownsRow wr.heap.size 23 5 (.slice (some ⟨wr.heap.size, 0, none⟩) 1 1) 1 (rowN (DL 0))) := Lib.hid (by rw [HDL.out.1]; exact World.ownsRow_lit wr #[.int .u8 4, .int .i64 0, .int .i64 0, .int .i64 0, .int .i64 0] 1 (Nat.le_refl _) (by decide) rfl)
      have HWs : Hid (w.heap.size < wr.heap.size) := Lib.hid (by have := HBad.out.1; omega)
      clear hk hwn
      obtain ⟨i0, hi, hz0, hz1, hz2⟩ := info_parts info_nd
      have HI := Lib.hid (And.intro hi (And.intro hz0 (And.intro hz1 hz2)))
      clear hi hz0 hz1 hz2
      go_wp2_with fail
      go_loopg [16, 17] 19 (fun g s16 s17 wx => ∃ k : Nat, k + g = 19 ∧ s17 = .int .i64 k ∧ Hid (wx.ownsRow wr.heap.size 23 5 s16 (k + 1) (rowN (DL k))) ∧ Hid (Below wr.heap.size wr wx))
      case atStart => exact ⟨0, by omega, rfl, HD0, Lib.hid ((Below.refl _ wr).alloc (Nat.le_refl _) _)⟩
      case round =>
        obtain ⟨k, hk, rfl, HO, HK2⟩ := hrel
        obtain ⟨ado, cpo, hsh⟩ := own_shape HO.out
        subst hsh
        cases gk with
        | succ g =>
          have hk19 : (k : Int) < 19 := by omega
          go_wp2_with (at_builtin; refine wpList_append_own _ rfl _ _ 24 rfl _ 23 i0 (.agg #[.int .u8 0, .int .i64 0, .int .i64 0, .int .i64 0, .int .i64 0]) 5 40 Try.underlying24 HI.out.1 HI.out.2.1 HI.out.2.2.1 HI.out.2.2.2 rfl (by decide) _ _ _ rfl (HO.out.alloc _) ⟨wr.heap.size, 0, none⟩ 1 1 [.int .u8 5, .int .i64 0, .int .i64 k, .int .i64 0, .int .i64 0] rfl rfl ?c1 ?c2 ?c3 ?c4 ?c5 ?_)
          case c1 =>
            intro q u hq
            match q with
            | 0 => simp at hq; subst hq; simp [go_sem, Addr.add]
            | 1 => simp at hq; subst hq; simp [go_sem, Addr.add]
            | 2 => simp at hq; subst hq; simp [go_sem, Addr.add]
            | 3 => simp at hq; subst hq; simp [go_sem, Addr.add]
            | 4 => simp at hq; subst hq; simp [go_sem, Addr.add]
            | q + 5 => simp at hq
          case c2 => intro u hu; simp at hu; rcases hu with rfl | rfl | rfl | rfl | rfl <;> rfl
          case c3 => unfold maxLen; omega
          case c4 => omega
          case c5 => have := HK2.out.size; simp; omega
          intro v1x w4 hown hgrow _
          have HK4 := Lib.hid (grown_below HO.out (HK2.out.alloc HK2.out.size _) hgrow)
          have HO4 : Hid (w4.ownsRow _ 23 5 v1x (k + 1 + 1) (rowN (DL (k + 1)))) := Lib.hid (by
            rw [HDL.out.2.1, rowN_add]
            exact hown)
          clear hown hgrow
          go_wp2_with fail
          go_roundg g
          case measure => omega
          case rel => exact ⟨k + 1, by omega, by go_num, HO4, HK4⟩
        | zero =>
          obtain rfl : k = 19 := by omega
          have hrd : ReadsN wr (.slice ado 20 cpo) (DL 19) := own_readsN (l := DL 19) (by rw [HDL.out.2.2]; exact HO.out)
          have HRd := Lib.hid hrd
          clear hrd hk
          go_wp2_with fail
          refine (DD.out _ _ HRd.out).mono ?_
          rintro e w2 ⟨rfl, hb⟩
          have HK3 := Lib.hid (below_then HK2.out hb)
          have HRd2 := Lib.hid (HRd.out.below hb)
          clear hb
          go_wp2_with fail
          refine (DN.out _ _ (lit_readsP [.slice ado 20 cpo] [DL 19] 1 rfl w2 (fun i q hq => by
            match i, hq with
            | 0, hq => simp at hq; subst hq; exact ⟨_, rfl, HRd2.out⟩))).mono ?_
          rintro e w3 ⟨adn, nn, cpn, rfl, hb⟩
          have HK4 := Lib.hid (below_box HK3.out hb)
          clear hb
          have hvx := (HK4.out.block w.heap.size HWs.out).trans HV.out
          have v0 : w3.cell? ⟨w.heap.size, 0, none⟩ = some (.int .u8 4) := (cell_of hvx 0).trans rfl
          have v1 : w3.cell? ⟨w.heap.size, 1, none⟩ = some (.int .i64 0) := (cell_of hvx 1).trans rfl
          have v2 : w3.cell? ⟨w.heap.size, 2, none⟩ = some (.int .i64 0) := (cell_of hvx 2).trans rfl
          have v3 : w3.cell? ⟨w.heap.size, 3, none⟩ = some (.int .i64 0) := (cell_of hvx 3).trans rfl
          have v4 : w3.cell? ⟨w.heap.size, 4, none⟩ = some (.int .i64 0) := (cell_of hvx 4).trans rfl
          clear hvx
          have HB3w := Lib.hid (below_then HB.out HK4.out)
          have HV3 := Lib.hid ((HK4.out.block w.heap.size HWs.out).trans HV.out)
          have HWs3 : Hid (w.heap.size < w3.heap.size) := Lib.hid (Nat.lt_of_lt_of_le HWs.out HK4.out.size)
          go_wp2_with fail
          go_loopg [22, 23, 24] 20 (fun g s22 s23 s24 wx => ∃ k : Nat, k + g = 20 ∧ s24 = .int .i64 k ∧ s23 = .int .i64 (if k = 20 then 34 else 0) ∧ (∃ ad n cap, s22 = .slice ad n cap) ∧ Hid (k < 20 → ReadsN wx s22 (WL k)) ∧ Hid (Below w3.heap.size w3 wx))
          case atStart => exact ⟨0, by omega, rfl, rfl, ⟨_, _, _, rfl⟩, Lib.hid (fun _ => by rw [HWL.out.1]; exact lit_reads [vN] 1 rfl w3), Lib.hid ((Below.refl _ w3).alloc (Nat.le_refl _) _)⟩
          case round =>
            obtain ⟨k, hk, rfl, hc, ⟨adw, nw, cpw, rfl⟩, HW, HK5⟩ := hrel
            cases gk with
            | succ g =>
              rw [if_neg (by omega)] at hc
              subst hc
              have hk20 : (k : Int) < 30 := by omega
              have HRW := Lib.hid (HW.out (by omega))
              have hvx := (HK5.out.block w.heap.size HWs3.out).trans HV3.out
              have v0 : wr.cell? ⟨w.heap.size, 0, none⟩ = some (.int .u8 4) := (cell_of hvx 0).trans rfl
              have v1 : wr.cell? ⟨w.heap.size, 1, none⟩ = some (.int .i64 0) := (cell_of hvx 1).trans rfl
              have v2 : wr.cell? ⟨w.heap.size, 2, none⟩ = some (.int .i64 0) := (cell_of hvx 2).trans rfl
              have v3 : wr.cell? ⟨w.heap.size, 3, none⟩ = some (.int .i64 0) := (cell_of hvx 3).trans rfl
              have v4 : wr.cell? ⟨w.heap.size, 4, none⟩ = some (.int .i64 0) := (cell_of hvx 4).trans rfl
              clear hvx
              by_cases h19 : k = 19
              · subst h19
                go_wp2_with fail
                refine (WE.out _ _ (lit_readsP_at [.slice adw nw cpw, .slice (some ⟨wr.heap.size, 0, none⟩) 1 1] [WL 19, [vN]] 2 rfl (wr.alloc (Obj.cells #[.int .u8 4, .int .i64 0, .int .i64 0, .int .i64 0, .int .i64 0] 23)) (wr.heap.size + 1) (by simp) (fun i q hq => by
                  match i, hq with
                  | 0, hq => simp at hq; subst hq; exact ⟨_, rfl, HRW.out.below ((Below.refl _ wr).alloc (Nat.le_refl _) _)⟩
                  | 1, hq => simp at hq; subst hq; exact ⟨_, rfl, lit_reads [vN] 1 rfl wr⟩))).mono ?_
                rintro e w5 ⟨ad5, n5, cp5, rfl, hb⟩
                have hb2 : Below wr.heap.size wr w5 := below_box ((Below.refl _ wr).alloc (Nat.le_refl _) _) hb
                have HK6 := Lib.hid (below_then HK5.out hb2)
                clear hb hb2
                go_wp2_with fail
                go_roundg g
                case measure => omega
                case rel => exact ⟨20, by omega, by go_num, rfl, ⟨_, _, _, rfl⟩, Lib.hid (fun h => absurd h (by decide)), HK6⟩
              · go_wp2_with fail
                refine (WN.out k (by omega) _ _ (lit_readsP_at [.slice adw nw cpw, .slice (some ⟨wr.heap.size, 0, none⟩) 1 1] [WL k, [vN]] 2 rfl (wr.alloc (Obj.cells #[.int .u8 4, .int .i64 0, .int .i64 0, .int .i64 0, .int .i64 0] 23)) (wr.heap.size + 1) (by simp) (fun i q hq => by
                  match i, hq with
                  | 0, hq => simp at hq; subst hq; exact ⟨_, rfl, HRW.out.below ((Below.refl _ wr).alloc (Nat.le_refl _) _)⟩
                  | 1, hq => simp at hq; subst hq; exact ⟨_, rfl, lit_reads [vN] 1 rfl wr⟩))).mono ?_
                rintro e w5 ⟨vw, rfl, ho, hb⟩
                have hb2 : Below wr.heap.size wr w5 := below_box ((Below.refl _ wr).alloc (Nat.le_refl _) _) hb
                have HK6 := Lib.hid (below_then HK5.out hb2)
                have HRW2 := Lib.hid (own_readsN ho)
                obtain ⟨ad5, cp5, hsh⟩ := own_shape ho
                subst hsh
                clear hb ho hb2
                go_wp2_with fail
                go_roundg g
                case measure => omega
                case rel => exact ⟨k + 1, by omega, by go_num, by rw [if_neg (by omega)], ⟨_, _, _, rfl⟩, Lib.hid (fun _ => HRW2.out), HK6⟩
            | zero =>
              obtain rfl : k = 20 := by omega
              rw [if_pos rfl] at hc
              subst hc
              have HBw := Lib.hid (below_then HB3w.out HK5.out)
              clear hk HW
              go_wp2_with fail
              refine (example_any _).mono ?_
              rintro e w6 ⟨vE, rfl, hre, hb⟩
              have HB6 := Lib.hid (below_then HBw.out hb)
              have HE6 := Lib.hid hre
              clear hb hre
              go_wp2_with fail
              refine (SE.out _ _ HE6.out).mono ?_
              rintro e w7 ⟨xx, rfl, hb⟩
              have HB7 := Lib.hid (below_then HB6.out hb)
              clear hb
              go_wp2_with fail
              refine (example_any _).mono ?_
              rintro e w8 ⟨vE2, rfl, hre, hb⟩
              have HB8 := Lib.hid (below_then HB7.out hb)
              have HE8 := Lib.hid hre
              clear hb hre
              go_wp2_with fail
              refine (PE.out _ _ HE8.out).mono ?_
              rintro e w9 ⟨ad9, n9, cp9, rfl, hb⟩
              have HB9 := Lib.hid (below_then HB8.out hb)
              clear hb
              go_wp2_with fail
              refine (P0.out _).mono ?_
              rintro e w10 ⟨rfl, hb⟩
              have HB10 := Lib.hid (below_then HB9.out hb)
              clear hb
              go_wp2_with fail
              refine (P20.out _).mono ?_
              rintro e w11 ⟨rfl, hb⟩
              have HB11 := Lib.hid (below_then HB10.out hb)
              clear hb
              obtain ⟨wM, hmk, hown, hbm⟩ := make_nds w11 61 (by decide)
              have hmk2 : (Instr.makeSlice 24 (.int .i64 61) (.int .i64 61)).run Try.prog w11 = .ok (.slice (some ⟨w11.heap.size, 0, none⟩) 61 61) wM := hmk
              have HM := Lib.hid (own_readsN (l := List.replicate 61 zeroN) (by rw [List.length_replicate]; exact hown))
              have HBM := Lib.hid (below_then HB11.out hbm)
              clear hmk hown hbm
              go_wp2_with fail
              refine (C61.out _ _ HM.out).mono ?_
              rintro e w12 ⟨rfl, hb⟩
              have HB12 := Lib.hid (below_then HBM.out hb)
              clear hb hmk2
              go_wp2_with fail
              refine (alive_any _).mono ?_
              rintro e w13 ⟨rfl, hb⟩
              have HB13 := Lib.hid (below_then HB12.out hb)
              clear hb
              go_wp2_with fail
              go_ret
              exact ⟨rfl, HB13.out⟩
    | succ g =>
      have hlt : k < badsL.length := by show k < 19; omega
      obtain ⟨vi, hci, hri⟩ := HBad.out.2 k _ (List.getElem?_eq_getElem hlt)
      have hk19 : (k : Int) < 19 := by omega
      obtain ⟨p, hp⟩ : ∃ p, badsL[k] = p := ⟨_, rfl⟩
      have hmem : p ∈ badsL := hp ▸ List.getElem_mem hlt
      rw [hp] at hri
      obtain ⟨adi, capi, hsh⟩ := hri.shape
      subst hsh
      have HF := Lib.hid (bad_facts hmem)
      have HLn := Lib.hid (bad_check hmem).2
      have HI0 := Lib.hid hci
      have HR0 := Lib.hid hri
      have HNb := Lib.hid HBad.out.1
      have HWs : Hid (w.heap.size < wr.heap.size) := Lib.hid (by have := HBad.out.1; omega)
      clear hri hmem hp
      go_wp2_with fail
      refine (nodesDepth_any _ _ _ HR0.out (by have := HLn.out; omega)).mono ?_
      rintro e w1 ⟨rfl, hb⟩
      rw [HF.out.2.1]
      have HB1 := Lib.hid (below_then HB.out hb)
      have HK1 := Lib.hid hb
      have HR1 := Lib.hid (HR0.out.below hb)
      replace hci := (hb.cell (p := ⟨_, k, none⟩) HNb.out).trans HI0.out
      clear hb
      go_wp2_with fail
      refine (nodesSize_any _ _ _ _ HR1.out (by have := HLn.out; omega)).mono ?_
      rintro e w2 ⟨rfl, hb⟩
      rw [HF.out.2.2.1]
      have HB2 := Lib.hid (below_then HB1.out hb)
      have HK2 := Lib.hid (below_then HK1.out hb)
      have HR2 := Lib.hid (HR1.out.below hb)
      replace hci := (HK2.out.cell (p := ⟨_, k, none⟩) HNb.out).trans HI0.out
      clear hb
      go_wp2_with fail
      refine (nodesPart_any _ _ _ _ HR2.out (by have := HLn.out; omega)).mono ?_
      rintro e w3 ⟨vp, rfl, ho, hb⟩
      rw [HF.out.2.2.2.1]
      have HB3 := Lib.hid (below_then HB2.out hb)
      have HK3 := Lib.hid (below_then HK2.out hb)
      have HR3 := Lib.hid (HR2.out.below hb)
      replace hci := (HK3.out.cell (p := ⟨_, k, none⟩) HNb.out).trans HI0.out
      clear hb ho
      go_wp2_with fail
      have hnb2 : nb < w3.heap.size := Nat.lt_of_lt_of_le HNb.out HK3.out.size
      go_region_held3 (fun w' => w'.cell? { block := nb, off := k } = some (.slice adi p.length capi)) (go_keep) (first
        | (go_at_call 13; refine (example_any _).mono ?_; rintro e w4 ⟨vE, rfl, hre, hb4⟩; have hci4 := (hb4.cell (p := ⟨nb, k, none⟩) (by simpa using hnb2)).trans hci)
        | (go_at_call 12; refine (nodesSame_any _ _ _ exL _ (HR3.out.below (((Below.refl _ _).drew).trans hb4)) hre (by have := HLn.out; omega) (by decide)).mono ?_; rintro e w5 ⟨rfl, hb5⟩; rw [HF.out.2.2.2.2.1]; have hci5 := (hb5.cell (p := ⟨nb, k, none⟩) (Nat.lt_of_lt_of_le hnb2 hb4.size)).trans hci4))
      have hb35 : Below w3.heap.size w3 w5 := below_then (((Below.refl _ w3).drew).trans hb4) hb5
      have HB5 := Lib.hid (below_then HB3.out hb35)
      have HK5 := Lib.hid (below_then HK3.out hb35)
      have HR5 := Lib.hid (HR3.out.below hb35)
      clear hb35 hb4 hb5 hre hci hci4 hnb2
      have hci := hci5
      clear hci5
      have hnb2 : nb < w5.heap.size := Nat.lt_of_lt_of_le HNb.out HK5.out.size
      go_wp2_with fail
      go_region_held3 (fun w' => w'.cell? { block := nb, off := k } = some (.slice adi p.length capi)) (go_keep) (first
        | (go_at_call 13; refine (example_any _).mono ?_; rintro e w6 ⟨vE2, rfl, hre, hb6⟩; have hci6 := (hb6.cell (p := ⟨nb, k, none⟩) (by simpa using hnb2)).trans hci)
        | (go_at_call 12; refine (nodesSame_any _ _ exL _ _ hre (HR5.out.below (((Below.refl _ _).drew).trans hb6)) (by decide) (by have := HLn.out; omega)).mono ?_; rintro e w7 ⟨rfl, hb7⟩; rw [HF.out.2.2.2.2.2.1]; have hci7 := (hb7.cell (p := ⟨nb, k, none⟩) (Nat.lt_of_lt_of_le hnb2 hb6.size)).trans hci6))
      have hb57 : Below w5.heap.size w5 w7 := below_then (((Below.refl _ w5).drew).trans hb6) hb7
      have HB7 := Lib.hid (below_then HB5.out hb57)
      have HK7 := Lib.hid (below_then HK5.out hb57)
      have HR7 := Lib.hid (HR5.out.below hb57)
      clear hb57 hb6 hb7 hre hci hci6 hnb2
      have hci := hci7
      clear hci7
      go_wp2_with fail
      refine (nodesNode_any 5 0 0 _ [p] _ (lit_readsP [.slice adi p.length capi] [p] 1 rfl w7 (fun i q hq => by
        match i, hq with
        | 0, hq => simp at hq; subst hq; exact ⟨_, rfl, HR7.out⟩)) (by decide) (by decide) (fun q hq => by simp at hq; subst hq; have := HLn.out; omega) (by simp)).mono ?_
      rintro e w8 ⟨vn, rfl, ho, hb⟩
      rw [HF.out.2.2.2.2.2.2]
      have HB8 := Lib.hid (below_box HB7.out hb)
      have HK8 := Lib.hid (below_box HK7.out hb)
      have HR8 := Lib.hid ((HR7.out.below ((Below.refl _ w7).alloc (Nat.le_refl _) _)).below hb)
      replace hci := (HK8.out.cell (p := ⟨nb, k, none⟩) HNb.out).trans HI0.out
      clear hb ho
      go_wp2_with fail
      refine (nodesCheck_any _ _ _ HR8.out (by have := HLn.out; omega)).mono ?_
      rintro e w9 ⟨rfl, hb⟩
      rw [HF.out.1]
      have HB9 := Lib.hid (below_then HB8.out hb)
      have HK9 := Lib.hid (below_then HK8.out hb)
      clear hb
      go_wp2_with fail
      have hnb := HNB.out
      clear HNB
      subst hnb
      go_roundg g
      case measure => omega
      case rel => exact ⟨k + 1, by omega, by go_num, Lib.hid (HBad.out.below HK9.out), Lib.hid ((HK9.out.block w.heap.size HWs.out).trans HV.out), HB9⟩
end Go.Proofs.Ytbgkhibohkeikaa.Nodes

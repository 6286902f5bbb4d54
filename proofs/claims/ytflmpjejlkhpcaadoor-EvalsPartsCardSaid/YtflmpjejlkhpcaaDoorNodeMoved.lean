/-
  Contract of nodes.Part at the landed code (layer 4).
-/
import Derived.Test.YtflmpjejlkhpcaaDoorNodeAsks
import Derived.Test.YtflmpjejlkhpcaaDoorNodeShift
import Derived.Test.YtflmpjejlkhpcaaDoorRefCut
import Derived.Outline
namespace Go.Proofs.YtflmpjejlkhpcaaDoor.Nodes
open Go.ChangeShapes Go.WideShapes Go.ChangeAt Go.RowKit

set_option maxRecDepth 100000 in
theorem nodesPart_any (v : Value) (l : List Nd) (at_ : Int) (w : World) (hR : ReadsN w v l) (hn : l.length ≤ 1000000) :
    Calls Tryd.prog 24 #[v, .int .i64 at_] w (ListEnds (partV l at_) w) := by
  have S := Lib.hid (fun (W : World) h => nodesSize_any v l at_ W h hn)
  have HR := Lib.hid hR
  clear hR
  by_cases hc : checkV l = 0 ∧ 0 ≤ at_ ∧ at_ < l.length
  · obtain ⟨hc, h0, h1⟩ := hc
    obtain ⟨m, rfl⟩ : ∃ m : Nat, at_ = m := ⟨at_.toNat, by omega⟩
    have hm : m < l.length := by omega
    have HV := part_ok hc hm
    obtain ⟨hr, hpos, h60, _, _⟩ := check_acc hc
    have hsz := good_sz hr m hm
    obtain ⟨s, hs⟩ : ∃ s, sz (accV l) m = s := ⟨_, rfl⟩
    rw [size_ok hc hm, hs] at S
    rw [hs] at HV hsz
    obtain ⟨z1, z2, _, _⟩ := hsz
    obtain ⟨f, hf⟩ : ∃ f, m + 1 - s = f := ⟨_, rfl⟩
    have hfi : (m : Int) + 1 - s = f := by omega
    rw [cut_is l f s m hf] at HV
    have hlen : ((l.drop f).take s).length = s := by rw [List.length_take, List.length_drop]; omega
    have MV := Lib.hid (fun (v : Value) (W : World) h => moved_any v ((l.drop f).take s) (-(f : Int)) W h (by omega) (fun i hi => by
      rw [List.getElem_take, List.getElem_drop]; exact small_nodes hc (by omega)) (by omega) (by omega))
    have HVV := Lib.hid HV
    have HL := Lib.hid hlen
    obtain ⟨b, o, cap, rfl, hb, hnd⟩ : ∃ b o cap, v = .slice (some ⟨b, o, none⟩) l.length (l.length + cap) ∧ b < w.heap.size ∧ NdsAt w b o l := by
      rcases HR.out with ⟨rfl, _⟩ | h
      · simp at hm
      · exact h
    have HN := Lib.hid (And.intro hb hnd)
    have hm1 : f + s ≤ l.length := by omega
    have hm2 : (m : Int) + 1 = ((f + s : Nat) : Int) := by omega
    have hm3 : f + s ≤ l.length + cap := by omega
    have hm4 : f ≤ f + s := by omega
    have hm5 : s ≤ l.length + cap - f := by omega
    clear hc h0 h1 hr hs HV hlen hb hnd
    go_enter Tryd.func24, Tryd.ntmps24
    go_wp2_with fail
    refine (S.out _ HR.out).mono ?_
    rintro e w2 ⟨rfl, hb⟩
    have HB := Lib.hid hb
    have HR2 := Lib.hid (HR.out.below hb)
    clear hb
    go_wp2_with fail
    refine (MV.out _ _ (slice_reads (Nat.lt_of_lt_of_le HN.out.1 HB.out.size) (fun i x hx => (HN.out.2 i x hx).below HN.out.1 HB.out) hm1 hm5)).mono ?_
    rintro e w3 ⟨vo, rfl, ho, hb⟩
    have HB3 := Lib.hid (below_then HB.out hb)
    have HO := Lib.hid ho
    clear hb ho
    go_wp2_with fail
    go_ret2
    refine ⟨vo, ?_, ?_, HB3.out⟩
    · rw [HVV.out]; rfl
    · rw [HVV.out]
      have := own_lower HO.out HB.out.size
      simp only [List.length_map]
      exact this
  · have HV : Hid (∃ er, sizeV l at_ = (0, er) ∧ partV l at_ = ([], er) ∧ er ≠ 0) := Lib.hid (by
      unfold sizeV partV
      by_cases h : checkV l = 0
      · rw [if_pos h, if_pos h, if_neg (fun h' => hc ⟨h, h'⟩), if_neg (fun h' => hc ⟨h, h'⟩)]
        exact ⟨2, rfl, rfl, by decide⟩
      · rw [if_neg h, if_neg h]
        exact ⟨_, rfl, rfl, h⟩)
    clear hc
    obtain ⟨er, h1, h2, h3⟩ := HV.out
    rw [h1] at S
    have H2 := Lib.hid h2
    have q1 : (er != 0) = true := by rw [bne_iff_ne]; exact h3
    clear h1 h2 h3 HV
    go_enter Tryd.func24, Tryd.ntmps24
    go_wp2_with fail
    refine (S.out _ HR.out).mono ?_
    rintro e w2 ⟨rfl, hb⟩
    have HB := Lib.hid hb
    clear hb
    go_wp2_with fail
    go_ret2
    refine ⟨.slice none 0 0, ?_, ?_, HB.out⟩
    · rw [H2.out]; rfl
    · rw [H2.out]; exact World.ownsRow_nil _ _ _ _
end Go.Proofs.YtflmpjejlkhpcaaDoor.Nodes

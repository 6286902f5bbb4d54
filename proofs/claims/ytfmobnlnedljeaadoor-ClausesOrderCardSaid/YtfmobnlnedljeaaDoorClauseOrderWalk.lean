/-
  Walk of the statement ClausesOrder: which sources are valid does not depend on their order; names and sources are a bijection.
-/
import Derived.Test.YtfmobnlnedljeaaDoorQyState
import Derived.Test.YtfmobnlnedljeaaDoorRefTwin
import Derived.Test.YtfmobnlnedljeaaDoorStepAppend
import Derived.Outline
namespace Go.Proofs.YtfmobnlnedljeaaDoor.Nodes
open Go.ChangeShapes Go.WideShapes Go.ChangeAt Go.RowKit

theorem drop_cells {w : World} {b o : Nat} {l : List Int} {c k : Nat} (hb : b < w.heap.size) (ht : IntsAt w b o l) : ∀ W, Below w.heap.size w W → ∀ q, (if c = k then some (⟨b, o, none⟩ : Addr) else some ⟨b, o + k, none⟩) = some q → l.length ≤ c → ∀ j u, (rowI (l.drop k))[j]? = some u → W.cell? (q.add j) = some u := by
  intro W hW q hq hc j u hu
  unfold rowI at hu
  rw [List.getElem?_map, List.getElem?_drop] at hu
  cases hx : l[k + j]? with
  | none => rw [hx] at hu; cases hu
  | some x =>
    rw [hx] at hu
    cases hu
    have hlt := (List.getElem?_eq_some_iff.1 hx).1
    rw [if_neg (by omega)] at hq
    cases hq
    rw [Addr.add_mid, Nat.add_assoc]
    exact (hW.cell (p := ⟨b, _, none⟩) hb).trans (ht _ x hx)
theorem take_cells {w : World} {b o : Nat} {l : List Int} {k : Nat} (hb : b < w.heap.size) (ht : IntsAt w b o l) : ∀ W, Below w.heap.size w W → ∀ q, some (⟨b, o, none⟩ : Addr) = some q → ∀ j u, (rowI (l.take k))[j]? = some u → W.cell? (q.add j) = some u := by
  intro W hW q hq j u hu
  cases hq
  unfold rowI at hu
  rw [List.getElem?_map] at hu
  cases hx : (l.take k)[j]? with
  | none => rw [hx] at hu; cases hu
  | some x =>
    rw [hx] at hu
    cases hu
    rw [Addr.add_mid]
    refine (hW.cell (p := ⟨b, _, none⟩) hb).trans (ht _ x ?_)
    rw [List.getElem?_take] at hx
    split at hx
    · exact hx
    · cases hx
theorem turned_reads {w : World} {base g N cap k : Nat} {l : List Int} (hk : k ≤ l.length) (hN : N = (l.length - k) + k) (h : w.ownsRow base 3 1 (.slice (some ⟨g, 0, none⟩) N cap) N (([] ++ rowI (l.drop k)) ++ rowI (l.take k))) : ReadsI w (.slice (some ⟨g, 0, none⟩) N cap) (l.drop k ++ l.take k) := by
  have e : N = (l.drop k ++ l.take k).length := by rw [List.length_append, List.length_drop, List.length_take]; omega
  have hr : ([] ++ rowI (l.drop k)) ++ rowI (l.take k) = rowI (l.drop k ++ l.take k) := by unfold rowI; simp
  rw [hr] at h
  subst e
  exact own_readsI h
set_option maxRecDepth 100000 in
set_option maxHeartbeats 4000000 in
theorem order_walk (v : Value) (l : List Int) (join : Bool) (at_ : Int) (w : World) (hf : NameFix w) (hR : ReadsI w v l) (hn : l.length ≤ 9223372036854775807) (hat : at_ ≤ 9223372036854775807) :
    Calls Tryd.prog 8 #[v, .bool join, .int .i64 at_] w fun e w' => e = .returned (.bool true) ∧ Below w.heap.size w w' := by
  have AL := Lib.hid (fun (W : World) (h : Below w.heap.size w W) => alive8_any W (hf.below h))
  by_cases h4 : 4 < l.length
  · have q1 : (4 : Int) < l.length := by omega
    obtain ⟨ad, cap, rfl⟩ := hR.shape
    clear hR hf h4
    go_enter Tryd.func8, Tryd.ntmps8
    go_wp2_with fail
    refine (AL.out _ (Below.refl _ _)).mono ?_
    rintro e w1 ⟨rfl, hb⟩
    have HB := Lib.hid hb
    clear hb
    go_wp2_with fail
    go_ret
    exact ⟨rfl, HB.out⟩
  have q1 : ¬ (4 : Int) < l.length := by omega
  by_cases h0 : at_ < 0
  · obtain ⟨ad, cap, rfl⟩ := hR.shape
    clear hR hf h4
    go_enter Tryd.func8, Tryd.ntmps8
    go_wp2_with fail
    refine (AL.out _ (Below.refl _ _)).mono ?_
    rintro e w1 ⟨rfl, hb⟩
    have HB := Lib.hid hb
    clear hb
    go_wp2_with fail
    go_ret
    exact ⟨rfl, HB.out⟩
  have q2 : decide (at_ < 0) = false := decide_eq_false h0
  by_cases h5 : (l.length : Int) < at_
  · have q3 : decide ((l.length : Int) < at_) = true := decide_eq_true h5
    obtain ⟨ad, cap, rfl⟩ := hR.shape
    clear hR hf h4 h0
    go_enter Tryd.func8, Tryd.ntmps8
    go_wp2_with fail
    refine (AL.out _ (Below.refl _ _)).mono ?_
    rintro e w1 ⟨rfl, hb⟩
    have HB := Lib.hid hb
    clear hb
    go_wp2_with fail
    go_ret
    exact ⟨rfl, HB.out⟩
  have q3 : decide ((l.length : Int) < at_) = false := decide_eq_false h5
  obtain ⟨k, rfl⟩ : ∃ k : Nat, at_ = k := ⟨at_.toNat, by omega⟩
  have hk : k ≤ l.length := by omega
  have SR := Lib.hid (fun (W : World) (h : Below w.heap.size w W) => clSources_any v l join W (hf.below h) (hR.below h) hn)
  have ST := Lib.hid (fun (v' : Value) (W : World) (h : Below w.heap.size w W) (hr : ReadsI W v' (l.drop k ++ l.take k)) => clSources_any v' _ join W (hf.below h) hr (by rw [List.length_append, List.length_drop, List.length_take]; omega))
  have NM := Lib.hid (fun n (W : World) (h : Below w.heap.size w W) => by_same (clName_any n W (hf.below h)))
  have SM := Lib.hid (fun s (W : World) (h : Below w.heap.size w W) => by_same (clSource_any s W (hf.below h)))
  rw [sources_turned] at ST
  obtain ⟨c0, hc0⟩ : ∃ c, sourcesV l join = c := ⟨_, rfl⟩
  rw [hc0] at SR ST
  clear hc0 hf h0 h4 h5 hn
  obtain ⟨j0, hj, hy0, hy1, hy2⟩ := info_parts info_int8
  have HJ := Lib.hid (And.intro hj (And.intro hy0 (And.intro hy1 hy2)))
  clear hj hy0 hy1 hy2
  rcases hR with ⟨rfl, ad, cap, rfl⟩ | ⟨b, o, more, hv, hb, ht⟩
  · obtain rfl : k = 0 := by simpa using hk
    have U0 : Hid (Below w.heap.size w (w.alloc (Obj.cells #[] 3)).drew) := Lib.hid (Below.drew (box_below _ _))
    have HT : Hid (ReadsI (w.alloc (Obj.cells #[] 3)).drew (.slice (some ⟨w.heap.size, 0, none⟩) 0 0) (([] : List Int).drop 0 ++ ([] : List Int).take 0)) := Lib.hid (.inl ⟨rfl, _, _, rfl⟩)
    cases ad with
    | none =>
      go_enter Tryd.func8, Tryd.ntmps8
      go_wp2_with fail
      go_region_law (fail)
      go_wp2_with fail
      refine (SR.out _ U0.out).mono ?_
      rintro e w5 ⟨rfl, hb⟩
      have T1 := Lib.hid (below_then U0.out hb)
      have HT1 := Lib.hid (HT.out.below hb)
      clear hb
      go_wp2_with fail
      refine (ST.out _ _ T1.out HT1.out).mono ?_
      rintro e w6 ⟨rfl, hb⟩
      have T2 := Lib.hid (below_then T1.out hb)
      clear hb
      go_wp2_with fail
      go_loopg [8] 4 (fun g i wx => ∃ k : Nat, k + g = 4 ∧ i = .int .i64 k ∧ Hid (Below w.heap.size w wx))
      case atStart => exact ⟨0, by omega, rfl, T2⟩
      case round =>
        obtain ⟨i, hi, rfl, TX⟩ := hrel
        cases gk with
        | zero =>
          obtain rfl : i = 4 := by omega
          clear hi
          go_wp2_with fail
          refine (AL.out _ TX.out).mono ?_
          rintro e w7 ⟨rfl, hb⟩
          have T3 := Lib.hid (below_then TX.out hb)
          clear hb
          go_wp2_with fail
          go_ret
          exact ⟨rfl, T3.out⟩
        | succ g =>
          have hi4 : i < 4 := by omega
          have hi4' : (i : Int) < 4 := by omega
          have NA := Lib.hid (NM.out (i : Int) wr TX.out)
          have SA := Lib.hid (SM.out (nameAt i))
          rw [nameV_in hi4] at NA
          rw [(source_name i hi4).1] at SA
          have hsz : ((nameAt i).size : Int) = 1 := by rw [(source_name i hi4).2]; rfl
          have hsz2 : (nameAt i).size = 1 := (source_name i hi4).2
          obtain ⟨x, hx⟩ : ∃ x, nameAt i = x := ⟨_, rfl⟩
          rw [hx] at NA SA hsz hsz2
          clear hx
          go_wp2_with fail
          refine NA.out.mono ?_
          rintro e w7 ⟨rfl, hb⟩
          have T3 := Lib.hid (below_then TX.out hb)
          clear hb
          go_wp2_with fail
          refine (SA.out _ T3.out).mono ?_
          rintro e w8 ⟨rfl, hb⟩
          have T4 := Lib.hid (below_then T3.out hb)
          clear hb
          go_wp2_with fail
          go_roundg g
          case measure => omega
          case rel => exact ⟨i + 1, by omega, by go_num, T4⟩
    | some a0 =>
      go_enter Tryd.func8, Tryd.ntmps8
      go_wp2_with fail
      go_region_law (fail)
      go_wp2_with fail
      refine (SR.out _ U0.out).mono ?_
      rintro e w5 ⟨rfl, hb⟩
      have T1 := Lib.hid (below_then U0.out hb)
      have HT1 := Lib.hid (HT.out.below hb)
      clear hb
      go_wp2_with fail
      refine (ST.out _ _ T1.out HT1.out).mono ?_
      rintro e w6 ⟨rfl, hb⟩
      have T2 := Lib.hid (below_then T1.out hb)
      clear hb
      go_wp2_with fail
      go_loopg [8] 4 (fun g i wx => ∃ k : Nat, k + g = 4 ∧ i = .int .i64 k ∧ Hid (Below w.heap.size w wx))
      case atStart => exact ⟨0, by omega, rfl, T2⟩
      case round =>
        obtain ⟨i, hi, rfl, TX⟩ := hrel
        cases gk with
        | zero =>
          obtain rfl : i = 4 := by omega
          clear hi
          go_wp2_with fail
          refine (AL.out _ TX.out).mono ?_
          rintro e w7 ⟨rfl, hb⟩
          have T3 := Lib.hid (below_then TX.out hb)
          clear hb
          go_wp2_with fail
          go_ret
          exact ⟨rfl, T3.out⟩
        | succ g =>
          have hi4 : i < 4 := by omega
          have hi4' : (i : Int) < 4 := by omega
          have NA := Lib.hid (NM.out (i : Int) wr TX.out)
          have SA := Lib.hid (SM.out (nameAt i))
          rw [nameV_in hi4] at NA
          rw [(source_name i hi4).1] at SA
          have hsz : ((nameAt i).size : Int) = 1 := by rw [(source_name i hi4).2]; rfl
          have hsz2 : (nameAt i).size = 1 := (source_name i hi4).2
          obtain ⟨x, hx⟩ : ∃ x, nameAt i = x := ⟨_, rfl⟩
          rw [hx] at NA SA hsz hsz2
          clear hx
          go_wp2_with fail
          refine NA.out.mono ?_
          rintro e w7 ⟨rfl, hb⟩
          have T3 := Lib.hid (below_then TX.out hb)
          clear hb
          go_wp2_with fail
          refine (SA.out _ T3.out).mono ?_
          rintro e w8 ⟨rfl, hb⟩
          have T4 := Lib.hid (below_then T3.out hb)
          clear hb
          go_wp2_with fail
          go_roundg g
          case measure => omega
          case rel => exact ⟨i + 1, by omega, by go_num, T4⟩
  · obtain ⟨C, hC⟩ : ∃ C, l.length + more = C := ⟨_, rfl⟩
    rw [hC] at hv
    subst hv
    have hki : (k : Int) ≤ l.length := by omega
    have hkc : k ≤ C := by omega
    have hkd : (k : Int) ≤ (C : Int) := by omega
    have U0 : Hid (Below w.heap.size w (w.alloc (Obj.cells #[] 3)).drew) := Lib.hid (Below.drew (box_below _ _))
    have O0 : Hid ((w.alloc (Obj.cells #[] 3)).drew.ownsRow w.heap.size 3 1 (.slice (some ⟨w.heap.size, 0, none⟩) 0 0) 0 []) := Lib.hid (World.ownsRow_made (base := w.heap.size) (size := 1) (e := 3) w #[] 0 (Nat.le_refl _) (Nat.zero_le _) rfl).drew
    have HC1 := Lib.hid (fun q hq => drop_cells (c := C) (k := k) hb ht _ U0.out q hq (by omega))
    have HC2 := Lib.hid (fun W h => take_cells (k := k) hb ht W h)
    have HL1 : Hid ((rowI (l.drop k)).length = (l.length - k) * 1) := Lib.hid (by rw [rowI_len, List.length_drop]; omega)
    have HL2 : Hid ((rowI (l.take k)).length = k * 1) := Lib.hid (by rw [rowI_len, List.length_take]; omega)
    have HN : Hid ((if C = k then some (⟨b, o, none⟩ : Addr) else some ⟨b, o + k, none⟩) = none → l.length - k = 0) := Lib.hid (by intro e; split at e <;> cases e)
    have B1 : Hid (0 + (l.length - k) ≤ maxLen ∧ (0 + (l.length - k)) * 8 ≤ 140737488355328) := Lib.hid (by unfold maxLen; omega)
    have B2 : Hid (∀ N, N = 0 + (l.length - k) → N + k ≤ maxLen ∧ (N + k) * 8 ≤ 140737488355328) := Lib.hid (by intro N h; unfold maxLen; omega)
    have HNN : Hid ((some (⟨b, o, none⟩ : Addr)) = none → k = 0) := Lib.hid (fun e => by cases e)
    by_cases hx : C = k
    · subst hx
      rw [if_pos rfl] at HN HC1
      clear hC
      go_enter Tryd.func8, Tryd.ntmps8
      go_wp2_with fail
      go_region_law (first
        | (refine step_append_all rfl (.tmp 27) (.tmp 30) 29 rfl w.heap.size 3 j0 (.int .i64 0) 1 8 Tryd.underlying29 HJ.out.1 HJ.out.2.1 HJ.out.2.2.1 HJ.out.2.2.2 rfl Nat.one_pos w.heap.size 0 0 rfl [] O0.out _ _ _ (rowI (l.drop C)) rfl HL1.out HN.out HC1.out (rowI_one _) B1.out.1 B1.out.2 U0.out.size ?_; intro g1 N1 cp1 w1 hN1 hown1 hgrow1; have U1 := Lib.hid (U0.out.grown hgrow1 U0.out.size (fun k e => by injection e with e; omega)); have O1 := Lib.hid hown1; have HN1 := Lib.hid hN1; clear hown1 hgrow1 hN1)
        | (refine step_append_all rfl (.tmp 31) (.tmp 34) 29 rfl w.heap.size 3 j0 (.int .i64 0) 1 8 Tryd.underlying29 HJ.out.1 HJ.out.2.1 HJ.out.2.2.1 HJ.out.2.2.2 rfl Nat.one_pos _ _ _ rfl _ (‹Hid (World.ownsRow _ _ _ _ (.slice _ _ _) _ ([] ++ rowI (l.drop C)))›).out _ C _ (rowI (l.take C)) rfl HL2.out HNN.out (HC2.out _ (‹Hid (Below w.heap.size w _)›).out) (rowI_one _) (B2.out _ (‹Hid (_ = 0 + (l.length - C))›).out).1 (B2.out _ (‹Hid (_ = 0 + (l.length - C))›).out).2 (‹Hid (Below w.heap.size w _)›).out.size ?_; intro g2 N2 cp2 w2 hN2 hown2 hgrow2; have O2 := Lib.hid hown2; have HN2 := Lib.hid hN2; have G2 := Lib.hid hgrow2; clear hown2 hN2 hgrow2))
      have hN : N2 = (l.length - C) + C := by
        have a := HN1.out
        have b := HN2.out
        omega
      have U2 := Lib.hid (U1.out.grown G2.out U1.out.size (fun k' e => by injection e with e; have := (O1.out.lt g1 rfl).1; omega))
      have HT := Lib.hid (turned_reads hk hN O2.out)
      clear hN
      go_wp2_with fail
      refine (SR.out _ U2.out).mono ?_
      rintro e w5 ⟨rfl, hb⟩
      have T1 := Lib.hid (below_then U2.out hb)
      have HT1 := Lib.hid (HT.out.below hb)
      clear hb
      go_wp2_with fail
      refine (ST.out _ _ T1.out HT1.out).mono ?_
      rintro e w6 ⟨rfl, hb⟩
      have T2 := Lib.hid (below_then T1.out hb)
      clear hb
      go_wp2_with fail
      go_loopg [8] 4 (fun g i wx => ∃ k : Nat, k + g = 4 ∧ i = .int .i64 k ∧ Hid (Below w.heap.size w wx))
      case atStart => exact ⟨0, by omega, rfl, T2⟩
      case round =>
        obtain ⟨i, hi, rfl, TX⟩ := hrel
        cases gk with
        | zero =>
          obtain rfl : i = 4 := by omega
          clear hi
          go_wp2_with fail
          refine (AL.out _ TX.out).mono ?_
          rintro e w7 ⟨rfl, hb⟩
          have T3 := Lib.hid (below_then TX.out hb)
          clear hb
          go_wp2_with fail
          go_ret
          exact ⟨rfl, T3.out⟩
        | succ g =>
          have hi4 : i < 4 := by omega
          have hi4' : (i : Int) < 4 := by omega
          have NA := Lib.hid (NM.out (i : Int) wr TX.out)
          have SA := Lib.hid (SM.out (nameAt i))
          rw [nameV_in hi4] at NA
          rw [(source_name i hi4).1] at SA
          have hsz : ((nameAt i).size : Int) = 1 := by rw [(source_name i hi4).2]; rfl
          have hsz2 : (nameAt i).size = 1 := (source_name i hi4).2
          obtain ⟨x, hx⟩ : ∃ x, nameAt i = x := ⟨_, rfl⟩
          rw [hx] at NA SA hsz hsz2
          clear hx
          go_wp2_with fail
          refine NA.out.mono ?_
          rintro e w7 ⟨rfl, hb⟩
          have T3 := Lib.hid (below_then TX.out hb)
          clear hb
          go_wp2_with fail
          refine (SA.out _ T3.out).mono ?_
          rintro e w8 ⟨rfl, hb⟩
          have T4 := Lib.hid (below_then T3.out hb)
          clear hb
          go_wp2_with fail
          go_roundg g
          case measure => omega
          case rel => exact ⟨i + 1, by omega, by go_num, T4⟩
    · rw [if_neg hx] at HN HC1
      clear hC
      go_enter Tryd.func8, Tryd.ntmps8
      go_wp2_with fail
      go_region_law (first
        | (refine step_append_all rfl (.tmp 27) (.tmp 30) 29 rfl w.heap.size 3 j0 (.int .i64 0) 1 8 Tryd.underlying29 HJ.out.1 HJ.out.2.1 HJ.out.2.2.1 HJ.out.2.2.2 rfl Nat.one_pos w.heap.size 0 0 rfl [] O0.out _ _ _ (rowI (l.drop k)) rfl HL1.out HN.out HC1.out (rowI_one _) B1.out.1 B1.out.2 U0.out.size ?_; intro g1 N1 cp1 w1 hN1 hown1 hgrow1; have U1 := Lib.hid (U0.out.grown hgrow1 U0.out.size (fun k e => by injection e with e; omega)); have O1 := Lib.hid hown1; have HN1 := Lib.hid hN1; clear hown1 hgrow1 hN1)
        | (refine step_append_all rfl (.tmp 31) (.tmp 34) 29 rfl w.heap.size 3 j0 (.int .i64 0) 1 8 Tryd.underlying29 HJ.out.1 HJ.out.2.1 HJ.out.2.2.1 HJ.out.2.2.2 rfl Nat.one_pos _ _ _ rfl _ (‹Hid (World.ownsRow _ _ _ _ (.slice _ _ _) _ ([] ++ rowI (l.drop k)))›).out _ k _ (rowI (l.take k)) rfl HL2.out HNN.out (HC2.out _ (‹Hid (Below w.heap.size w _)›).out) (rowI_one _) (B2.out _ (‹Hid (_ = 0 + (l.length - k))›).out).1 (B2.out _ (‹Hid (_ = 0 + (l.length - k))›).out).2 (‹Hid (Below w.heap.size w _)›).out.size ?_; intro g2 N2 cp2 w2 hN2 hown2 hgrow2; have O2 := Lib.hid hown2; have HN2 := Lib.hid hN2; have G2 := Lib.hid hgrow2; clear hown2 hN2 hgrow2))
      have hN : N2 = (l.length - k) + k := by
        have a := HN1.out
        have b := HN2.out
        omega
      have U2 := Lib.hid (U1.out.grown G2.out U1.out.size (fun k' e => by injection e with e; have := (O1.out.lt g1 rfl).1; omega))
      have HT := Lib.hid (turned_reads hk hN O2.out)
      clear hN
      go_wp2_with fail
      refine (SR.out _ U2.out).mono ?_
      rintro e w5 ⟨rfl, hb⟩
      have T1 := Lib.hid (below_then U2.out hb)
      have HT1 := Lib.hid (HT.out.below hb)
      clear hb
      go_wp2_with fail
      refine (ST.out _ _ T1.out HT1.out).mono ?_
      rintro e w6 ⟨rfl, hb⟩
      have T2 := Lib.hid (below_then T1.out hb)
      clear hb
      go_wp2_with fail
      go_loopg [8] 4 (fun g i wx => ∃ k : Nat, k + g = 4 ∧ i = .int .i64 k ∧ Hid (Below w.heap.size w wx))
      case atStart => exact ⟨0, by omega, rfl, T2⟩
      case round =>
        obtain ⟨i, hi, rfl, TX⟩ := hrel
        cases gk with
        | zero =>
          obtain rfl : i = 4 := by omega
          clear hi
          go_wp2_with fail
          refine (AL.out _ TX.out).mono ?_
          rintro e w7 ⟨rfl, hb⟩
          have T3 := Lib.hid (below_then TX.out hb)
          clear hb
          go_wp2_with fail
          go_ret
          exact ⟨rfl, T3.out⟩
        | succ g =>
          have hi4 : i < 4 := by omega
          have hi4' : (i : Int) < 4 := by omega
          have NA := Lib.hid (NM.out (i : Int) wr TX.out)
          have SA := Lib.hid (SM.out (nameAt i))
          rw [nameV_in hi4] at NA
          rw [(source_name i hi4).1] at SA
          have hsz : ((nameAt i).size : Int) = 1 := by rw [(source_name i hi4).2]; rfl
          have hsz2 : (nameAt i).size = 1 := (source_name i hi4).2
          obtain ⟨x, hx⟩ : ∃ x, nameAt i = x := ⟨_, rfl⟩
          rw [hx] at NA SA hsz hsz2
          clear hx
          go_wp2_with fail
          refine NA.out.mono ?_
          rintro e w7 ⟨rfl, hb⟩
          have T3 := Lib.hid (below_then TX.out hb)
          clear hb
          go_wp2_with fail
          refine (SA.out _ T3.out).mono ?_
          rintro e w8 ⟨rfl, hb⟩
          have T4 := Lib.hid (below_then T3.out hb)
          clear hb
          go_wp2_with fail
          go_roundg g
          case measure => omega
          case rel => exact ⟨i + 1, by omega, by go_num, T4⟩
end Go.Proofs.YtfmobnlnedljeaaDoor.Nodes

/-
  The walk of layer 5's statement ExprsCounts: it returns true.
-/
import Derived.Test.YtbhipjinoammjaaDoorPackE1
import Derived.Test.YtbhipjinoammjaaDoorRefGreat
import Derived.Outline
namespace Go.Proofs.YtbhipjinoammjaaDoor.ExprW
open Nodes Exprs
open Go.ChangeShapes Go.WideShapes Go.ChangeAt Go.RowKit

theorem not_great {ts : List Tok} (h : greatB ts = false) : ts.length ≤ 220 ∧ ∀ t ∈ ts, t.text.length ≤ 500 := by
  unfold greatB at h
  rw [Bool.or_eq_false_iff, decide_eq_false_iff_not] at h
  obtain ⟨h1, h2⟩ := h
  have hl : ts.length ≤ 220 := by omega
  rw [List.take_of_length_le hl] at h2
  refine ⟨hl, fun t ht => ?_⟩
  have := List.any_eq_false.1 h2 t ht
  unfold bigTok at this
  simpa using this
/-! ### How many of each place -/
def zeros : Array Value := Array.replicate 401 (.int .i64 0)
set_option maxRecDepth 100000 in
theorem run_zeros (w : World) : (zeroValue 44).run Tryd.prog w = .ok (.agg zeros) w := by kernel_rfl
/-- Each place's count, in a block of the call's own: how often it is in the first list, less how often in the second. -/
structure Ats (w : World) (nb : Nat) (a b : List Int) (W : World) : Prop where
  cell : ∀ v : Nat, v < 401 → W.cell? ⟨nb, v, none⟩ = some (.int .i64 ((a.count (v : Int) : Int) - (b.count (v : Int) : Int)))
  free : ∀ v : Nat, v < 401 → W.frozen? ⟨nb, v, none⟩ = false
  base : w.heap.size ≤ nb
  below : Below w.heap.size w W
  size : nb < W.heap.size
theorem Ats.start {w W : World} (hb : Below w.heap.size w W) : Ats w W.heap.size [] [] (W.alloc (Obj.cells zeros 44)) where
  cell := fun v hv => by
    rw [World.cell?_alloc_at _ _ _ _ rfl]
    unfold zeros
    rw [Array.getElem?_replicate, if_pos hv]
    rfl
  free := fun v _ => by simp [go_sem]
  base := hb.size
  below := hb.alloc hb.size _
  size := by simp
theorem Ats.later {w W W' : World} {nb : Nat} {a b : List Int} (h : Ats w nb a b W) (hb : Below W.heap.size W W') : Ats w nb a b W' where
  cell := fun v hv => (hb.cell (p := ⟨nb, v, none⟩) h.size).trans (h.cell v hv)
  free := fun v hv => (hb.frozen (p := ⟨nb, v, none⟩) h.size).trans (h.free v hv)
  base := h.base
  below := below_step h.below hb
  size := Nat.lt_of_lt_of_le h.size hb.size
theorem Ats.set {w W : World} {nb : Nat} {a b a' b' : List Int} (h : Ats w nb a b W) {v : Nat} (hv : v < 401) {n : Int} (hn : n = (a'.count (v : Int) : Int) - (b'.count (v : Int) : Int)) (ho : ∀ u : Nat, u ≠ v → a'.count (u : Int) = a.count (u : Int) ∧ b'.count (u : Int) = b.count (u : Int)) :
    Ats w nb a' b' (W.setCell ⟨nb, v, none⟩ (.int .i64 n)) where
  cell := fun u hu => by
    by_cases e : u = v
    · subst e
      rw [World.cell?_setCell_same _ _ _ (h.cell u hu), hn]
    · rw [World.cell?_setCell_other _ _ _ _ (by intro h; exact e (congrArg Addr.off h).symm), h.cell u hu, (ho u e).1, (ho u e).2]
  free := fun u hu => by rw [World.frozen?_setCell]; exact h.free u hu
  base := h.base
  below := h.below.setCell h.base _
  size := by simpa [World.setCell] using h.size
theorem Ats.more {w W : World} {nb : Nat} {a b : List Int} (h : Ats w nb a b W) {v : Nat} (hv : v < 401) {n : Int} (hn : n = (a.count (v : Int) : Int) - (b.count (v : Int) : Int) + 1) : Ats w nb (a ++ [(v : Int)]) b (W.setCell ⟨nb, v, none⟩ (.int .i64 n)) :=
  h.set hv (by rw [hn, List.count_append]; simp; omega) fun u hu => ⟨by rw [List.count_append, List.count_singleton, if_neg (by simp; omega)]; rfl, rfl⟩
theorem Ats.less {w W : World} {nb : Nat} {a b : List Int} (h : Ats w nb a b W) {v : Nat} (hv : v < 401) {n : Int} (hn : n = (a.count (v : Int) : Int) - (b.count (v : Int) : Int) - 1) : Ats w nb a (b ++ [(v : Int)]) (W.setCell ⟨nb, v, none⟩ (.int .i64 n)) :=
  h.set hv (by rw [hn, List.count_append]; simp; omega) fun u hu => ⟨rfl, by rw [List.count_append, List.count_singleton, if_neg (by simp; omega)]; rfl⟩

/-! ### One token more -/
theorem take_more {ts : List Tok} {m j : Nat} (h : m + j < ts.length) : (ts.drop m).take (j + 1) = (ts.drop m).take j ++ [ts[m + j]] := by
  rw [List.take_succ_eq_append_getElem (by rw [List.length_drop]; omega), List.getElem_drop]
theorem count_more (a : List Tok) (t : Tok) : countV (a ++ [t]) = countV a + if braB t then 0 else 1 := by
  unfold countV
  rw [List.filter_append, List.length_append]
  cases h : braB t <;> simp [h]
theorem places_more (a : List Tok) (t : Tok) : placesV (a ++ [t]) = placesV a ++ if braB t then [] else [t.at_] := by
  unfold placesV
  rw [List.filter_append, List.map_append]
  cases h : braB t <;> simp [h]
theorem count_le (a : List Tok) : countV a ≤ a.length := List.length_filter_le _ _
theorem places_len (a : List Tok) : (placesV a).length = countV a := by unfold placesV countV; rw [List.length_map]
theorem open_le (a : List Tok) : openV a ≤ a.length := by
  induction a with
  | nil => exact Int.le_refl _
  | cons t a ih =>
    show (if braB t then (if t.text = [40] then 1 else -1) else 0) + openV a ≤ ((a.length + 1 : Nat) : Int)
    split
    · split <;> omega
    · omega
theorem bra_same (t : Tok) (x : ByteArray) (h : x.data.toList = t.text) : braV t.kind x = braB t := by unfold braV braB; rw [h]
theorem count_bound (a : List Int) (u : Int) {n : Nat} (h : a.length ≤ n) : 0 ≤ (a.count u : Int) ∧ (a.count u : Int) ≤ n := by
  have := List.count_le_length (a := u) (l := a)
  omega
set_option maxRecDepth 100000 in
set_option maxHeartbeats 4000000 in
theorem counts_walk (v : Value) (ts : List Tok) (at_ : Int) (w : World) (hf : ExprFix w) (hR : Go.Proofs.YtbhipjinoammjaaDoor.Reads w v ts) (hn : ts.length ≤ 9223372036854775807) :
    Calls Tryd.prog 5 #[v, .int .i64 at_] w fun e w' => e = .returned (.bool true) ∧ Below w.heap.size w w' := by
  have F := Lib.hid hf
  have R := Lib.hid hR
  have AL := Lib.hid alive_any
  have G := Lib.hid (great_any v ts w hR hn)
  cases hg : greatB ts
  · rw [hg] at G
    obtain ⟨h220, h500⟩ := not_great hg
    have hx : ∀ t ∈ ts, t.text.length ≤ 281474976710656 := fun t ht => by have := h500 t ht; omega
    have A := Lib.hid (fun W hW => asked_any v ts at_ W hW hx)
    cases ha : (askedV ts at_ != 0)
    · have ha0 : askedV ts at_ = 0 := by rwa [bne_eq_false_iff_eq] at ha
      rw [ha0] at A
      obtain ⟨h200, hall, hat0, hat1⟩ := asked_ok.1 ha0
      obtain ⟨m, rfl⟩ : ∃ m : Nat, at_ = m := ⟨at_.toNat, by omega⟩
      have P := Lib.hid (fun W hW hr => exprsParse_any v ts m W hW hr (by omega) hx)
      obtain ⟨x, nx, e0, hp⟩ : ∃ x nx e0, parseV ts (m : Int) = (x, nx, e0) := ⟨_, _, _, rfl⟩
      obtain ⟨c1, c2⟩ := counts_v ha0 hp
      rw [hp] at P
      obtain ⟨ad, cap, rfl⟩ := hR.shape
      by_cases he : e0 = 0
      · subst he
        obtain ⟨hc, k, hk, hk0, hk1, hperm, hop, hops⟩ := c2 rfl
        obtain ⟨q, hq⟩ : ∃ q : Nat, m + k = q := ⟨_, rfl⟩
        rw [hq] at hk hk1
        subst hk
        have hx60 := small_valid hc
        have C := Lib.hid (fun vx W (h : ReadsN W vx x) => nodesCheck_any vx x W h (by omega))
        rw [hc] at C
        have t1 : decide ((q : Int) ≤ (m : Int)) = false := decide_eq_false (by omega)
        have t2 : decide (q ≤ m) = false := decide_eq_false (by omega)
        have t3 : decide ((ts.length : Int) < (q : Int)) = false := decide_eq_false (by omega)
        have t4 : decide (ts.length < q) = false := decide_eq_false (by omega)
        have hz := run_zeros
        have V : Hid (∀ t ∈ ts, validT t = true ∧ 0 ≤ t.at_ ∧ t.at_ ≤ 400) := Lib.hid hall
        have K1 := Lib.hid hperm
        have K2 := Lib.hid hop
        have K3 := Lib.hid hops
        have hcc := Lib.hid hc
        clear hf hR hg h500 hx ha ha0 hall hat0 hat1 hp c1 c2 hperm hop hops hc
        go_enter Tryd.func5, Tryd.ntmps5
        go_wp2_with fail
        refine G.out.mono ?_
        rintro e w1 ⟨rfl, rfl⟩
        go_wp2_with fail
        refine (A.out _ R.out).mono ?_
        rintro e w2 ⟨rfl, hb⟩
        have F2 := Lib.hid (F.out.below hb)
        have R2 := Lib.hid (R.out.below hb)
        have B2 := Lib.hid hb
        clear hb
        go_wp2_with fail
        refine (P.out _ F2.out R2.out).mono ?_
        rintro e w3 ⟨vx, rfl, ho, hb⟩
        obtain ⟨ax, cx, rfl⟩ := own_shape ho
        have F3 := Lib.hid (F2.out.below hb)
        have R3 := Lib.hid (R2.out.below hb)
        have B3 := Lib.hid (below_step B2.out hb)
        have X3 := Lib.hid (own_readsN ho)
        clear hb ho
        go_wp2_with fail
        refine (C.out _ _ X3.out).mono ?_
        rintro e w4 ⟨rfl, hb⟩
        have F4 := Lib.hid (F3.out.below hb)
        have R4 := Lib.hid (R3.out.below hb)
        have X4 := Lib.hid (X3.out.below hb)
        have B4 := Lib.hid (below_step B3.out hb)
        clear hb
        go_wp2_with fail
        obtain ⟨nb, hnb⟩ : ∃ n, w4.heap.size = n := ⟨_, rfl⟩
        have A4 : Hid (Ats w4 nb [] [] (w4.alloc (Obj.cells zeros 44))) := Lib.hid (by rw [← hnb]; exact Ats.start (Below.refl _ _))
        simp only [hnb]
        have HNB := Lib.hid hnb
        clear hnb t1 t2 t3 t4
        go_loopg [8, 9, 11] k (fun g c o i wx => ∃ j : Nat, j + g = k ∧ i = .int .i64 ((m + j : Nat) : Int) ∧ c = .int .i64 (countV ((ts.drop m).take j) : Int) ∧ o = .int .i64 (openV ((ts.drop m).take j)) ∧ Hid (Ats w4 nb (placesV ((ts.drop m).take j)) [] wx))
        case atStart => exact ⟨0, by omega, rfl, rfl, rfl, A4⟩
        case round =>
          obtain ⟨j, hj, rfl, rfl, rfl, HA⟩ := hrel
          obtain ⟨ij, hij⟩ : ∃ n : Nat, m + j = n := ⟨_, rfl⟩
          obtain ⟨cc, hcv⟩ : ∃ n : Nat, countV ((ts.drop m).take j) = n := ⟨_, rfl⟩
          obtain ⟨oo, hov⟩ : ∃ n : Int, openV ((ts.drop m).take j) = n := ⟨_, rfl⟩
          have hcl := count_le ((ts.drop m).take j)
          have hol := open_le ((ts.drop m).take j)
          have hlen : ((ts.drop m).take j).length ≤ 200 := by rw [List.length_take, List.length_drop]; omega
          have ho0 := K3.out j (by omega)
          rw [hov] at hol ho0
          rw [hcv] at hcl
          cases gk with
          | succ g =>
            have hlt : ij < ts.length := by omega
            have TM : Hid ((ts.drop m).take (j + 1) = (ts.drop m).take j ++ [ts[ij]]) := Lib.hid (by
              subst hij
              exact take_more hlt)
            have KO := Lib.hid (K3.out (j + 1) (by omega))
            have VT := V.out _ (List.getElem_mem hlt)
            simp only [hij, hcv, hov]
            obtain ⟨b, o, capt, xb, hv, hx, hbs, c0, c1, c2⟩ := (R4.out.below HA.out.below).tok ij hlt
            cases hv
            have BR := Lib.hid (bracket_any ts[ij].kind ts[ij].at_ xb)
            rw [bra_same _ _ hx] at BR
            have e1 : ((ij : Int) < (q : Int)) := by omega
            have e1n : ij < q := by omega
            cases hbr : braB ts[ij]
            · -- a token of a node
              have CM : Hid (countV ((ts.drop m).take (j + 1)) = cc + 1 ∧ openV ((ts.drop m).take (j + 1)) = oo ∧ placesV ((ts.drop m).take (j + 1)) = placesV ((ts.drop m).take j) ++ [ts[ij].at_]) := Lib.hid (by
                rw [TM.out, count_more, openV_snoc, places_more, hbr, hcv, hov]
                simp)
              rw [hbr] at BR
              obtain ⟨u, hu⟩ : ∃ u : Nat, ts[ij].at_ = u := ⟨ts[ij].at_.toNat, by omega⟩
              rw [hu] at c2 BR CM
              have hu4 : u < 401 := by omega
              obtain ⟨kd, hkd⟩ : ∃ kd, ts[ij].kind = kd := ⟨_, rfl⟩
              rw [hkd] at c0 BR
              have hbd := count_bound (placesV ((ts.drop m).take j)) (u : Int) (n := 200) (by rw [places_len]; omega)
              have PC := HA.out.cell u hu4
              have PF := HA.out.free u hu4
              rw [List.count_nil] at PC
              obtain ⟨pc, hpc⟩ : ∃ n : Int, ((placesV ((ts.drop m).take j)).count (u : Int) : Int) - ((0 : Nat) : Int) = n := ⟨_, rfl⟩
              rw [hpc] at PC
              have hp0 : 0 ≤ pc := by omega
              have hp1 : pc ≤ 200 := by omega
              have HPC := Lib.hid hpc
              have HU := HA.out.size
              have nbb : b < wr.heap.size := hbs
              have HIJ := Lib.hid hij
              clear hx hbr hu hkd hbd hpc VT hol ho0 hov hcv hij
              go_wp2_with fail
              refine (BR.out _).mono ?_
              rintro e w5 ⟨rfl, hb⟩
              have d2 := (hb.cell (p := ⟨b, o + ij * 3 + 2, none⟩) hbs).trans c2
              have dp := (hb.cell (p := ⟨nb, u, none⟩) HU).trans PC
              have df := (hb.frozen (p := ⟨nb, u, none⟩) HU).trans PF
              have A5 := Lib.hid (HA.out.later hb)
              clear hb c0 c1 c2 PC PF
              go_wp2_with fail
              go_roundg g
              case measure => omega
              case rel =>
                refine ⟨j + 1, by omega, ?_, ?_, ?_, ?_⟩
                · have h := HIJ.out
                  subst h
                  go_num
                · rw [CM.out.1]; go_num
                · rw [CM.out.2.1]
                · exact Lib.hid (by rw [CM.out.2.2]; exact A5.out.more hu4 (by rw [List.count_nil, HPC.out]))
            · rw [hbr] at BR
              by_cases h40 : ts[ij].text = [40]
              · -- one more is open
                have CM : Hid (countV ((ts.drop m).take (j + 1)) = cc ∧ openV ((ts.drop m).take (j + 1)) = oo + 1 ∧ placesV ((ts.drop m).take (j + 1)) = placesV ((ts.drop m).take j)) := Lib.hid (by
                  rw [TM.out, count_more, openV_snoc, places_more, hbr, hcv, hov, if_pos h40]
                  simp)
                have hnn : 0 ≤ oo + 1 := by rw [← CM.out.2.1]; exact KO.out
                have hd : decide (oo + 1 < 0) = false := decide_eq_false (by omega)
                obtain ⟨kd, hkd⟩ : ∃ kd, ts[ij].kind = kd := ⟨_, rfl⟩
                obtain ⟨qt, hqt⟩ : ∃ q, ts[ij].at_ = q := ⟨_, rfl⟩
                rw [hkd] at c0 BR
                rw [hqt] at c2 BR
                have tx : (xb.toList == [40]) = true := by rw [beq_iff_eq, ByteArray.toList_eq, hx]; exact h40
                have HIJ := Lib.hid hij
                have hol2 : oo ≤ 200 := by omega
                clear hx hbr hqt hkd VT hol hov hcv hij h40
                go_wp2_with fail
                refine (BR.out _).mono ?_
                rintro e w5 ⟨rfl, hb⟩
                have d1 := (hb.cell (p := ⟨b, o + ij * 3 + 1, none⟩) hbs).trans c1
                have A5 := Lib.hid (HA.out.later hb)
                clear hb c0 c1 c2
                go_wp2_with fail
                go_roundg g
                case measure => omega
                case rel =>
                  refine ⟨j + 1, by omega, ?_, ?_, ?_, ?_⟩
                  · have h := HIJ.out
                    subst h
                    go_num
                  · rw [CM.out.1]
                  · rw [CM.out.2.1]
                  · exact Lib.hid (by rw [CM.out.2.2]; exact A5.out)
              · -- one less is open
                have CM : Hid (countV ((ts.drop m).take (j + 1)) = cc ∧ openV ((ts.drop m).take (j + 1)) = oo - 1 ∧ placesV ((ts.drop m).take (j + 1)) = placesV ((ts.drop m).take j)) := Lib.hid (by
                  rw [TM.out, count_more, openV_snoc, places_more, hbr, hcv, hov, if_neg h40]
                  simp; omega)
                have hnn : 0 ≤ oo - 1 := by rw [← CM.out.2.1]; exact KO.out
                have hd : decide (oo - 1 < 0) = false := decide_eq_false (by omega)
                obtain ⟨kd, hkd⟩ : ∃ kd, ts[ij].kind = kd := ⟨_, rfl⟩
                obtain ⟨qt, hqt⟩ : ∃ q, ts[ij].at_ = q := ⟨_, rfl⟩
                rw [hkd] at c0 BR
                rw [hqt] at c2 BR
                have tx : (xb.toList == [40]) = false := by rw [beq_eq_false_iff_ne, ByteArray.toList_eq, hx]; exact h40
                have HIJ := Lib.hid hij
                have hol2 : oo ≤ 200 := by omega
                clear hx hbr hqt hkd VT hol hov hcv hij h40
                go_wp2_with fail
                refine (BR.out _).mono ?_
                rintro e w5 ⟨rfl, hb⟩
                have d1 := (hb.cell (p := ⟨b, o + ij * 3 + 1, none⟩) hbs).trans c1
                have A5 := Lib.hid (HA.out.later hb)
                clear hb c0 c1 c2
                go_wp2_with fail
                go_roundg g
                case measure => omega
                case rel =>
                  refine ⟨j + 1, by omega, ?_, ?_, ?_, ?_⟩
                  · have h := HIJ.out
                    subst h
                    go_num
                  · rw [CM.out.1]
                  · rw [CM.out.2.1]
                  · exact Lib.hid (by rw [CM.out.2.2]; exact A5.out)
          | zero =>
            obtain rfl : j = k := by omega
            have hq2 : ij = q := by omega
            have e2 : ((ij : Int) < (q : Int)) = False := eq_false (by omega)
            have CL : Hid (cc = x.length) := Lib.hid (by
              have h1 := K1.out.length_eq
              rw [List.length_map, places_len, hcv] at h1
              exact h1.symm)
            have OL : oo = 0 := by rw [← hov]; exact K2.out
            simp only [hij, hcv, hov]
            subst OL
            subst hq2
            clear hcl hol ho0 hlen hj e2
            go_wp2_with fail
            go_loopg [12] x.length (fun g i wx => ∃ a : Nat, a + g = x.length ∧ i = .int .i64 a ∧ Hid (Ats w4 nb (placesV ((ts.drop m).take j)) ((x.map (·.at_)).take a) wx))
            case atStart => exact ⟨0, by omega, rfl, HA⟩
            case round =>
              obtain ⟨a, ha, rfl, HB⟩ := hrel
              cases gk with
              | succ g =>
                have hlt : a < x.length := by omega
                have TM : Hid ((x.map (·.at_)).take (a + 1) = (x.map (·.at_)).take a ++ [x[a].at_]) := Lib.hid (by
                  rw [List.take_succ_eq_append_getElem (by rw [List.length_map]; exact hlt), List.getElem_map])
                obtain ⟨_, _, _, _, ht0, ht4, _⟩ := node_facts hcc.out hlt
                obtain ⟨b, o, capx, hv, hbs, c0, c1, c2, c3, c4⟩ := (X4.out.below HB.out.below).nd a hlt
                cases hv
                obtain ⟨u, hu⟩ : ∃ u : Nat, x[a].at_ = u := ⟨x[a].at_.toNat, by omega⟩
                rw [hu] at c4 TM
                have hu4 : u < 401 := by omega
                have hb1 := count_bound (placesV ((ts.drop m).take j)) (u : Int) (n := 200) (by rw [places_len, hcv]; have := CL.out; omega)
                have hb2 := count_bound ((x.map (·.at_)).take a) (u : Int) (n := 200) (by rw [List.length_take, List.length_map]; omega)
                have PC := HB.out.cell u hu4
                have PF := HB.out.free u hu4
                obtain ⟨pc, hpc⟩ : ∃ n : Int, ((placesV ((ts.drop m).take j)).count (u : Int) : Int) - (((x.map (·.at_)).take a).count (u : Int) : Int) = n := ⟨_, rfl⟩
                rw [hpc] at PC
                have hp0 : -200 ≤ pc := by omega
                have hp1 : pc ≤ 200 := by omega
                have HPC := Lib.hid hpc
                have s1 : decide ((u : Int) < 0) = false := decide_eq_false (by omega)
                have s2 : decide ((400 : Int) < (u : Int)) = false := decide_eq_false (by omega)
                have s3 : decide (400 < u) = false := decide_eq_false (by omega)
                clear hu hb1 hb2 hpc ht0 ht4 hov hcv
                go_wp2_with fail
                go_roundg g
                case measure => omega
                case rel => exact ⟨a + 1, by omega, by go_num, Lib.hid (by rw [TM.out]; exact HB.out.less hu4 (by rw [HPC.out]))⟩
              | zero =>
                obtain rfl : a = x.length := by omega
                have HZ : Hid (∀ u : Nat, u < 401 → wr.cell? ⟨nb, u, none⟩ = some (.int .i64 0)) := Lib.hid fun u hu => by
                  have h := HB.out.cell u hu
                  have e3 : (x.map (·.at_)).take x.length = x.map (·.at_) := List.take_of_length_le (by rw [List.length_map]; exact Nat.le_refl _)
                  rw [e3, K1.out.count_eq, Int.sub_self] at h
                  exact h
                have BB := Lib.hid HB.out.below
                have hcx := CL.out
                subst hcx
                clear hov hcv
                go_wp2_with fail
                go_loopg [13] 401 (fun g i wx => ∃ a : Nat, a + g = 401 ∧ i = .int .i64 a ∧ wr = wx)
                case atStart => exact ⟨0, by omega, rfl, rfl⟩
                case round =>
                  obtain ⟨a, ha, rfl, rfl⟩ := hrel
                  cases gk with
                  | succ g =>
                    have PC := HZ.out a (by omega)
                    go_wp2_with fail
                    go_roundg g
                    case measure => omega
                    case rel => exact ⟨a + 1, by omega, by go_num, rfl⟩
                  | zero =>
                    obtain rfl : a = 401 := by omega
                    clear ha
                    go_wp2_with fail
                    refine (AL.out _ (F4.out.below BB.out)).mono ?_
                    rintro e w6 ⟨rfl, hb⟩
                    have B6 := Lib.hid (below_step (below_step B4.out BB.out) hb)
                    clear hb
                    go_wp2_with fail
                    go_ret
                    exact ⟨rfl, B6.out⟩
      · obtain ⟨rfl, hn1, hn2⟩ := c1 he
        have t0 : (e0 != 0) = true := by rw [bne_iff_ne]; exact he
        have t1 : decide ((m : Int) ≤ nx) = true := decide_eq_true hn1
        have t2 : decide (nx ≤ (ts.length : Int)) = true := decide_eq_true hn2
        clear hf hR hg h500 hx ha ha0 hall hat0 hat1 hp c1 c2 he
        go_enter Tryd.func5, Tryd.ntmps5
        go_wp2_with fail
        refine G.out.mono ?_
        rintro e w1 ⟨rfl, rfl⟩
        go_wp2_with fail
        refine (A.out _ R.out).mono ?_
        rintro e w2 ⟨rfl, hb⟩
        have F2 := Lib.hid (F.out.below hb)
        have R2 := Lib.hid (R.out.below hb)
        have B2 := Lib.hid hb
        clear hb
        go_wp2_with fail
        refine (P.out _ F2.out R2.out).mono ?_
        rintro e w3 ⟨vx, rfl, ho, hb⟩
        obtain ⟨ax, cx, rfl⟩ := own_shape ho
        have F3 := Lib.hid (F2.out.below hb)
        have B3 := Lib.hid (below_step B2.out hb)
        clear hb ho
        go_wp2_with fail
        refine (AL.out _ F3.out).mono ?_
        rintro e w4 ⟨rfl, hb⟩
        have B4 := Lib.hid (below_step B3.out hb)
        clear hb
        go_wp2_with fail
        go_ret
        exact ⟨rfl, B4.out⟩
    · clear hf hR hg h500 hx
      go_enter Tryd.func5, Tryd.ntmps5
      go_wp2_with fail
      refine G.out.mono ?_
      rintro e w1 ⟨rfl, rfl⟩
      go_wp2_with fail
      refine (A.out _ R.out).mono ?_
      rintro e w2 ⟨rfl, hb⟩
      have F2 := Lib.hid (F.out.below hb)
      have B2 := Lib.hid hb
      clear hb
      go_wp2_with fail
      refine (AL.out _ F2.out).mono ?_
      rintro e w3 ⟨rfl, hb⟩
      have B3 := Lib.hid (below_step B2.out hb)
      clear hb
      go_wp2_with fail
      go_ret
      exact ⟨rfl, B3.out⟩
  · rw [hg] at G
    clear hf hR
    go_enter Tryd.func5, Tryd.ntmps5
    go_wp2_with fail
    refine G.out.mono ?_
    rintro e w1 ⟨rfl, rfl⟩
    go_wp2_with fail
    refine (AL.out _ F.out).mono ?_
    rintro e w2 ⟨rfl, hb⟩
    have B2 := Lib.hid hb
    clear hb
    go_wp2_with fail
    go_ret
    exact ⟨rfl, B2.out⟩
end Go.Proofs.YtbhipjinoammjaaDoor.ExprW

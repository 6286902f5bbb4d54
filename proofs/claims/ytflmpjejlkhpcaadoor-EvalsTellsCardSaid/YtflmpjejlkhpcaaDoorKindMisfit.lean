/-
  Contracts of package kinds at the landed code (layer 6): misfit and its closure, typed.
-/
import Derived.Test.YtflmpjejlkhpcaaDoorKindFix
import Derived.Test.YtflmpjejlkhpcaaDoorNodeCheck
import Derived.Deep.QuietTactic
import Derived.Laws.ByValue
import Derived.Outline
namespace Go.Proofs.YtflmpjejlkhpcaaDoor.Nodes
open Go.ChangeShapes Go.WideShapes Go.ChangeAt Go.RowKit

theorem kind_nat {l : List Nd} (h : checkV l = 0) {i : Nat} (hi : i < l.length) : ∃ n : Nat, l[i].kind = n ∧ 1 ≤ n ∧ n < 20 := by
  obtain ⟨k1, k2, _⟩ := node_facts h hi
  exact ⟨l[i].kind.toNat, by omega, by omega, by omega⟩
theorem parts_of {l : List Nd} (h : checkV l = 0) {i : Nat} (hi : i < l.length) : ∃ p q : Nat, l[i].a = p ∧ l[i].b = q ∧ p < l.length ∧ q < l.length := by
  obtain ⟨_, _, _, _, _, _, hf⟩ := node_facts h hi
  rcases hf with ⟨_, ha, hb, _⟩ | ⟨_, h1, ha, hb, _⟩ | ⟨_, h1, hz, ha, hb, _⟩
  · exact ⟨0, 0, ha, hb, by omega, by omega⟩
  · exact ⟨i - 1, 0, ha, hb, by omega, by omega⟩
  · exact ⟨_, _, ha, hb, by omega, by omega⟩
/-- The closure: whether a node gives a truth value. -/
theorem misTruth_any (v : Value) (l : List Nd) (i b : Nat) (w : World) (hf : KindFix w) (hR : ReadsN w v l) (hc : checkV l = 0) (hi : i < l.length) (hb : w.cell? ⟨b, 0, none⟩ = some v) :
    Calls Tryd.prog 58 #[.int .i64 i, .pointer (some ⟨b, 0, none⟩)] w fun e w' => e = .returned (.bool (gv l (i : Int))) ∧ w = w' := by
  obtain ⟨n, hn, n1, n2⟩ := kind_nat hc hi
  obtain ⟨bb, o, cap, rfl, _, c0, _⟩ := hR.nd i hi
  rw [hn] at c0
  have g := gives_cell hf n n2
  have H : Hid (gv l (i : Int) = givesB n) := Lib.hid (by unfold gv; rw [Int.toNat_natCast, kindAt_get hi, hn])
  have hi' : (i : Int) < l.length := by omega
  have hn0 : (0 : Int) ≤ n := by omega
  have hn1 : (n : Int) < 20 := by omega
  clear hf hR hc hn
  go_enter Tryd.func58, Tryd.ntmps58
  go_wp2_with fail
  go_ret
  exact ⟨by rw [H.out]; rfl, rfl⟩
/-- What the rounds of misfit keep: the variable that holds the list, in its block. -/
def MisAt (w : World) (v : Value) (wx : World) : Prop := Below w.heap.size w wx ∧ wx.cell? ⟨w.heap.size, 0, none⟩ = some v ∧ w.heap.size < wx.heap.size
theorem MisAt.then_ {w wx w2 : World} {v : Value} (h : MisAt w v wx) (hb : Below wx.heap.size wx w2) : MisAt w v w2 :=
  ⟨below_then h.1 hb, (hb.cell (p := ⟨w.heap.size, 0, none⟩) h.2.2).trans h.2.1, Nat.lt_of_lt_of_le h.2.2 hb.size⟩
theorem mis_start (w : World) (v : Value) : MisAt w v (w.alloc (.cells #[v] 32)) :=
  ⟨(Below.refl _ _).alloc (Nat.le_refl _) _, by simp [go_sem], by simp⟩
/-- .. and, for one node, the array of its parts' indices. -/
def InAt (w : World) (v : Value) (b p q : Nat) (wx : World) : Prop := MisAt w v wx ∧ wx.cell? ⟨b, 0, none⟩ = some (.int .i64 p) ∧ wx.cell? ⟨b, 1, none⟩ = some (.int .i64 q)
theorem in_start {w wr : World} {v : Value} (h : MisAt w v wr) (ob : Obj) (p q : Nat) : InAt w v (wr.heap.size + 1) p q ((wr.alloc ob).alloc (Obj.cells #[.int .i64 p, .int .i64 q] 80)).drew := by
  refine ⟨h.then_ (((((Below.refl wr.heap.size wr).alloc (Nat.le_refl _) ob).alloc (by simp) _)).drew), ?_, ?_⟩ <;> simp [go_sem]
theorem in_cell {w wx : World} {v : Value} {b p q n : Nat} {x : Nd} (h : InAt w v b p q wx) (ha : x.a = p) (hb : x.b = q) (hp : p < n) (hq : q < n) {j : Nat} (hj : j < 2) : ∃ pj : Nat, partAt x j = pj ∧ pj < n ∧ wx.cell? ⟨b, j, none⟩ = some (.int .i64 pj) := by
  rcases (show j = 0 ∨ j = 1 by omega) with rfl | rfl
  · exact ⟨p, ha, hp, h.2.1⟩
  · exact ⟨q, hb, hq, h.2.2⟩
set_option maxRecDepth 100000 in
set_option maxHeartbeats 1000000 in
theorem misfit_any (v : Value) (l : List Nd) (w : World) (hf : KindFix w) (hR : ReadsN w v l) (hc : checkV l = 0) :
    Calls Tryd.prog 50 #[v] w fun e w' => e = .returned (.int .i64 (wrongV l : Nat)) ∧ Below w.heap.size w w' := by
  obtain ⟨ad, cap, rfl⟩ := hR.shape
  have F := Lib.hid hf
  have HR := Lib.hid hR
  have HC := Lib.hid hc
  have HS := mis_start w (.slice ad l.length cap)
  have h60 := (check_acc hc).2.2.1
  clear hR hc hf
  go_enter Tryd.func50, Tryd.ntmps50
  go_wp2_with fail
  go_step3
  go_wp2_with fail
  go_step3
  go_wp2_with fail
  go_loopg [4, 18] l.length (fun g s4 s18 wx => ∃ i : Nat, i + g = l.length ∧ s4 = .int .i64 l.length ∧ s18 = .int .i64 i ∧ Hid (∀ j (hj : j < l.length), j < i → fitsN l l[j] = true) ∧ Hid (MisAt w (.slice ad l.length cap) wx))
  case atStart => exact ⟨0, by omega, rfl, rfl, Lib.hid (fun j _ h => by omega), Lib.hid HS⟩
  case round =>
    obtain ⟨i, hig, rfl, rfl, HA, HM⟩ := hrel
    cases gk with
    | zero =>
      obtain rfl : i = l.length := by omega
      have HV : Hid (wrongV l = l.length) := Lib.hid (wrong_all fun j hj => HA.out j hj hj)
      clear hig HS
      go_wp2_with fail
      try rw [Exit.noGoto_ret]
      go_ret
      exact ⟨by rw [HV.out]; rfl, HM.out.1⟩
    | succ g =>
      have hlt : i < l.length := by omega
      obtain ⟨n, hkn, n1, n2⟩ := kind_nat HC.out hlt
      obtain ⟨p, q, ha, hb, hp, hq⟩ := parts_of HC.out hlt
      obtain ⟨bb, o, cap', hv, hbw, c0, c1, c2, c3, c4⟩ := (HR.out.below HM.out.1).nd i hlt
      cases hv
      rw [hkn] at c0
      rw [ha] at c2
      rw [hb] at c3
      have t := takes_cell (F.out.below HM.out.1) n n2
      have tl := World.block_lt_of_cell? _ _ t
      simp only at tl
      have t1 : ∀ ob : Obj, (wr.alloc ob).cell? ⟨1, n, none⟩ = some (.bool (takesB n)) := fun ob => (((Below.refl wr.heap.size wr).alloc (Nat.le_refl _) ob).cell (p := ⟨_, _, none⟩) tl).trans t
      have t2 : ∀ ob ob2 : Obj, ((wr.alloc ob).alloc ob2).cell? ⟨1, n, none⟩ = some (.bool (takesB n)) := fun ob ob2 => ((((Below.refl wr.heap.size wr).alloc (Nat.le_refl _) ob).alloc (by simp) ob2).cell (p := ⟨_, _, none⟩) tl).trans t
      have PT := Lib.hid (fun W => nodesParts_same (n : Int) W)
      rw [parts_ok (by omega) (by omega)] at PT
      have har2 : arity (n : Int) ≤ 2 := by rcases arity_cases (n : Int) with h | h | h <;> omega
      obtain ⟨ar, har⟩ : ∃ ar, arity (n : Int) = ar := ⟨_, rfl⟩
      rw [har] at PT har2
      have har3 : (ar : Int) ≤ 2 := by omega
      have har4 : (0 : Int) ≤ ar := by omega
      have hn0 : (0 : Int) ≤ n := by omega
      have hn1 : (n : Int) < 20 := by omega
      have FP := fit_parts (l := l) (x := l[i]) (by omega) (by omega)
      have hwant : wantN l l[i] = if (n : Int) = 16 ∨ (n : Int) = 17 then gv l (p : Int) else takesB n := by unfold wantN; rw [hkn, ha]
      rw [hkn, har] at FP
      have NEXT : Hid ((∀ k, k < ar → gv l (partAt l[i] k) = wantN l l[i]) → ∀ j (hj : j < l.length), j < i + 1 → fitsN l l[j] = true) := Lib.hid fun h j hj hlt2 => by
        by_cases he : j = i
        · subst he; exact FP.2 h
        · exact HA.out j hj (by omega)
      have STOP : Hid (∀ j, j < ar → gv l (partAt l[i] j) ≠ wantN l l[i] → wrongV l = i) := Lib.hid fun j hj hne => wrong_is hlt HA.out (by
        cases hfs : fitsN l l[i] with
        | false => rfl
        | true => exact absurd (FP.1 hfs j hj) hne)
      have IN : Hid (InAt w (.slice (some ⟨bb, o, none⟩) l.length cap) (wr.heap.size + 1) p q ((((wr.alloc (Obj.cells #[.int .u8 n, .int .i64 l[i].n, .int .i64 p, .int .i64 q, .int .i64 l[i].at_] 31)).alloc (Obj.cells #[.int .i64 p, .int .i64 q] 80)).drew))) := Lib.hid (in_start HM.out _ p q)
      clear FP
      go_wp2_with fail
      refine (PT.out _).mono ?_
      rintro e w2 ⟨rfl, rfl⟩
      go_wp2_with fail
      go_region
      by_cases h16 : n = 16 ∨ n = 17
      · rw [if_pos (by omega)] at hwant
        have TA := Lib.hid (misTruth_any _ l p w.heap.size _ (F.out.below IN.out.1.1) (HR.out.below IN.out.1.1) HC.out hp IN.out.1.2.1)
        obtain ⟨WB, hWB⟩ : ∃ WB, gv l (p : Int) = WB := ⟨_, rfl⟩
        rw [hWB] at hwant TA
        rw [hwant] at NEXT STOP
        clear hWB hwant t t1 t2
        rcases h16 with rfl | rfl
        · go_wp2_with fail
          refine TA.out.mono ?_
          rintro e w3 ⟨rfl, rfl⟩
          go_wp2_with fail
          go_loopg [4, 53] ar (fun g2 s4 s53 wy => ∃ j : Nat, j + g2 = ar ∧ s4 = .int .i64 l.length ∧ s53 = .int .i64 j ∧ Hid (∀ k, k < j → gv l (partAt l[i] k) = WB) ∧ Hid (InAt w (.slice (some ⟨bb, o, none⟩) l.length cap) (wr.heap.size + 1) p q wy))
          case atStart => exact ⟨0, by omega, rfl, rfl, Lib.hid (fun k h => by omega), IN⟩
          case round =>
            obtain ⟨j, hj, rfl, rfl, HG, HI⟩ := hrel
            cases gk with
            | zero =>
              obtain rfl : j = ar := by omega
              have HA2 := NEXT.out HG.out
              have HM2 := Lib.hid HI.out.1
              clear hj
              go_wp2_with fail
              go_roundg g
              case measure => omega
              case rel => exact ⟨i + 1, by omega, rfl, by go_num, Lib.hid HA2, HM2⟩
            | succ g2 =>
              obtain ⟨pj, hpj, hpl, hcell⟩ := in_cell HI.out (x := l[i]) ha hb hp hq (show j < 2 by omega)
              have TR := Lib.hid (misTruth_any _ l pj w.heap.size _ (F.out.below HI.out.1.1) (HR.out.below HI.out.1.1) HC.out hpl HI.out.1.2.1)
              have hj1 : (j : Int) < ar := by omega
              obtain ⟨x, hx⟩ : ∃ x, gv l (pj : Int) = x := ⟨_, rfl⟩
              rw [hx] at TR
              cases hq2 : (x == WB)
              · have HV : Hid (wrongV l = i) := Lib.hid (STOP.out j (by omega) (by rw [hpj, hx]; simpa using hq2))
                clear hpj hx
                go_wp2_with fail
                refine TR.out.mono ?_
                rintro e w3 ⟨rfl, rfl⟩
                go_wp2_with fail
                try rw [Exit.noGoto_ret]
                go_ret
                exact ⟨by rw [HV.out]; rfl, HI.out.1.1⟩
              · have HG2 : Hid (∀ k, k < j + 1 → gv l (partAt l[i] k) = WB) := Lib.hid fun k hk => by
                  by_cases he : k = j
                  · subst he; rw [hpj, hx]; simpa using hq2
                  · exact HG.out k (by omega)
                clear hpj hx
                go_wp2_with fail
                refine TR.out.mono ?_
                rintro e w3 ⟨rfl, rfl⟩
                go_wp2_with fail
                go_roundg g2
                case measure => omega
                case rel => exact ⟨j + 1, by omega, rfl, by go_num, HG2, HI⟩
        · go_wp2_with fail
          refine TA.out.mono ?_
          rintro e w3 ⟨rfl, rfl⟩
          go_wp2_with fail
          go_loopg [4, 53] ar (fun g2 s4 s53 wy => ∃ j : Nat, j + g2 = ar ∧ s4 = .int .i64 l.length ∧ s53 = .int .i64 j ∧ Hid (∀ k, k < j → gv l (partAt l[i] k) = WB) ∧ Hid (InAt w (.slice (some ⟨bb, o, none⟩) l.length cap) (wr.heap.size + 1) p q wy))
          case atStart => exact ⟨0, by omega, rfl, rfl, Lib.hid (fun k h => by omega), IN⟩
          case round =>
            obtain ⟨j, hj, rfl, rfl, HG, HI⟩ := hrel
            cases gk with
            | zero =>
              obtain rfl : j = ar := by omega
              have HA2 := NEXT.out HG.out
              have HM2 := Lib.hid HI.out.1
              clear hj
              go_wp2_with fail
              go_roundg g
              case measure => omega
              case rel => exact ⟨i + 1, by omega, rfl, by go_num, Lib.hid HA2, HM2⟩
            | succ g2 =>
              obtain ⟨pj, hpj, hpl, hcell⟩ := in_cell HI.out (x := l[i]) ha hb hp hq (show j < 2 by omega)
              have TR := Lib.hid (misTruth_any _ l pj w.heap.size _ (F.out.below HI.out.1.1) (HR.out.below HI.out.1.1) HC.out hpl HI.out.1.2.1)
              have hj1 : (j : Int) < ar := by omega
              obtain ⟨x, hx⟩ : ∃ x, gv l (pj : Int) = x := ⟨_, rfl⟩
              rw [hx] at TR
              cases hq2 : (x == WB)
              · have HV : Hid (wrongV l = i) := Lib.hid (STOP.out j (by omega) (by rw [hpj, hx]; simpa using hq2))
                clear hpj hx
                go_wp2_with fail
                refine TR.out.mono ?_
                rintro e w3 ⟨rfl, rfl⟩
                go_wp2_with fail
                try rw [Exit.noGoto_ret]
                go_ret
                exact ⟨by rw [HV.out]; rfl, HI.out.1.1⟩
              · have HG2 : Hid (∀ k, k < j + 1 → gv l (partAt l[i] k) = WB) := Lib.hid fun k hk => by
                  by_cases he : k = j
                  · subst he; rw [hpj, hx]; simpa using hq2
                  · exact HG.out k (by omega)
                clear hpj hx
                go_wp2_with fail
                refine TR.out.mono ?_
                rintro e w3 ⟨rfl, rfl⟩
                go_wp2_with fail
                go_roundg g2
                case measure => omega
                case rel => exact ⟨j + 1, by omega, rfl, by go_num, HG2, HI⟩
      · have q1 : ((n : Int) == 16) = false := by rw [beq_eq_false_iff_ne]; omega
        have q2 : ((n : Int) == 17) = false := by rw [beq_eq_false_iff_ne]; omega
        rw [if_neg (by omega)] at hwant
        obtain ⟨WB, hWB⟩ : ∃ WB, takesB (n : Int) = WB := ⟨_, rfl⟩
        rw [hWB] at hwant ⊢
        rw [hwant] at NEXT STOP
        clear hWB hwant t t1 t2
        go_wp2_with fail
        go_loopg [4, 53] ar (fun g2 s4 s53 wy => ∃ j : Nat, j + g2 = ar ∧ s4 = .int .i64 l.length ∧ s53 = .int .i64 j ∧ Hid (∀ k, k < j → gv l (partAt l[i] k) = WB) ∧ Hid (InAt w (.slice (some ⟨bb, o, none⟩) l.length cap) (wr.heap.size + 1) p q wy))
        case atStart => exact ⟨0, by omega, rfl, rfl, Lib.hid (fun k h => by omega), IN⟩
        case round =>
          obtain ⟨j, hj, rfl, rfl, HG, HI⟩ := hrel
          cases gk with
          | zero =>
            obtain rfl : j = ar := by omega
            have HA2 := NEXT.out HG.out
            have HM2 := Lib.hid HI.out.1
            clear hj
            go_wp2_with fail
            go_roundg g
            case measure => omega
            case rel => exact ⟨i + 1, by omega, rfl, by go_num, Lib.hid HA2, HM2⟩
          | succ g2 =>
            obtain ⟨pj, hpj, hpl, hcell⟩ := in_cell HI.out (x := l[i]) ha hb hp hq (show j < 2 by omega)
            have TR := Lib.hid (misTruth_any _ l pj w.heap.size _ (F.out.below HI.out.1.1) (HR.out.below HI.out.1.1) HC.out hpl HI.out.1.2.1)
            have hj1 : (j : Int) < ar := by omega
            obtain ⟨x, hx⟩ : ∃ x, gv l (pj : Int) = x := ⟨_, rfl⟩
            rw [hx] at TR
            cases hq2 : (x == WB)
            · have HV : Hid (wrongV l = i) := Lib.hid (STOP.out j (by omega) (by rw [hpj, hx]; simpa using hq2))
              clear hpj hx
              go_wp2_with fail
              refine TR.out.mono ?_
              rintro e w3 ⟨rfl, rfl⟩
              go_wp2_with fail
              try rw [Exit.noGoto_ret]
              go_ret
              exact ⟨by rw [HV.out]; rfl, HI.out.1.1⟩
            · have HG2 : Hid (∀ k, k < j + 1 → gv l (partAt l[i] k) = WB) := Lib.hid fun k hk => by
                by_cases he : k = j
                · subst he; rw [hpj, hx]; simpa using hq2
                · exact HG.out k (by omega)
              clear hpj hx
              go_wp2_with fail
              refine TR.out.mono ?_
              rintro e w3 ⟨rfl, rfl⟩
              go_wp2_with fail
              go_roundg g2
              case measure => omega
              case rel => exact ⟨j + 1, by omega, rfl, by go_num, HG2, HI⟩
end Go.Proofs.YtflmpjejlkhpcaaDoor.Nodes

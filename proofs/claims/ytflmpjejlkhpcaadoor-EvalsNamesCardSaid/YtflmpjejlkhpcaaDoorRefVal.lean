/-
  Contract of the reference of layer 7: Value, by the node's place.
-/
import Derived.Test.YtflmpjejlkhpcaaDoorEvalValue
import Derived.Test.YtflmpjejlkhpcaaDoorRefNode
import Derived.Test.YtflmpjejlkhpcaaDoorRefDo
import Derived.Deep.RegionHeld3
import Derived.Outline
namespace Go.Proofs.YtflmpjejlkhpcaaDoor.Nodes
open Go.ChangeShapes Go.WideShapes Go.ChangeAt Go.RowKit

/-- What holds from the record's block and the node's on. -/
def HXv (w W : World) : Prop := Below w.heap.size w W ∧ w.heap.size + 2 ≤ W.heap.size
def recO (r : Rec) : Obj := .cells #[.int .i64 r.key, .int .i64 r.time, .int .i64 r.value] 26
def ndO (x : Nd) : Obj := .cells #[.int .u8 x.kind, .int .i64 x.n, .int .i64 x.a, .int .i64 x.b, .int .i64 x.at_] 31
/-- The cells of both. -/
def SV (w : World) (r : Rec) (x : Nd) (W : World) : Prop :=
  W.cell? ⟨w.heap.size + 1, 0, none⟩ = some (.int .u8 x.kind) ∧ W.cell? ⟨w.heap.size + 1, 2, none⟩ = some (.int .i64 x.a) ∧ W.cell? ⟨w.heap.size + 1, 3, none⟩ = some (.int .i64 x.b) ∧
  W.cell? ⟨w.heap.size, 0, none⟩ = some (.int .i64 r.key) ∧ W.cell? ⟨w.heap.size, 1, none⟩ = some (.int .i64 r.time) ∧ W.cell? ⟨w.heap.size, 2, none⟩ = some (.int .i64 r.value) ∧ HXv w W
theorem SV.below {w W W' : World} {r : Rec} {x : Nd} (h : SV w r x W) (hb : Below W.heap.size W W') : SV w r x W' := by
  obtain ⟨h0, h1, h2, h3, h4, h5, h6, h7⟩ := h
  have t1 : w.heap.size + 1 < W.heap.size := by omega
  have t0 : w.heap.size < W.heap.size := by omega
  exact ⟨(hb.cell (p := ⟨_, _, none⟩) t1).trans h0, (hb.cell (p := ⟨_, _, none⟩) t1).trans h1, (hb.cell (p := ⟨_, _, none⟩) t1).trans h2, (hb.cell (p := ⟨_, _, none⟩) t0).trans h3, (hb.cell (p := ⟨_, _, none⟩) t0).trans h4, (hb.cell (p := ⟨_, _, none⟩) t0).trans h5, below_then h6 hb, Nat.le_trans h7 hb.size⟩
theorem sv_start (w : World) (r : Rec) (x : Nd) : SV w r x ((w.alloc (recO r)).alloc (ndO x)) := by
  have hs : (w.alloc (recO r)).heap.size = w.heap.size + 1 := by simp
  have e : ((w.alloc (recO r)).alloc (ndO x)).heap[w.heap.size + 1]? = some (ndO x) := by rw [← hs]; exact heap_alloc_new _ _
  have e0 : ((w.alloc (recO r)).alloc (ndO x)).heap[w.heap.size]? = some (recO r) := by
    rw [((Below.refl (w.alloc (recO r)).heap.size (w.alloc (recO r))).alloc (Nat.le_refl _) (ndO x)).block _ (by omega)]
    exact heap_alloc_new _ _
  unfold SV World.cell?
  simp only [e, e0]
  exact ⟨rfl, rfl, rfl, rfl, rfl, rfl, box_two0 w _ _, by simp⟩
set_option maxRecDepth 100000 in
set_option maxHeartbeats 4000000 in
theorem refValue_any (r : Rec) (hr : RecOk r) (l : List Nd) (hc : checkV l = 0) (hw : WideN l) (v : Value) (i : Nat) : ∀ w : World, ReadsN w v l → i < l.length →
    Calls Tryd.prog 32 #[v, .int .i64 i, recVal r] w fun e w' => e = .returned (.int .i64 (nth (valsV r l) i)) ∧ Below w.heap.size w w' := by
  induction i using Nat.strongRecOn with
  | ind i ih =>
  intro w hR hi
  obtain ⟨k1, k2, _⟩ := node_facts hc hi
  have hfr := front_of hc hi
  have hI := nth_i64 (vals_i64 hr hc hw)
  rw [val_ok (r := r) hc hi]
  have IH : Hid (∀ (j : Nat) (W : World), j < i → HXv w W → Calls Tryd.prog 32 #[v, .int .i64 j, recVal r] W fun e w' => e = .returned (.int .i64 (nth (valsV r l) j)) ∧ Below W.heap.size W w') := Lib.hid fun j W hj hx => ih j hj W (hR.below hx.1) (by omega)
  clear ih
  obtain ⟨b, o, cap, rfl, hbw, c0, c1, c2, c3, c4⟩ := hR.nd i hi
  have hi' : (i : Int) < l.length := by omega
  obtain ⟨x, hx⟩ : ∃ x, l[i] = x := ⟨_, rfl⟩
  rw [hx] at k1 k2 hfr c0 c1 c2 c3 c4 ⊢
  clear hx hR hc hw
  obtain ⟨V, hV⟩ : ∃ V, valV r (valsV r l) x = V := ⟨_, rfl⟩
  rw [hV]
  have ST := Lib.hid (sv_start w r x)
  obtain ⟨kd, n, a, bq, at_⟩ := x
  obtain ⟨ky, tm, va⟩ := r
  unfold valV at hV
  unfold Front at hfr
  simp only at k1 k2 hfr hV c0 c1 c2 c3 c4 ⊢
  have bc0 : ∀ ob : Obj, (w.alloc ob).cell? ⟨b, o + i * 5, none⟩ = some (.int .u8 kd) := fun ob => (((Below.refl _ w).alloc (Nat.le_refl _) ob).cell (p := ⟨b, _, none⟩) hbw).trans c0
  have bc1 : ∀ ob : Obj, (w.alloc ob).cell? ⟨b, o + i * 5 + 1, none⟩ = some (.int .i64 n) := fun ob => (((Below.refl _ w).alloc (Nat.le_refl _) ob).cell (p := ⟨b, _, none⟩) hbw).trans c1
  have bc2 : ∀ ob : Obj, (w.alloc ob).cell? ⟨b, o + i * 5 + 2, none⟩ = some (.int .i64 a) := fun ob => (((Below.refl _ w).alloc (Nat.le_refl _) ob).cell (p := ⟨b, _, none⟩) hbw).trans c2
  have bc3 : ∀ ob : Obj, (w.alloc ob).cell? ⟨b, o + i * 5 + 3, none⟩ = some (.int .i64 bq) := fun ob => (((Below.refl _ w).alloc (Nat.le_refl _) ob).cell (p := ⟨b, _, none⟩) hbw).trans c3
  have bc4 : ∀ ob : Obj, (w.alloc ob).cell? ⟨b, o + i * 5 + 4, none⟩ = some (.int .i64 at_) := fun ob => (((Below.refl _ w).alloc (Nat.le_refl _) ob).cell (p := ⟨b, _, none⟩) hbw).trans c4
  clear c0 c1 c2 c3 c4
  rcases (show kd = 1 ∨ kd = 2 ∨ kd = 3 ∨ kd = 4 ∨ 5 ≤ kd by omega) with rfl | rfl | rfl | rfl | h5
  · obtain rfl : n = V := hV
    clear hfr hI
    unfold recVal
    go_enter Tryd.func32, Tryd.ntmps32
    go_wp2_with fail
    go_ret
    exact ⟨rfl, box_two0 _ _ _⟩
  · obtain rfl : ky = V := hV
    clear hfr hI
    unfold recVal
    go_enter Tryd.func32, Tryd.ntmps32
    go_wp2_with fail
    go_ret
    exact ⟨rfl, box_two0 _ _ _⟩
  · obtain rfl : tm = V := hV
    clear hfr hI
    unfold recVal
    go_enter Tryd.func32, Tryd.ntmps32
    go_wp2_with fail
    go_ret
    exact ⟨rfl, box_two0 _ _ _⟩
  · obtain rfl : va = V := hV
    clear hfr hI
    unfold recVal
    go_enter Tryd.func32, Tryd.ntmps32
    go_wp2_with fail
    go_ret
    exact ⟨rfl, box_two0 _ _ _⟩
  · rw [if_neg (by omega), if_neg (by omega), if_neg (by omega), if_neg (by omega)] at hV
    have q1 : (kd == 1) = false := by rw [beq_eq_false_iff_ne]; omega
    have q2 : (kd == 2) = false := by rw [beq_eq_false_iff_ne]; omega
    have q3 : (kd == 3) = false := by rw [beq_eq_false_iff_ne]; omega
    have q4 : (kd == 4) = false := by rw [beq_eq_false_iff_ne]; omega
    unfold recVal at IH ⊢
    simp only at IH
    have CN : Hid (Calls Tryd.prog 31 #[.int .u8 kd] ((w.alloc (recO ⟨ky, tm, va⟩)).alloc (ndO ⟨kd, n, a, bq, at_⟩)) fun e w' => e = .returned (.int .i64 (arity kd : Nat)) ∧ SV w ⟨ky, tm, va⟩ ⟨kd, n, a, bq, at_⟩ w') := Lib.hid ((refCount_any kd _).mono (by rintro e w' ⟨rfl, rfl⟩; exact ⟨rfl, ST.out⟩))
    unfold recO ndO at CN
    simp only at CN
    rcases hfr with a0 | ⟨a1, p0, p1⟩ | ⟨a2, p0, p1, p2, p3⟩
    · have := arity_leaf a0
      omega
    · obtain ⟨p, rfl⟩ : ∃ p : Nat, a = p := ⟨a.toNat, by omega⟩
      have hp : p < i := by omega
      rw [a1] at CN hV
      rw [if_neg (by omega)] at hV
      obtain ⟨A, hA⟩ : ∃ A, nth (valsV ⟨ky, tm, va⟩ l) (p : Int) = A := ⟨_, rfl⟩
      have hAi := hI (p : Int)
      rw [hA] at hV hAi
      have VA : Hid (∀ W : World, SV w ⟨ky, tm, va⟩ ⟨kd, n, p, bq, at_⟩ W → Calls Tryd.prog 32 #[.slice (some ⟨b, o, none⟩) l.length cap, .int .i64 (p : Nat), .agg #[.int .i64 ky, .int .i64 tm, .int .i64 va]] W fun e w' => e = .returned (.int .i64 A) ∧ SV w ⟨ky, tm, va⟩ ⟨kd, n, p, bq, at_⟩ w') := Lib.hid fun W h => (IH.out p W hp h.2.2.2.2.2.2).mono (by rintro e w' ⟨rfl, hb⟩; exact ⟨by rw [hA], SV.below h hb⟩)
      have GV := Lib.hid (fun (W : World) => refGiven_any A 0 W kd h5 k2 hAi)
      rw [hV] at GV
      clear hV hA hAi hI IH ST
      have HXD : ∀ W, HXv w W → HXv w W.drew := fun W h => ⟨Below.drew h.1, h.2⟩
      unfold SV at CN VA
      simp only at CN VA
      go_enter Tryd.func32, Tryd.ntmps32
      go_wp2_with fail
      refine CN.out.mono ?_
      rintro e w1 ⟨rfl, g0, g1, g2, g3, g4, g5, g6⟩
      go_wp2_with fail
      go_region_held3 (fun W => W.cell? ⟨w.heap.size + 1, 0, none⟩ = some (.int .u8 kd) ∧ W.cell? ⟨w.heap.size + 1, 2, none⟩ = some (.int .i64 p) ∧ W.cell? ⟨w.heap.size + 1, 3, none⟩ = some (.int .i64 bq) ∧ W.cell? ⟨w.heap.size, 0, none⟩ = some (.int .i64 ky) ∧ W.cell? ⟨w.heap.size, 1, none⟩ = some (.int .i64 tm) ∧ W.cell? ⟨w.heap.size, 2, none⟩ = some (.int .i64 va) ∧ HXv w W) (go_keep) (first
        | (go_at_call 32; refine (VA.out _ ⟨?_, ?_, ?_, ?_, ?_, ?_, ?_⟩).mono ?_; (simp [*]); (simp [*]); (simp [*]); (simp [*]); (simp [*]); (simp [*]); (simp [*]); rintro e w3 ⟨rfl, g0, g1, g2, g3, g4, g5, g6⟩)
        | (go_at_call 45; refine (GV.out _).mono ?_; rintro e w4 ⟨rfl, rfl⟩))
      go_wp2_with fail
      go_ret
      exact ⟨rfl, (‹HXv w _›).1⟩
    · obtain ⟨p, rfl⟩ : ∃ p : Nat, a = p := ⟨a.toNat, by omega⟩
      obtain ⟨q, rfl⟩ : ∃ p : Nat, bq = p := ⟨bq.toNat, by omega⟩
      have hp : p < i := by omega
      have hq : q < i := by omega
      rw [a2] at CN hV
      rw [if_pos rfl] at hV
      obtain ⟨A, hA⟩ : ∃ A, nth (valsV ⟨ky, tm, va⟩ l) (p : Int) = A := ⟨_, rfl⟩
      obtain ⟨B, hB⟩ : ∃ A, nth (valsV ⟨ky, tm, va⟩ l) (q : Int) = A := ⟨_, rfl⟩
      have hAi := hI (p : Int)
      rw [hA] at hV hAi
      rw [hB] at hV
      have VA : Hid (∀ W : World, SV w ⟨ky, tm, va⟩ ⟨kd, n, p, q, at_⟩ W → Calls Tryd.prog 32 #[.slice (some ⟨b, o, none⟩) l.length cap, .int .i64 (p : Nat), .agg #[.int .i64 ky, .int .i64 tm, .int .i64 va]] W fun e w' => e = .returned (.int .i64 A) ∧ SV w ⟨ky, tm, va⟩ ⟨kd, n, p, q, at_⟩ w') := Lib.hid fun W h => (IH.out p W hp h.2.2.2.2.2.2).mono (by rintro e w' ⟨rfl, hb⟩; exact ⟨by rw [hA], SV.below h hb⟩)
      have VB : Hid (∀ W : World, SV w ⟨ky, tm, va⟩ ⟨kd, n, p, q, at_⟩ W → Calls Tryd.prog 32 #[.slice (some ⟨b, o, none⟩) l.length cap, .int .i64 (q : Nat), .agg #[.int .i64 ky, .int .i64 tm, .int .i64 va]] W fun e w' => e = .returned (.int .i64 B) ∧ SV w ⟨ky, tm, va⟩ ⟨kd, n, p, q, at_⟩ w') := Lib.hid fun W h => (IH.out q W hq h.2.2.2.2.2.2).mono (by rintro e w' ⟨rfl, hb⟩; exact ⟨by rw [hB], SV.below h hb⟩)
      have GV := Lib.hid (fun (W : World) => refGiven_any A B W kd h5 k2 hAi)
      rw [hV] at GV
      clear hV hA hB hAi hI IH ST
      have HXD : ∀ W, HXv w W → HXv w W.drew := fun W h => ⟨Below.drew h.1, h.2⟩
      unfold SV at CN VA VB
      simp only at CN VA VB
      go_enter Tryd.func32, Tryd.ntmps32
      go_wp2_with fail
      refine CN.out.mono ?_
      rintro e w1 ⟨rfl, g0, g1, g2, g3, g4, g5, g6⟩
      go_wp2_with fail
      refine (VB.out _ ⟨g0, g1, g2, g3, g4, g5, g6⟩).mono ?_
      rintro e w2 ⟨rfl, f0, f1, f2, f3, f4, f5, f6⟩
      clear g0 g1 g2 g3 g4 g5 g6
      go_wp2_with fail
      go_region_held3 (fun W => W.cell? ⟨w.heap.size + 1, 0, none⟩ = some (.int .u8 kd) ∧ W.cell? ⟨w.heap.size + 1, 2, none⟩ = some (.int .i64 p) ∧ W.cell? ⟨w.heap.size + 1, 3, none⟩ = some (.int .i64 q) ∧ W.cell? ⟨w.heap.size, 0, none⟩ = some (.int .i64 ky) ∧ W.cell? ⟨w.heap.size, 1, none⟩ = some (.int .i64 tm) ∧ W.cell? ⟨w.heap.size, 2, none⟩ = some (.int .i64 va) ∧ HXv w W) (go_keep) (first
        | (go_at_call 32; refine (VA.out _ ⟨?_, ?_, ?_, ?_, ?_, ?_, ?_⟩).mono ?_; (simp [*]); (simp [*]); (simp [*]); (simp [*]); (simp [*]); (simp [*]); (simp [*]); rintro e w3 ⟨rfl, g0, g1, g2, g3, g4, g5, g6⟩)
        | (go_at_call 45; refine (GV.out _).mono ?_; rintro e w4 ⟨rfl, rfl⟩))
      go_wp2_with fail
      go_ret
      exact ⟨rfl, (‹HXv w _›).1⟩
end Go.Proofs.YtflmpjejlkhpcaaDoor.Nodes

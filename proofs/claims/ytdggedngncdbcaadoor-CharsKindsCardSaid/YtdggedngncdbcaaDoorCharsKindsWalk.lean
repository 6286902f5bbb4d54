/-
  The walk of layer 2's statement CharsKinds: it returns true.
-/
import Derived.Test.YtdggedngncdbcaaDoorCharsLaw
namespace Go.Proofs.YtdggedngncdbcaaDoor
open Go.ChangeShapes Go.WideShapes Go.ChangeAt Go.RowKit

/-- How many of the first c bytes have the kind v. -/
def cnt (c : Nat) (v : Int) : Nat := ((List.range c).filter fun i : Nat => decide (kindV (i : Int) = v)).length
theorem cnt_succ (c : Nat) (v : Int) : cnt (c + 1) v = cnt c v + if kindV (c : Int) = v then 1 else 0 := by
  unfold cnt
  rw [List.range_succ, List.filter_append, List.length_append]
  congr 1
  by_cases h : kindV (c : Int) = v <;> simp [h]
theorem cnt_le (c : Nat) (v : Int) : cnt c v ≤ c := by
  unfold cnt
  have := List.length_filter_le (fun i : Nat => decide (kindV (i : Int) = v)) (List.range c)
  simpa using this
theorem cnt_all : cnt 256 0 = 209 ∧ cnt 256 1 = 2 ∧ cnt 256 2 = 10 ∧ cnt 256 3 = 26 ∧ cnt 256 4 = 9 := by decide +kernel

/-- The counts so far: in the first five cells of the new array. -/
structure Counts (w wx : World) (c : Nat) : Prop where
  cell : ∀ v : Nat, v < 5 → wx.cell? { block := w.heap.size, off := v } = some (.int .i64 (cnt c v))
  free : ∀ v : Nat, v < 5 → wx.frozen? { block := w.heap.size, off := v } = false
  below : Below w.heap.size w wx
  fix : Fix wx
  size : w.heap.size < wx.heap.size

def zeros : Array Value := Array.replicate 256 (.int .i64 0)
set_option maxRecDepth 100000 in
theorem run_zeros (w : World) : (zeroValue 34).run Tryd.prog w = .ok (.agg zeros) w := by kernel_rfl
theorem zeros_at (v : Nat) (h : v < 5) : zeros[v]? = some (.int .i64 0) := by
  unfold zeros
  rw [Array.getElem?_replicate, if_pos (by omega)]
theorem counts_start (w : World) (hf : Fix w) : Counts w (w.alloc (Obj.cells zeros 34)) 0 where
  cell := fun v hv => by
    have e : cnt 0 v = 0 := rfl
    rw [World.cell?_alloc_at _ _ _ _ rfl, zeros_at v hv, e]; rfl
  free := fun v _ => by simp [go_sem]
  below := (Below.refl w.heap.size w).alloc (Nat.le_refl _) _
  fix := hf.below ((Below.refl w.heap.size w).alloc (Nat.le_refl _) _)
  size := by simp

theorem Counts.later {w wx w2 : World} {c : Nat} (h : Counts w wx c) (hb : Below wx.heap.size wx w2) : Counts w w2 c where
  cell := fun v hv => (hb.cell (p := { block := w.heap.size, off := v }) h.size).trans (h.cell v hv)
  free := fun v hv => (hb.frozen (p := { block := w.heap.size, off := v }) h.size).trans (h.free v hv)
  below := below_step h.below hb
  fix := h.fix.below hb
  size := Nat.lt_of_lt_of_le h.size hb.size
theorem Counts.count {w wx : World} {c : Nat} (hf : Fix w) (h : Counts w wx c) {v : Nat} (hv : v < 5) (hk : kindV (c : Int) = v) {n : Int} (hn : n = cnt c v + 1) :
    Counts w (wx.setCell { block := w.heap.size, off := v } (.int .i64 n)) (c + 1) where
  cell := fun u hu => by
    by_cases e : u = v
    · subst e
      rw [World.cell?_setCell_same _ _ _ (h.cell u hu), cnt_succ, if_pos hk, hn]
      rfl
    · rw [World.cell?_setCell_other _ _ _ _ (by intro h; exact e (congrArg Addr.off h).symm), h.cell u hu, cnt_succ, if_neg (by rw [hk]; omega)]
      rfl
  free := fun u hu => by rw [World.frozen?_setCell]; exact h.free u hu
  below := h.below.setCell (Nat.le_refl _) _
  fix := hf.below (h.below.setCell (Nat.le_refl _) _)
  size := by simpa [World.setCell] using h.size
set_option maxRecDepth 100000 in
set_option maxHeartbeats 1000000 in
theorem kinds_walk (w : World) (hf : Fix w) :
    Calls Tryd.prog 5 #[] w fun e w' => e = .returned (.bool true) ∧ Below w.heap.size w w' := by
  have H0 := Lib.hid (counts_start w hf)
  have F := Lib.hid hf
  have hz := run_zeros
  clear hf
  go_enter Tryd.func5, Tryd.ntmps5
  go_wp2_with fail
  go_loopg [2] 256 (fun g i wx => ∃ c : Nat, c + g = 256 ∧ i = .int .i64 c ∧ Hid (Counts w wx c))
  case atStart => exact ⟨0, by omega, rfl, H0⟩
  case round =>
    obtain ⟨c, hc, rfl, HX⟩ := hrel
    cases gk with
    | succ g =>
      have hk := Lib.hid (kind_is (c : Int) (kindV c) ⟨by omega, rfl⟩)
      have hr := kind_range (c : Int)
      have hv : kindV (c : Int) = 0 ∨ kindV (c : Int) = 1 ∨ kindV (c : Int) = 2 ∨ kindV (c : Int) = 3 ∨ kindV (c : Int) = 4 := by omega
      clear hr
      rcases hv with hv | hv | hv | hv | hv
      · have KV := Lib.hid hv
        rw [hv] at hk
        clear hv
        go_wp2_with fail
        refine (hk.out _).mono ?_
        rintro e w2 ⟨rfl, hb⟩
        have HY := Lib.hid (HX.out.later hb)
        have hc0 := HY.out.cell 0 (by omega)
        have hz0 := HY.out.free 0 (by omega)
        have hle := cnt_le c 0
        clear hb
        go_wp2_with fail
        go_roundg g
        case measure => omega
        case rel => exact ⟨c + 1, by omega, by go_num, Lib.hid (Counts.count F.out HY.out (v := 0) (by omega) KV.out rfl)⟩
      · have KV := Lib.hid hv
        rw [hv] at hk
        clear hv
        go_wp2_with fail
        refine (hk.out _).mono ?_
        rintro e w2 ⟨rfl, hb⟩
        have HY := Lib.hid (HX.out.later hb)
        have hc0 := HY.out.cell 1 (by omega)
        have hz0 := HY.out.free 1 (by omega)
        have hle := cnt_le c 1
        clear hb
        go_wp2_with fail
        go_roundg g
        case measure => omega
        case rel => exact ⟨c + 1, by omega, by go_num, Lib.hid (Counts.count F.out HY.out (v := 1) (by omega) KV.out rfl)⟩
      · have KV := Lib.hid hv
        rw [hv] at hk
        clear hv
        go_wp2_with fail
        refine (hk.out _).mono ?_
        rintro e w2 ⟨rfl, hb⟩
        have HY := Lib.hid (HX.out.later hb)
        have hc0 := HY.out.cell 2 (by omega)
        have hz0 := HY.out.free 2 (by omega)
        have hle := cnt_le c 2
        clear hb
        go_wp2_with fail
        go_roundg g
        case measure => omega
        case rel => exact ⟨c + 1, by omega, by go_num, Lib.hid (Counts.count F.out HY.out (v := 2) (by omega) KV.out rfl)⟩
      · have KV := Lib.hid hv
        rw [hv] at hk
        clear hv
        go_wp2_with fail
        refine (hk.out _).mono ?_
        rintro e w2 ⟨rfl, hb⟩
        have HY := Lib.hid (HX.out.later hb)
        have hc0 := HY.out.cell 3 (by omega)
        have hz0 := HY.out.free 3 (by omega)
        have hle := cnt_le c 3
        clear hb
        go_wp2_with fail
        go_roundg g
        case measure => omega
        case rel => exact ⟨c + 1, by omega, by go_num, Lib.hid (Counts.count F.out HY.out (v := 3) (by omega) KV.out rfl)⟩
      · have KV := Lib.hid hv
        rw [hv] at hk
        clear hv
        go_wp2_with fail
        refine (hk.out _).mono ?_
        rintro e w2 ⟨rfl, hb⟩
        have HY := Lib.hid (HX.out.later hb)
        have hc0 := HY.out.cell 4 (by omega)
        have hz0 := HY.out.free 4 (by omega)
        have hle := cnt_le c 4
        clear hb
        go_wp2_with fail
        go_roundg g
        case measure => omega
        case rel => exact ⟨c + 1, by omega, by go_num, Lib.hid (Counts.count F.out HY.out (v := 4) (by omega) KV.out rfl)⟩
    | zero =>
      obtain rfl : c = 256 := by omega
      clear hc
      go_wp2_with fail
      go_loopg [3] 10 (fun g i wx => ∃ c : Int, c + g = 58 ∧ 48 ≤ c ∧ i = .int .u8 c ∧ Hid (Counts w wx 256))
      case atStart => exact ⟨48, by omega, by omega, rfl, HX⟩
      case round =>
        obtain ⟨c, hc, hc0, rfl, HY⟩ := hrel
        cases gk with
        | succ g =>
          have hk := Lib.hid (kind_is c 2 ⟨by omega, kind_digit (by omega)⟩)
          go_wp2_with fail
          refine (hk.out _).mono ?_
          rintro e w2 ⟨rfl, hb⟩
          have HZ := Lib.hid (HY.out.later hb)
          clear hb
          go_wp2_with fail
          go_roundg g
          case measure => omega
          case rel => exact ⟨c + 1, by omega, by omega, by go_num, HZ⟩
        | zero =>
          obtain rfl : c = 58 := by omega
          clear hc hc0
          go_wp2_with fail
          go_loopg [4] 26 (fun g i wx => ∃ c : Int, c + g = 123 ∧ 97 ≤ c ∧ i = .int .u8 c ∧ Hid (Counts w wx 256))
          case atStart => exact ⟨97, by omega, by omega, rfl, HY⟩
          case round =>
            obtain ⟨c, hc, hc0, rfl, HZ⟩ := hrel
            cases gk with
            | succ g =>
              have hk := Lib.hid (kind_is c 3 ⟨by omega, kind_letter (by omega)⟩)
              go_wp2_with fail
              refine (hk.out _).mono ?_
              rintro e w2 ⟨rfl, hb⟩
              have HU := Lib.hid (HZ.out.later hb)
              clear hb
              go_wp2_with fail
              go_roundg g
              case measure => omega
              case rel => exact ⟨c + 1, by omega, by omega, by go_num, HU⟩
            | zero =>
              obtain rfl : c = 123 := by omega
              clear hc hc0
              have z0 := HZ.out.cell 0 (by omega)
              have z1 := HZ.out.cell 1 (by omega)
              have z2 := HZ.out.cell 2 (by omega)
              have z3 := HZ.out.cell 3 (by omega)
              have z4 := HZ.out.cell 4 (by omega)
              obtain ⟨n0, n1, n2, n3, n4⟩ := cnt_all
              have e0 : ((0 : Nat) : Int) = 0 := rfl
              have e1 : ((1 : Nat) : Int) = 1 := rfl
              have e2 : ((2 : Nat) : Int) = 2 := rfl
              have e3 : ((3 : Nat) : Int) = 3 := rfl
              have e4 : ((4 : Nat) : Int) = 4 := rfl
              rw [e0, n0] at z0; rw [e1, n1] at z1; rw [e2, n2] at z2; rw [e3, n3] at z3; rw [e4, n4] at z4
              clear e0 e1 e2 e3 e4 n0 n1 n2 n3 n4
              go_wp2_with fail
              refine (kind_is _ 1 (by decide) _).mono ?_
              rintro e w2 ⟨rfl, hb⟩
              have HU := Lib.hid (HZ.out.later hb)
              clear hb
              go_wp2_with fail
              refine (kind_is _ 1 (by decide) _).mono ?_
              rintro e w3 ⟨rfl, hb⟩
              have HV := Lib.hid (HU.out.later hb)
              clear hb
              go_wp2_with fail
              refine (alive_any _ HV.out.fix).mono ?_
              rintro e w4 ⟨rfl, hb⟩
              have HW := Lib.hid (HV.out.later hb)
              clear hb
              go_wp2_with fail
              go_ret
              exact ⟨rfl, HW.out.below⟩
end Go.Proofs.YtdggedngncdbcaaDoor

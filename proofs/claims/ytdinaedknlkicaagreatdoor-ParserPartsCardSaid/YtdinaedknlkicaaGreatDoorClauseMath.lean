/-
  Queries, plainly (layer 8): windows, sources, names, what is valid, what is the same, and the laws of the statements. No program in this text.
-/
import Derived.Test.YtdinaedknlkicaaGreatDoorNodeLaws
namespace Go.Proofs.YtdinaedknlkicaaGreatDoor.Nodes

structure Wn where
  kind : Int
  size : Int
  every : Int
def fitsW (w : Wn) : Bool := decide (1 ≤ w.size ∧ w.size ≤ 1073741824 ∧ ((w.kind = 2 ∧ 1 ≤ w.every ∧ w.every ≤ w.size ∧ w.size ≤ 16 * w.every) ∨ ((w.kind = 1 ∨ w.kind = 3) ∧ w.every = 0)))
theorem fitsW_iff {w : Wn} : fitsW w = true ↔ (1 ≤ w.size ∧ w.size ≤ 1073741824 ∧ ((w.kind = 2 ∧ 1 ≤ w.every ∧ w.every ≤ w.size ∧ w.size ≤ 16 * w.every) ∨ ((w.kind = 1 ∨ w.kind = 3) ∧ w.every = 0))) := decide_eq_true_iff
def windowV (w : Wn) : Int := if fitsW w then 0 else 8
theorem windowV_yes {w : Wn} (h : fitsW w = true) : windowV w = 0 := if_pos h
theorem windowV_no {w : Wn} (h : fitsW w = false) : windowV w = 8 := by unfold windowV; rw [h]; rfl
theorem windowV_cases (w : Wn) : windowV w = 0 ∨ windowV w = 8 := by
  cases h : fitsW w
  · exact .inr (windowV_no h)
  · exact .inl (windowV_yes h)
theorem windowV_zero {w : Wn} : windowV w = 0 ↔ fitsW w = true := by
  cases h : fitsW w
  · rw [windowV_no h]; simp
  · rw [windowV_yes h]; simp

/-! ### Sources -/
def inS (x : Int) : Bool := decide (0 ≤ x ∧ x ≤ 3)
def onceB (l : List Int) : Bool := decide l.Nodup
def sourcesV (l : List Int) (join : Bool) : Int :=
  if 4 < l.length then 4 else if l.length = 0 ∨ (join = true ∧ l.length ≠ 2) then 8 else if l.all inS = true then (if onceB l then 0 else 43) else 8
theorem sources_many {l : List Int} {j : Bool} (h : 4 < l.length) : sourcesV l j = 4 := if_pos h
theorem sources_none {l : List Int} {j : Bool} (h : l.length = 0) : sourcesV l j = 8 := by unfold sourcesV; rw [if_neg (by omega), if_pos (.inl h)]
theorem sources_two {l : List Int} {j : Bool} (h4 : ¬ 4 < l.length) (hj : j = true) (h : l.length ≠ 2) : sourcesV l j = 8 := by unfold sourcesV; rw [if_neg h4, if_pos (.inr ⟨hj, h⟩)]
theorem sources_out {l : List Int} {j : Bool} (h4 : ¬ 4 < l.length) (h0 : l.length ≠ 0) (hj : j = false ∨ l.length = 2) (h : l.all inS = false) : sourcesV l j = 8 := by
  unfold sourcesV; rw [if_neg h4, if_neg (by rintro (e | ⟨e, f⟩); exact h0 e; rcases hj with hj | hj; rw [hj] at e; cases e; exact f hj), h]; rfl
theorem sources_in {l : List Int} {j : Bool} (h4 : ¬ 4 < l.length) (h0 : l.length ≠ 0) (hj : j = false ∨ l.length = 2) (h : l.all inS = true) : sourcesV l j = if onceB l then 0 else 43 := by
  unfold sourcesV; rw [if_neg h4, if_neg (by rintro (e | ⟨e, f⟩); exact h0 e; rcases hj with hj | hj; rw [hj] at e; cases e; exact f hj), h]; rfl
theorem sources_ok {l : List Int} {j : Bool} : sourcesV l j = 0 ↔ (0 < l.length ∧ l.length ≤ 4 ∧ (j = true → l.length = 2) ∧ l.all inS = true ∧ onceB l = true) := by
  unfold sourcesV
  constructor
  · intro h
    split at h
    · cases h
    split at h
    · cases h
    rename_i h4 h0
    split at h
    · rename_i ha
      split at h
      · rename_i ho
        exact ⟨Nat.pos_of_ne_zero fun e => h0 (.inl e), by omega, fun e => Classical.byContradiction fun f => h0 (.inr ⟨e, f⟩), ha, ho⟩
      · cases h
    · cases h
  · rintro ⟨h0, h4, hj, ha, ho⟩
    rw [if_neg (by omega), if_neg (by rintro (e | ⟨e, f⟩); omega; exact f (hj e)), if_pos ha, if_pos ho]
theorem all_out {l : List Int} {i : Nat} (hi : i < l.length) (h : inS l[i] = false) : l.all inS = false := by
  rw [Bool.eq_false_iff]
  intro e
  have := List.all_eq_true.1 e _ (List.getElem_mem hi)
  rw [h] at this; cases this
theorem all_more {l : List Int} {k : Nat} (hk : k < l.length) (h : (l.take k).all inS = true) (e : inS l[k] = true) : (l.take (k + 1)).all inS = true := by
  rw [List.take_succ_eq_append_getElem hk, List.all_append, h]; simp [e]
theorem once_take_more {l : List Int} {k : Nat} (hk : k < l.length) (h : (l.take k).Nodup) (e : l[k] ∉ l.take k) : (l.take (k + 1)).Nodup := by
  rw [List.take_succ_eq_append_getElem hk, List.nodup_append]
  refine ⟨h, by simp, ?_⟩
  intro a ha b hb
  simp at hb
  subst hb
  exact fun e2 => e (e2 ▸ ha)
theorem once_not {l : List Int} {k : Nat} (hk : k < l.length) (e : l[k] ∈ l.take k) : onceB l = false := by
  unfold onceB
  rw [decide_eq_false_iff_not]
  intro h
  have h2 : (l.take (k + 1)).Nodup := h.sublist (List.take_sublist _ _)
  rw [List.take_succ_eq_append_getElem hk, List.nodup_append] at h2
  exact h2.2.2 _ e l[k] (by simp) rfl
theorem once_yes {l : List Int} (h : (l.take l.length).Nodup) : onceB l = true := by
  rw [List.take_length] at h
  exact decide_eq_true h
theorem sources_turned (l : List Int) (j : Bool) (k : Nat) : sourcesV (l.drop k ++ l.take k) j = sourcesV l j := by
  have hp : (l.drop k ++ l.take k).Perm l := List.perm_append_comm.trans (by rw [List.take_append_drop])
  have hl := hp.length_eq
  have ha : (l.drop k ++ l.take k).all inS = l.all inS := by
    rw [Bool.eq_iff_iff, List.all_eq_true, List.all_eq_true]
    exact ⟨fun h x hx => h x (hp.mem_iff.2 hx), fun h x hx => h x (hp.mem_iff.1 hx)⟩
  have ho : onceB (l.drop k ++ l.take k) = onceB l := decide_eq_decide.2 hp.nodup_iff
  unfold sourcesV
  rw [hl, ha, ho]

/-! ### Names -/
def nameAt : Nat → ByteArray
  | 0 => ⟨#[97]⟩
  | 1 => ⟨#[98]⟩
  | 2 => ⟨#[99]⟩
  | _ => ⟨#[100]⟩
def nameV (n : Int) : ByteArray × Int := if 0 ≤ n ∧ n ≤ 3 then (nameAt n.toNat, 0) else (⟨#[]⟩, 2)
theorem nameV_in {k : Nat} (h : k < 4) : nameV (k : Int) = (nameAt k, 0) := by
  unfold nameV; rw [if_pos ⟨by omega, by omega⟩, Int.toNat_natCast]
theorem nameV_out {n : Int} (h : inS n = false) : nameV n = (⟨#[]⟩, 2) := if_neg (of_decide_eq_false h)
theorem nameV_err {n : Int} : (nameV n).2 = if inS n = true then 0 else 2 := by
  cases h : inS n
  · rw [nameV_out h]; rfl
  · have := of_decide_eq_true h
    unfold nameV; rw [if_pos this]; rfl
def sourceV (s : ByteArray) : Int × Int :=
  if s.data.toList = (nameAt 0).data.toList then (0, 0) else if s.data.toList = (nameAt 1).data.toList then (1, 0) else if s.data.toList = (nameAt 2).data.toList then (2, 0) else if s.data.toList = (nameAt 3).data.toList then (3, 0) else (0, 2)
theorem source_hit {s : ByteArray} {k : Nat} (hk : k < 4) (hall : ∀ j, j < k → s.data.toList ≠ (nameAt j).data.toList) (h : s.data.toList = (nameAt k).data.toList) : sourceV s = ((k : Int), 0) := by
  unfold sourceV
  match k, hk with
  | 0, _ => rw [if_pos h]; rfl
  | 1, _ => rw [if_neg (hall 0 (by omega)), if_pos h]; rfl
  | 2, _ => rw [if_neg (hall 0 (by omega)), if_neg (hall 1 (by omega)), if_pos h]; rfl
  | 3, _ => rw [if_neg (hall 0 (by omega)), if_neg (hall 1 (by omega)), if_neg (hall 2 (by omega)), if_pos h]; rfl
theorem source_miss {s : ByteArray} (hall : ∀ j, j < 4 → s.data.toList ≠ (nameAt j).data.toList) : sourceV s = (0, 2) := by
  unfold sourceV
  rw [if_neg (hall 0 (by omega)), if_neg (hall 1 (by omega)), if_neg (hall 2 (by omega)), if_neg (hall 3 (by omega))]
theorem source_name : ∀ k : Nat, k < 4 → sourceV (nameAt k) = ((k : Int), 0) ∧ (nameAt k).size = 1
  | 0, _ => ⟨by decide, rfl⟩
  | 1, _ => ⟨by decide, rfl⟩
  | 2, _ => ⟨by decide, rfl⟩
  | 3, _ => ⟨by decide, rfl⟩
  | _ + 4, h => absurd h (by omega)

/-! ### Queries -/
structure Qy where
  agg : Int
  arg : List Nd
  src : List Int
  join : Bool
  cond : List Nd
  win : Wn
  key : Bool
  late : Int
def argV (agg : Int) (l : List Nd) : Int := if agg = 1 then (if l.length = 0 then 0 else 8) else checkV l
def condV (l : List Nd) : Int := if l.length = 0 then 0 else checkV l
def headB (q : Qy) : Bool := decide (1 ≤ q.agg ∧ q.agg ≤ 4 ∧ 1 ≤ q.late ∧ q.late ≤ 2)
def tailV (q : Qy) : Int := if q.join = true ∧ q.win.kind ≠ 1 then 8 else 0
def checkQ (q : Qy) : Int :=
  if headB q = false then 8
  else if argV q.agg q.arg ≠ 0 then argV q.agg q.arg
  else if condV q.cond ≠ 0 then condV q.cond
  else if sourcesV q.src q.join ≠ 0 then sourcesV q.src q.join
  else if windowV q.win ≠ 0 then windowV q.win
  else tailV q
theorem checkQ_ok {q : Qy} : checkQ q = 0 ↔ headB q = true ∧ argV q.agg q.arg = 0 ∧ condV q.cond = 0 ∧ sourcesV q.src q.join = 0 ∧ windowV q.win = 0 ∧ (q.join = true → q.win.kind = 1) := by
  unfold checkQ tailV
  constructor
  · intro h
    split at h
    · cases h
    rename_i h1
    split at h
    · rename_i h2; exact absurd h h2
    rename_i h2
    split at h
    · rename_i h3; exact absurd h h3
    rename_i h3
    split at h
    · rename_i h4; exact absurd h h4
    rename_i h4
    split at h
    · rename_i h5; exact absurd h h5
    rename_i h5
    split at h
    · cases h
    rename_i h6
    exact ⟨by simpa using h1, Classical.not_not.1 h2, Classical.not_not.1 h3, Classical.not_not.1 h4, Classical.not_not.1 h5, fun e => Classical.byContradiction fun f => h6 ⟨e, f⟩⟩
  · rintro ⟨h1, h2, h3, h4, h5, h6⟩
    rw [if_neg (by rw [h1]; simp), if_neg (by rw [h2]; simp), if_neg (by rw [h3]; simp), if_neg (by rw [h4]; simp), if_neg (by rw [h5]; simp), if_neg (by rintro ⟨e, f⟩; exact f (h6 e))]
theorem cond_valid {l : List Nd} (h : condV l = 0) : l.length = 0 ∨ checkV l = 0 := by
  unfold condV at h
  split at h
  · exact .inl ‹_›
  · exact .inr h
theorem arg_valid {g : Int} {l : List Nd} (h : argV g l = 0) : l.length = 0 ∨ checkV l = 0 := by
  unfold argV at h
  split at h
  · split at h
    · exact .inl ‹_›
    · cases h
  · exact .inr h
def coreQ (q : Qy) : Int × Bool × (Int × Int × Int) × Bool × Int := (q.agg, q.join, (q.win.kind, q.win.size, q.win.every), q.key, q.late)
def headsB (p q : Qy) : Bool := decide (coreQ p = coreQ q)
def restB (p q : Qy) : Bool := decide (p.src = q.src) && (alikeB p.arg q.arg && alikeB p.cond q.cond)
def alikeQ (p q : Qy) : Bool := headsB p q && restB p q
def equalQ (p q : Qy) : Bool := alikeQ p q && (equalB p.arg q.arg && equalB p.cond q.cond)
def sameQ (p q : Qy) : Bool × Int := if checkQ p = 0 then (if checkQ q = 0 then (alikeQ p q, 0) else (false, checkQ q)) else (false, checkQ p)
theorem sameQ_err {p q : Qy} (h : checkQ p ≠ 0) : sameQ p q = (false, checkQ p) := if_neg h
theorem sameQ_err2 {p q : Qy} (h : checkQ p = 0) (h2 : checkQ q ≠ 0) : sameQ p q = (false, checkQ q) := by unfold sameQ; rw [if_pos h, if_neg h2]
theorem sameQ_is {p q : Qy} (h : checkQ p = 0) (h2 : checkQ q = 0) : sameQ p q = (alikeQ p q, 0) := by unfold sameQ; rw [if_pos h, if_pos h2]
def greatQ (q : Qy) : Bool := decide (70 < q.arg.length ∨ 70 < q.cond.length ∨ 10 < q.src.length)
theorem alikeB_refl (l : List Nd) : alikeB l l = true := decide_eq_true rfl
theorem equalB_refl (l : List Nd) : equalB l l = true := decide_eq_true rfl
theorem alikeQ_refl (q : Qy) : alikeQ q q = true := by
  unfold alikeQ headsB restB
  rw [alikeB_refl, alikeB_refl]
  simp
theorem equalQ_refl (q : Qy) : equalQ q q = true := by
  unfold equalQ
  rw [alikeQ_refl, equalB_refl, equalB_refl]; rfl
theorem alikeB_symm (a b : List Nd) : alikeB a b = alikeB b a := decide_eq_decide.2 ⟨Eq.symm, Eq.symm⟩
theorem alikeQ_symm (p q : Qy) : alikeQ p q = alikeQ q p := by
  unfold alikeQ headsB restB
  rw [alikeB_symm p.arg, alikeB_symm p.cond, show decide (coreQ p = coreQ q) = decide (coreQ q = coreQ p) from decide_eq_decide.2 ⟨Eq.symm, Eq.symm⟩, show decide (p.src = q.src) = decide (q.src = p.src) from decide_eq_decide.2 ⟨Eq.symm, Eq.symm⟩]
theorem equal_alikeQ {p q : Qy} (h : alikeQ p q = false) : equalQ p q = false := by unfold equalQ; rw [h]; rfl

/-! ### A part in the place of another one -/
theorem checkQ_arg {q : Qy} (h1 : headB q = true) (h3 : condV q.cond = 0) (h4 : sourcesV q.src q.join = 0) (h5 : windowV q.win = 0) (h6 : q.join = true → q.win.kind = 1) : checkQ q = argV q.agg q.arg := by
  by_cases h : argV q.agg q.arg = 0
  · rw [h]; exact checkQ_ok.2 ⟨h1, h, h3, h4, h5, h6⟩
  · unfold checkQ; rw [if_neg (by rw [h1]; simp), if_pos h]
theorem checkQ_cond {q : Qy} (h1 : headB q = true) (h2 : argV q.agg q.arg = 0) (h4 : sourcesV q.src q.join = 0) (h5 : windowV q.win = 0) (h6 : q.join = true → q.win.kind = 1) : checkQ q = condV q.cond := by
  by_cases h : condV q.cond = 0
  · rw [h]; exact checkQ_ok.2 ⟨h1, h2, h, h4, h5, h6⟩
  · unfold checkQ; rw [if_neg (by rw [h1]; simp), if_neg (by rw [h2]; simp), if_pos h]
theorem checkQ_src {q : Qy} (h1 : headB q = true) (h2 : argV q.agg q.arg = 0) (h3 : condV q.cond = 0) (h5 : windowV q.win = 0) (h6 : q.join = true → q.win.kind = 1) : checkQ q = sourcesV q.src q.join := by
  by_cases h : sourcesV q.src q.join = 0
  · rw [h]; exact checkQ_ok.2 ⟨h1, h2, h3, h, h5, h6⟩
  · unfold checkQ; rw [if_neg (by rw [h1]; simp), if_neg (by rw [h2]; simp), if_neg (by rw [h3]; simp), if_pos h]
theorem checkQ_win {q : Qy} (h1 : headB q = true) (h2 : argV q.agg q.arg = 0) (h3 : condV q.cond = 0) (h4 : sourcesV q.src q.join = 0) (h6 : q.join = true → q.win.kind = 1) : checkQ q = windowV q.win := by
  by_cases h : windowV q.win = 0
  · rw [h]; exact checkQ_ok.2 ⟨h1, h2, h3, h4, h, h6⟩
  · unfold checkQ; rw [if_neg (by rw [h1]; simp), if_neg (by rw [h2]; simp), if_neg (by rw [h3]; simp), if_neg (by rw [h4]; simp), if_pos h]
theorem checkQ_tail {q : Qy} (h1 : headB q = true) (h2 : argV q.agg q.arg = 0) (h3 : condV q.cond = 0) (h4 : sourcesV q.src q.join = 0) (h5 : windowV q.win = 0) : checkQ q = tailV q := by
  unfold checkQ; rw [if_neg (by rw [h1]; simp), if_neg (by rw [h2]; simp), if_neg (by rw [h3]; simp), if_neg (by rw [h4]; simp), if_neg (by rw [h5]; simp)]
theorem no_join {q : Qy} (hj : q.join = false) {k : Int} : q.join = true → k = 1 := fun e => by rw [hj] at e; cases e
theorem place_win {q : Qy} (h : checkQ q = 0) (hj : q.join = false) (w : Wn) : checkQ ⟨q.agg, q.arg, q.src, q.join, q.cond, w, q.key, q.late⟩ = windowV w := by
  obtain ⟨h1, h2, h3, h4, h5, h6⟩ := checkQ_ok.1 h
  exact checkQ_win (q := ⟨q.agg, q.arg, q.src, q.join, q.cond, w, q.key, q.late⟩) h1 h2 h3 h4 (no_join hj)
theorem place_src {q : Qy} (h : checkQ q = 0) (hj : q.join = false) (l : List Int) : checkQ ⟨q.agg, q.arg, l, q.join, q.cond, q.win, q.key, q.late⟩ = sourcesV l false := by
  obtain ⟨h1, h2, h3, h4, h5, h6⟩ := checkQ_ok.1 h
  rw [checkQ_src (q := ⟨q.agg, q.arg, l, q.join, q.cond, q.win, q.key, q.late⟩) h1 h2 h3 h5 (no_join hj)]
  show sourcesV l q.join = _
  rw [hj]
theorem place_cond {q : Qy} (h : checkQ q = 0) (l : List Nd) : checkQ ⟨q.agg, q.arg, q.src, q.join, l, q.win, q.key, q.late⟩ = condV l := by
  obtain ⟨h1, h2, h3, h4, h5, h6⟩ := checkQ_ok.1 h
  exact checkQ_cond (q := ⟨q.agg, q.arg, q.src, q.join, l, q.win, q.key, q.late⟩) h1 h2 h4 h5 h6
theorem head_max {q : Qy} (h : headB q = true) (l : List Nd) : headB ⟨4, l, q.src, q.join, q.cond, q.win, q.key, q.late⟩ = true := by
  have := of_decide_eq_true h
  exact decide_eq_true ⟨by show (1 : Int) ≤ 4; omega, by show (4 : Int) ≤ 4; omega, this.2.2⟩
theorem place_arg {q : Qy} (h : checkQ q = 0) (l : List Nd) : checkQ ⟨4, l, q.src, q.join, q.cond, q.win, q.key, q.late⟩ = checkV l := by
  obtain ⟨h1, h2, h3, h4, h5, h6⟩ := checkQ_ok.1 h
  rw [checkQ_arg (q := ⟨4, l, q.src, q.join, q.cond, q.win, q.key, q.late⟩) (head_max h1 l) h3 h4 h5 h6]
  show argV 4 l = _
  unfold argV; rw [if_neg (by omega)]
/-- A join, and none. -/
def bothB (q : Qy) : Bool := decide (q.src.length = 2 ∧ q.win.kind = 1)
theorem join_both {q : Qy} (h : checkQ q = 0) (hj : q.join = true) : bothB q = true := by
  obtain ⟨h1, h2, h3, h4, h5, h6⟩ := checkQ_ok.1 h
  exact decide_eq_true ⟨(sources_ok.1 h4).2.2.1 hj, h6 hj⟩
theorem join_other {q : Qy} (h : checkQ q = 0) : checkQ ⟨q.agg, q.arg, q.src, !q.join, q.cond, q.win, q.key, q.late⟩ = if bothB q = true then 0 else 8 := by
  obtain ⟨h1, h2, h3, h4, h5, h6⟩ := checkQ_ok.1 h
  obtain ⟨k0, k4, kj, ka, ko⟩ := sources_ok.1 h4
  obtain ⟨y, hy⟩ : ∃ y, (!q.join) = y := ⟨_, rfl⟩
  rw [hy]
  cases hj : q.join
  · obtain rfl : y = true := by rw [← hy, hj]; rfl
    by_cases h2' : q.src.length = 2
    · have hs : sourcesV q.src true = 0 := sources_ok.2 ⟨k0, k4, fun _ => h2', ka, ko⟩
      rw [checkQ_tail (q := ⟨q.agg, q.arg, q.src, true, q.cond, q.win, q.key, q.late⟩) h1 h2 h3 hs h5]
      show (if true = true ∧ q.win.kind ≠ 1 then (8 : Int) else 0) = _
      by_cases hk : q.win.kind = 1
      · have hb : bothB q = true := decide_eq_true ⟨h2', hk⟩
        rw [if_pos hb, if_neg (fun e => e.2 hk)]
      · have hb : bothB q = false := decide_eq_false fun e => hk e.2
        rw [hb, if_pos ⟨rfl, hk⟩]; rfl
    · have hs : sourcesV q.src true = 8 := sources_two (by omega) rfl h2'
      have hb : bothB q = false := decide_eq_false fun e => h2' e.1
      rw [hb]
      unfold checkQ
      have h1' : headB ⟨q.agg, q.arg, q.src, true, q.cond, q.win, q.key, q.late⟩ = true := h1
      rw [if_neg (by rw [h1']; simp), if_neg (by simp only [h2]; simp), if_neg (by simp only [h3]; simp), if_pos (by simp only [hs]; simp)]
      simp only [hs]; simp
  · obtain rfl : y = false := by rw [← hy, hj]; rfl
    have hb := join_both h hj
    have hs : sourcesV q.src false = 0 := sources_ok.2 ⟨k0, k4, fun e => by (cases e), ka, ko⟩
    rw [if_pos hb, checkQ_tail (q := ⟨q.agg, q.arg, q.src, false, q.cond, q.win, q.key, q.late⟩) h1 h2 h3 hs h5]
    show (if false = true ∧ q.win.kind ≠ 1 then (8 : Int) else 0) = 0
    rw [if_neg (by rintro ⟨e, _⟩; cases e)]
/-- Moved. -/
def movedQ (p : Int) (q : Qy) : Qy := ⟨q.agg, moveL p q.arg, q.src, q.join, moveL p q.cond, q.win, q.key, q.late⟩
theorem move_len (p : Int) (l : List Nd) : (moveL p l).length = l.length := by unfold moveL; rw [List.length_map]
theorem moved_ok {p : Int} {q : Qy} (h0 : 0 ≤ p) (h1 : p ≤ 400) (h : checkQ q = 0) : checkQ (movedQ p q) = 0 := by
  obtain ⟨g1, g2, g3, g4, g5, g6⟩ := checkQ_ok.1 h
  refine checkQ_ok.2 ⟨g1, ?_, ?_, g4, g5, g6⟩
  · show argV q.agg (moveL p q.arg) = 0
    unfold argV at g2 ⊢
    rw [move_len]
    by_cases hc : q.agg = 1
    · rw [if_pos hc] at g2 ⊢; exact g2
    · rw [if_neg hc] at g2 ⊢; exact move_ok h0 h1 g2
  · show condV (moveL p q.cond) = 0
    unfold condV at g3 ⊢
    rw [move_len]
    by_cases hc : q.cond.length = 0
    · rw [if_pos hc]
    · rw [if_neg hc] at g3 ⊢; exact move_ok h0 h1 g3
theorem moved_alike (p : Int) (q : Qy) : alikeQ q (movedQ p q) = true := by
  unfold alikeQ headsB restB movedQ
  simp only [move_alike]
  simp [coreQ]
theorem key_other {q : Qy} (h : checkQ q = 0) : checkQ ⟨q.agg, q.arg, q.src, q.join, q.cond, q.win, !q.key, q.late⟩ = 0 ∧ alikeQ q ⟨q.agg, q.arg, q.src, q.join, q.cond, q.win, !q.key, q.late⟩ = false := by
  refine ⟨?_, ?_⟩
  · obtain ⟨g1, g2, g3, g4, g5, g6⟩ := checkQ_ok.1 h
    exact checkQ_ok.2 ⟨g1, g2, g3, g4, g5, g6⟩
  · unfold alikeQ headsB coreQ
    cases q.key <;> simp
theorem late_other {q : Qy} (h : checkQ q = 0) : checkQ ⟨q.agg, q.arg, q.src, q.join, q.cond, q.win, q.key, 3 - q.late⟩ = 0 ∧ alikeQ q ⟨q.agg, q.arg, q.src, q.join, q.cond, q.win, q.key, 3 - q.late⟩ = false := by
  obtain ⟨g1, g2, g3, g4, g5, g6⟩ := checkQ_ok.1 h
  have g := of_decide_eq_true g1
  refine ⟨checkQ_ok.2 ⟨decide_eq_true ⟨g.1, g.2.1, ?_, ?_⟩, g2, g3, g4, g5, g6⟩, ?_⟩
  · show (1 : Int) ≤ 3 - q.late; omega
  · show (3 : Int) - q.late ≤ 2; omega
  · have : headsB q ⟨q.agg, q.arg, q.src, q.join, q.cond, q.win, q.key, 3 - q.late⟩ = false := by
      unfold headsB coreQ
      refine decide_eq_false fun e => ?_
      simp only [Prod.mk.injEq, true_and] at e
      omega
    unfold alikeQ; rw [this]; rfl
end Go.Proofs.YtdinaedknlkicaaGreatDoor.Nodes

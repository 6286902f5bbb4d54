/-
  A node made of valid parts is valid, unless it is too great (layers 4 and 5). No program in this text.
-/
import Derived.Test.YtdinaedknlkicaaGreatDoorNodeLaws
namespace Go.Proofs.YtdinaedknlkicaaGreatDoor.Nodes

theorem sz_right (a r : Acc) (i : Nat) : sz (a ++ r) (a.length + i) = sz r i := by
  unfold sz; rw [List.getElem?_append_right (by omega), Nat.add_sub_cancel_left]
theorem dp_right (a r : Acc) (i : Nat) : dp (a ++ r) (a.length + i) = dp r i := by
  unfold dp; rw [List.getElem?_append_right (by omega), Nat.add_sub_cancel_left]
theorem right_shift {x : Nd} {a b : Int} {d : Int} (h : rightB x a b = true) : rightB (shift (-d) x) (if 0 < arity x.kind then a + d else a) (if 1 < arity x.kind then b + d else b) = true := by
  rw [right_iff] at h ⊢
  obtain ⟨h1, h2, h3, h4, h5, h6, h7, h8⟩ := h
  refine ⟨h1, h2, h3, h4, h5, h6, ?_, ?_⟩
  · unfold shift; simp only; split <;> omega
  · unfold shift; simp only; split <;> omega
/-- A step behind others: the indices are greater by how many those are. -/
theorem step_shift {a r : Acc} {x : Nd} {p : Nat × Nat} (h : step r x = some p) : step (a ++ r) (shift (-(a.length : Int)) x) = some p := by
  have hk : (shift (-(a.length : Int)) x).kind = x.kind := rfl
  rcases arity_cases x.kind with ha | ha | ha
  · rw [step0 ha] at h
    rw [step0 (by rw [hk]; exact ha)]
    split at h
    · rename_i hh
      have := right_shift (d := (a.length : Int)) hh
      rw [ha] at this
      simp only [Nat.lt_irrefl, if_false, Nat.not_lt_zero] at this
      rw [if_pos this]; exact h
    · cases h
  · rw [step1 ha] at h
    rw [step1 (by rw [hk]; exact ha)]
    split at h
    · cases h
    rename_i h0
    have hl : (a ++ r).length = a.length + r.length := List.length_append
    have e1 : (a ++ r).length - 1 = a.length + (r.length - 1) := by omega
    rw [if_neg (by omega), e1, sz_right, dp_right]
    split at h
    · rename_i hh
      have := right_shift (d := (a.length : Int)) hh
      rw [ha] at this
      simp only [Nat.lt_irrefl, if_false, Nat.zero_lt_one, if_true] at this
      rw [if_pos (by rw [show ((a.length + (r.length - 1) : Nat) : Int) = ((r.length - 1 : Nat) : Int) + (a.length : Int) by omega]; exact this)]
      exact h
    · cases h
  · rw [step2 ha] at h
    rw [step2 (by rw [hk]; exact ha)]
    split at h
    · cases h
    rename_i h0
    have hl : (a ++ r).length = a.length + r.length := List.length_append
    have e1 : (a ++ r).length - 1 = a.length + (r.length - 1) := by omega
    rw [if_neg (by omega), e1, sz_right, dp_right]
    split at h
    · cases h
    rename_i h1
    have e2 : a.length + (r.length - 1) - sz r (r.length - 1) = a.length + (r.length - 1 - sz r (r.length - 1)) := by omega
    rw [if_neg (by omega), e2, sz_right, dp_right]
    split at h
    · rename_i hh
      have := right_shift (d := (a.length : Int)) hh
      rw [ha] at this
      have g2 : (0 : Nat) < 2 := by omega
      have g1 : (1 : Nat) < 2 := by omega
      simp only [g1, g2, if_true] at this
      rw [if_pos (by
        rw [show ((a.length + (r.length - 1 - sz r (r.length - 1)) : Nat) : Int) = ((r.length - 1 - sz r (r.length - 1) : Nat) : Int) + (a.length : Int) by omega,
          show ((a.length + (r.length - 1) : Nat) : Int) = ((r.length - 1 : Nat) : Int) + (a.length : Int) by omega]
        exact this)]
      exact h
    · cases h
theorem run_shift (a : Acc) (l : List Nd) : ∀ r s, run r l = some s → run (a ++ r) (l.map (shift (-(a.length : Int)))) = some (a ++ s) := by
  induction l with
  | nil => intro r s h; cases h; rfl
  | cons x l ih =>
    intro r s h
    replace h : ((step r x).bind fun p => run (r ++ [p]) l) = some s := h
    cases hs : step r x with
    | none => rw [hs] at h; cases h
    | some p =>
      rw [hs] at h
      show ((step (a ++ r) (shift (-(a.length : Int)) x)).bind fun p => run (a ++ r ++ [p]) (l.map _)) = _
      rw [step_shift hs]
      have := ih (r ++ [p]) s h
      rw [← List.append_assoc] at this
      exact this
/-- What is made of valid parts: sizes and depths. -/
theorem made_run {k n at_ : Int} {ps : List (List Nd)} (h1 : 1 ≤ k ∧ k ≤ 19 ∧ arity k = ps.length ∧ 0 ≤ n ∧ (n = 0 ∨ k = 1) ∧ 0 ≤ at_ ∧ at_ ≤ 400) (h2 : ∀ p ∈ ps, checkV p = 0) :
    ∃ r, run [] (madeL k n at_ ps) = some r ∧ 0 < (madeL k n at_ ps).length ∧ sz r ((madeL k n at_ ps).length - 1) = (madeL k n at_ ps).length := by
  obtain ⟨k1, k2, ka, k3, k4, k5, k6⟩ := h1
  match ps, ka, h2 with
  | [], ka, _ =>
    refine ⟨[(1, 1)], ?_, by simp [madeL], rfl⟩
    show run [] [_] = _
    rw [run_one, step0 (by exact ka), if_pos (right_iff.2 ⟨k1, k2, k3, k4, k5, k6, rfl, rfl⟩)]
    rfl
  | [p], ka, h2 =>
    obtain ⟨hr, q0, _, qs, _⟩ := check_acc (h2 p (by simp))
    have hl := (run_good.1 hr).1
    refine ⟨accV p ++ [(1 + sz (accV p) (p.length - 1), 1 + dp (accV p) (p.length - 1))], ?_, by simp [madeL], ?_⟩
    · show run [] (p ++ [_]) = _
      rw [run_append, hr]
      show run (accV p) [_] = _
      rw [run_one, step1 (by exact ka), if_neg (by omega), hl, if_pos (right_iff.2 ⟨k1, k2, k3, k4, k5, k6, by show (p.length : Int) - 1 = _; omega, rfl⟩)]
      rfl
    · have e : (madeL k n at_ [p]).length = p.length + 1 := by simp [madeL]
      rw [e, Nat.add_sub_cancel]
      have := sz_right (accV p) [(1 + sz (accV p) (p.length - 1), 1 + dp (accV p) (p.length - 1))] 0
      rw [Nat.add_zero, hl] at this
      rw [this]
      show 1 + sz (accV p) (p.length - 1) = _
      rw [qs]; omega
  | [p, q], ka, h2 =>
    obtain ⟨hr, q0, _, qs, _⟩ := check_acc (h2 p (by simp))
    obtain ⟨hr2, t0, _, ts, _⟩ := check_acc (h2 q (by simp))
    have hl := (run_good.1 hr).1
    have hl2 := (run_good.1 hr2).1
    have hsh := run_shift (accV p) q [] (accV q) hr2
    rw [List.append_nil, hl] at hsh
    have hll : (accV p ++ accV q).length = p.length + q.length := by rw [List.length_append]; omega
    have e1 : p.length + q.length - 1 = (accV p).length + (q.length - 1) := by omega
    have s1 : sz (accV p ++ accV q) (p.length + q.length - 1) = q.length := by rw [e1, sz_right]; exact ts
    have e2 : p.length + q.length - 1 - q.length = p.length - 1 := by omega
    have s2 : sz (accV p ++ accV q) (p.length - 1) = p.length := by
      unfold sz
      rw [List.getElem?_append_left (by omega)]
      exact qs
    refine ⟨accV p ++ accV q ++ [(1 + q.length + p.length, max (1 + dp (accV p ++ accV q) (p.length + q.length - 1)) (1 + dp (accV p ++ accV q) (p.length - 1)))], ?_, by simp [madeL]; omega, ?_⟩
    · show run [] (p ++ q.map (shift (-(p.length : Int))) ++ [_]) = _
      rw [run_append, run_append, hr]
      show (run (accV p) (q.map (shift (-(p.length : Int))))).bind _ = _
      rw [hsh]
      show run (accV p ++ accV q) [_] = _
      rw [run_one, step2 (by exact ka), hll, if_neg (by omega), s1, if_neg (by omega), e2, s2, if_pos (right_iff.2 ⟨k1, k2, k3, k4, k5, k6, by show (p.length : Int) - 1 = _; omega, by show (p.length : Int) + q.length - 1 = _; omega⟩)]
      rfl
    · have e : (madeL k n at_ [p, q]).length = p.length + q.length + 1 := by simp [madeL]; omega
      rw [e, Nat.add_sub_cancel]
      have := sz_right (accV p ++ accV q) [(1 + q.length + p.length, max (1 + dp (accV p ++ accV q) (p.length + q.length - 1)) (1 + dp (accV p ++ accV q) (p.length - 1)))] 0
      rw [Nat.add_zero, hll] at this
      rw [this]
      show 1 + q.length + p.length = _
      omega
  | _ :: _ :: _ :: _, ka, _ =>
    exfalso
    simp only [List.length_cons] at ka
    rcases arity_cases k with h | h | h <;> omega
/-- .. so it is valid, or has too many nodes, or is too deep. -/
theorem made_check {k n at_ : Int} {ps : List (List Nd)} (h1 : 1 ≤ k ∧ k ≤ 19 ∧ arity k = ps.length ∧ 0 ≤ n ∧ (n = 0 ∨ k = 1) ∧ 0 ≤ at_ ∧ at_ ≤ 400) (h2 : ∀ p ∈ ps, checkV p = 0) :
    checkV (madeL k n at_ ps) = if 60 < (madeL k n at_ ps).length then 4 else if 20 < dp (accV (madeL k n at_ ps)) ((madeL k n at_ ps).length - 1) then 34 else 0 := by
  obtain ⟨r, hr, h0, hs⟩ := made_run h1 h2
  unfold checkV
  rw [acc_is hr, hr]
  by_cases h60 : 60 < (madeL k n at_ ps).length
  · rw [if_pos h60, if_pos h60]
  · rw [if_neg h60, if_neg h60]
    simp only
    rw [if_pos ⟨h0, hs⟩]
end Go.Proofs.YtdinaedknlkicaaGreatDoor.Nodes

/-
  Tokens of a text, plainly (layer 3): the leading bytes of a kind, the token in front of a text, all tokens with their places; and what layer 3's statements say of them. No program in this text.
-/
import Derived.Test.YtdinaedknlkicaaGreatDoorCharsMath
import Derived.Test.YtdinaedknlkicaaGreatDoorReadDefs
namespace Go.Proofs.YtdinaedknlkicaaGreatDoor

/-! ### Leading bytes of a kind -/
def isKind (k : Int) (c : UInt8) : Bool := decide (kindV (c.toNat : Int) = k)
/-- How many bytes of a kind lead a text. -/
def runN (k : Int) (l : List UInt8) : Nat := (l.takeWhile (isKind k)).length
theorem runN_le (k : Int) (l : List UInt8) : runN k l ≤ l.length := (List.takeWhile_prefix (isKind k)).length_le
theorem runN_nil (k : Int) : runN k [] = 0 := rfl
theorem runN_yes {k : Int} {c : UInt8} (h : isKind k c = true) (l : List UInt8) : runN k (c :: l) = runN k l + 1 := by
  unfold runN; rw [List.takeWhile_cons_of_pos h]; rfl
theorem runN_no {k : Int} {c : UInt8} (h : isKind k c = false) (l : List UInt8) : runN k (c :: l) = 0 := by
  unfold runN; rw [List.takeWhile_cons_of_neg (by simp [h])]; rfl
theorem take_run (k : Int) (l : List UInt8) : l.take (runN k l) = l.takeWhile (isKind k) := by
  unfold runN
  exact (List.prefix_iff_eq_take.1 (List.takeWhile_prefix _)).symm
theorem run_all (k : Int) (l : List UInt8) : ∀ c ∈ l.take (runN k l), isKind k c = true := by
  rw [take_run]
  intro c hc
  exact List.all_eq_true.1 List.all_takeWhile c hc
theorem run_cut (k : Int) (l : List UInt8) (m : Nat) (h : runN k l ≤ m) : runN k (l.take m) = runN k l := by
  induction l generalizing m with
  | nil => simp [runN_nil]
  | cons c l ih =>
    cases hc : isKind k c with
    | false =>
      rw [runN_no hc] at h ⊢
      cases m with
      | zero => rfl
      | succ m => rw [List.take_succ_cons, runN_no hc]
    | true =>
      rw [runN_yes hc] at h ⊢
      cases m with
      | zero => omega
      | succ m => rw [List.take_succ_cons, runN_yes hc, ih m (by omega)]
theorem run_stop (k : Int) (l : List UInt8) (m : List UInt8) (hall : ∀ c ∈ l, isKind k c = true) (hm : runN k m = 0) : runN k (l ++ m) = l.length := by
  induction l with
  | nil => simpa using hm
  | cons c l ih => rw [List.cons_append, runN_yes (hall c (by simp)), ih (fun d hd => hall d (by simp [hd]))]; rfl
theorem run_more (k : Int) (l : List UInt8) (m : List UInt8) (hall : ∀ c ∈ l, isKind k c = true) : runN k (l ++ m) = l.length + runN k m := by
  induction l with
  | nil => simp
  | cons c l ih => rw [List.cons_append, runN_yes (hall c (by simp)), ih (fun d hd => hall d (by simp [hd]))]; simp; omega
theorem run_behind (k : Int) (l : List UInt8) : runN k (l.drop (runN k l)) = 0 := by
  induction l with
  | nil => rfl
  | cons c l ih =>
    cases hc : isKind k c with
    | false => rw [runN_no hc, List.drop_zero, runN_no hc]
    | true => rw [runN_yes hc, List.drop_succ_cons, ih]

/-! ### The token in front of a text -/
/-- Its kind (0: none), how many bytes it has, and its error. -/
def tokK : List UInt8 → Int
  | [] => 0
  | c :: l => if isKind 2 c then 1 else if isKind 3 c then 2 else if symL (c :: l) = 0 then 0 else 3
def tokN : List UInt8 → Nat
  | [] => 0
  | c :: l => if isKind 2 c then runN 2 (c :: l) else if isKind 3 c then runN 3 (c :: l) else symL (c :: l)
def tokE : List UInt8 → Int
  | [] => 32
  | c :: l => if isKind 2 c then rdE ((c :: l).take (runN 2 (c :: l))) else if isKind 3 c then (if wordB ((c :: l).take (runN 3 (c :: l))) then 0 else 32) else if symL (c :: l) = 0 then 32 else 0
theorem tok_two {c : UInt8} (h : isKind 2 c = true) (l : List UInt8) : tokK (c :: l) = 1 ∧ tokN (c :: l) = runN 2 (c :: l) ∧ tokE (c :: l) = rdE ((c :: l).take (runN 2 (c :: l))) := by
  refine ⟨?_, ?_, ?_⟩
  · show (if isKind 2 c then (1 : Int) else _) = 1; rw [if_pos h]
  · show (if isKind 2 c then runN 2 (c :: l) else _) = _; rw [if_pos h]
  · show (if isKind 2 c then rdE ((c :: l).take (runN 2 (c :: l))) else _) = _; rw [if_pos h]
theorem tok_three {c : UInt8} (h2 : isKind 2 c = false) (h : isKind 3 c = true) (l : List UInt8) :
    tokK (c :: l) = 2 ∧ tokN (c :: l) = runN 3 (c :: l) ∧ tokE (c :: l) = if wordB ((c :: l).take (runN 3 (c :: l))) then 0 else 32 := by
  have h2' : ¬ isKind 2 c = true := by rw [h2]; simp
  refine ⟨?_, ?_, ?_⟩
  · show (if isKind 2 c then (1 : Int) else if isKind 3 c then 2 else _) = 2; rw [if_neg h2', if_pos h]
  · show (if isKind 2 c then runN 2 (c :: l) else if isKind 3 c then runN 3 (c :: l) else _) = _; rw [if_neg h2', if_pos h]
  · show (if isKind 2 c then rdE ((c :: l).take (runN 2 (c :: l))) else if isKind 3 c then (if wordB ((c :: l).take (runN 3 (c :: l))) then (0 : Int) else 32) else _) = _; rw [if_neg h2', if_pos h]
theorem tok_other {c : UInt8} (h2 : isKind 2 c = false) (h3 : isKind 3 c = false) (l : List UInt8) :
    tokK (c :: l) = (if symL (c :: l) = 0 then 0 else 3) ∧ tokN (c :: l) = symL (c :: l) ∧ tokE (c :: l) = if symL (c :: l) = 0 then 32 else 0 := by
  have h2' : ¬ isKind 2 c = true := by rw [h2]; simp
  have h3' : ¬ isKind 3 c = true := by rw [h3]; simp
  refine ⟨?_, ?_, ?_⟩
  · show (if isKind 2 c then (1 : Int) else if isKind 3 c then 2 else if symL (c :: l) = 0 then 0 else 3) = _; rw [if_neg h2', if_neg h3']
  · show (if isKind 2 c then runN 2 (c :: l) else if isKind 3 c then runN 3 (c :: l) else symL (c :: l)) = _; rw [if_neg h2', if_neg h3']
  · show (if isKind 2 c then rdE ((c :: l).take (runN 2 (c :: l))) else if isKind 3 c then (if wordB ((c :: l).take (runN 3 (c :: l))) then (0 : Int) else 32) else if symL (c :: l) = 0 then 32 else 0) = _; rw [if_neg h2', if_neg h3']
theorem tokN_le (l : List UInt8) : tokN l ≤ l.length := by
  cases l with
  | nil => exact Nat.le_refl _
  | cons c l =>
    show (if isKind 2 c then runN 2 (c :: l) else if isKind 3 c then runN 3 (c :: l) else symL (c :: l)) ≤ _
    split
    · exact runN_le _ _
    split
    · exact runN_le _ _
    · exact (sym_le _).2
theorem tokN_pos {l : List UInt8} (h : tokE l = 0) : 0 < tokN l := by
  cases l with
  | nil => simp [tokE] at h
  | cons c l =>
    show 0 < (if isKind 2 c then runN 2 (c :: l) else if isKind 3 c then runN 3 (c :: l) else symL (c :: l))
    replace h : (if isKind 2 c then rdE ((c :: l).take (runN 2 (c :: l))) else if isKind 3 c then (if wordB ((c :: l).take (runN 3 (c :: l))) then 0 else 32) else if symL (c :: l) = 0 then 32 else 0) = (0 : Int) := h
    split
    · rename_i h2; rw [runN_yes h2]; omega
    split
    · rename_i h3; rw [runN_yes h3]; omega
    · rename_i h2 h3
      rw [if_neg h2, if_neg h3] at h
      split at h
      · simp at h
      · omega

/-! ### All tokens -/
structure Tok where
  kind : Int
  at_ : Int
  text : List UInt8
/-- The tokens of a text that begins at place 'off', 'cnt' tokens being there already; the place where it ends, or the error is; the error. -/
def lexF : Nat → Nat → Nat → List UInt8 → List Tok × Nat × Int
  | 0, off, _, _ => ([], off, 0)
  | f + 1, off, cnt, l =>
    if l.drop (runN 1 l) = [] then ([], off + l.length, 0)
    else if cnt = 200 then ([], off + runN 1 l, 4)
    else if tokE (l.drop (runN 1 l)) = 0 then
      let r := lexF f (off + runN 1 l + tokN (l.drop (runN 1 l))) (cnt + 1) ((l.drop (runN 1 l)).drop (tokN (l.drop (runN 1 l))))
      (⟨tokK (l.drop (runN 1 l)), ((off + runN 1 l : Nat) : Int), (l.drop (runN 1 l)).take (tokN (l.drop (runN 1 l)))⟩ :: r.1, r.2.1, r.2.2)
    else ([], off + runN 1 l, tokE (l.drop (runN 1 l)))
/-- What All returns: tokens, a place, an error. -/
def allV (l : List UInt8) : List Tok × Nat × Int :=
  if 400 < l.length then ([], 0, 4) else
    let r := lexF (l.length + 1) 0 0 l
    if r.2.2 = 0 then r else ([], r.2.1, r.2.2)
theorem lex_fuel (f : Nat) : ∀ (g off cnt : Nat) (l : List UInt8), l.length < f → l.length < g → lexF f off cnt l = lexF g off cnt l := by
  induction f with
  | zero => intro g off cnt l h; omega
  | succ f ih =>
    intro g off cnt l hf hg
    cases g with
    | zero => omega
    | succ g =>
      unfold lexF
      split
      · rfl
      split
      · rfl
      split
      · rename_i hne _ he
        have hp := tokN_pos he
        have hlen : ((l.drop (runN 1 l)).drop (tokN (l.drop (runN 1 l)))).length < l.length := by
          rw [List.length_drop, List.length_drop]
          have : (l.drop (runN 1 l)).length ≠ 0 := fun h => hne (List.length_eq_zero_iff.1 h)
          rw [List.length_drop] at this
          omega
        rw [ih g _ _ _ (by omega) (by omega)]
      · rfl
/-! ### All, step by step -/
/-- What is left to find behind some tokens. -/
def Left (l : List UInt8) (f off : Nat) (ts : List Tok) : Prop :=
  lexF (l.length + 1) 0 0 l = (ts ++ (lexF f off ts.length (l.drop off)).1, (lexF f off ts.length (l.drop off)).2)
theorem left_start (l : List UInt8) : Left l (l.length + 1) 0 [] := by
  unfold Left; rfl
theorem left_end {l : List UInt8} {f off : Nat} {ts : List Tok} (h : Left l (f + 1) off ts) (ho : off ≤ l.length) (he : l.length ≤ off + runN 1 (l.drop off)) : lexF (l.length + 1) 0 0 l = (ts, l.length, 0) := by
  have hd : (l.drop off).drop (runN 1 (l.drop off)) = [] := List.drop_of_length_le (by rw [List.length_drop]; omega)
  unfold Left at h
  rw [h]
  conv => lhs; unfold lexF
  rw [if_pos hd, List.length_drop, List.append_nil, show off + (l.length - off) = l.length by omega]
theorem left_many {l : List UInt8} {f off : Nat} {ts : List Tok} (h : Left l (f + 1) off ts) (hr : off + runN 1 (l.drop off) < l.length) (hc : ts.length = 200) : lexF (l.length + 1) 0 0 l = (ts, off + runN 1 (l.drop off), 4) := by
  have hd : ¬ (l.drop off).drop (runN 1 (l.drop off)) = [] := by
    intro h; have := congrArg List.length h; simp only [List.length_drop, List.length_nil] at this; omega
  unfold Left at h
  rw [h]
  conv => lhs; unfold lexF
  rw [if_neg hd, if_pos hc, List.append_nil]
theorem left_bad {l : List UInt8} {f off : Nat} {ts : List Tok} (h : Left l (f + 1) off ts) (hr : off + runN 1 (l.drop off) < l.length) (hc : ¬ ts.length = 200) (he : ¬ tokE (l.drop (off + runN 1 (l.drop off))) = 0) :
    lexF (l.length + 1) 0 0 l = (ts, off + runN 1 (l.drop off), tokE (l.drop (off + runN 1 (l.drop off)))) := by
  have hd : ¬ (l.drop off).drop (runN 1 (l.drop off)) = [] := by
    intro h; have := congrArg List.length h; simp only [List.length_drop, List.length_nil] at this; omega
  unfold Left at h
  rw [h]
  rw [← List.drop_drop] at he ⊢
  conv => lhs; unfold lexF
  rw [if_neg hd, if_neg hc, if_neg he, List.append_nil]
/-- The token at a place. -/
def newTok (l : List UInt8) (p : Nat) : Tok := ⟨tokK (l.drop p), (p : Int), (l.drop p).take (tokN (l.drop p))⟩
theorem left_step {l : List UInt8} {f off : Nat} {ts : List Tok} (h : Left l (f + 1) off ts) (hr : off + runN 1 (l.drop off) < l.length) (hc : ¬ ts.length = 200) {p : Nat} (hp : off + runN 1 (l.drop off) = p) (he : tokE (l.drop p) = 0) :
    Left l f (p + tokN (l.drop p)) (ts ++ [newTok l p]) := by
  show Left l f (p + tokN (l.drop p)) (ts ++ [⟨tokK (l.drop p), (p : Int), (l.drop p).take (tokN (l.drop p))⟩])
  have hd : ¬ (l.drop off).drop (runN 1 (l.drop off)) = [] := by
    intro h; have := congrArg List.length h; simp only [List.length_drop, List.length_nil] at this; omega
  have e : (l.drop off).drop (runN 1 (l.drop off)) = l.drop p := by rw [List.drop_drop, hp]
  unfold Left at h ⊢
  rw [h]
  conv => lhs; unfold lexF
  rw [e, if_neg (by rw [← e]; exact hd), if_neg hc, if_pos he, hp, List.drop_drop]
  simp only [List.length_append, List.length_cons, List.length_nil, List.append_assoc, List.cons_append, List.nil_append]

/-! ### Valid tokens -/
def validB (k : Int) (l : List UInt8) : Bool :=
  if k = 1 then rdE l == 0 else if k = 2 then wordB l else if k = 3 then decide (0 < l.length ∧ symL l = l.length) else false

/-! ### Comparing tokens -/
def core (t : Tok) : Int × List UInt8 := (t.kind, t.text)
def full (t : Tok) : Int × List UInt8 × Int := (t.kind, t.text, t.at_)
def alikeB (a b : List Tok) : Bool := decide (a.map core = b.map core)
def sameB (a b : List Tok) : Bool := decide (a.map full = b.map full)
theorem map_len {α : Type} {f : Tok → α} {a b : List Tok} (h : ¬ a.length = b.length) : ¬ a.map f = b.map f := by
  intro e
  have := congrArg List.length e
  simp at this
  exact h this
theorem map_more {α : Type} {f : Tok → α} {a b : List Tok} {k : Nat} (ha : k < a.length) (hb : k < b.length) (h : (a.take k).map f = (b.take k).map f) (e : f a[k] = f b[k]) : (a.take (k + 1)).map f = (b.take (k + 1)).map f := by
  rw [List.take_succ_eq_append_getElem ha, List.take_succ_eq_append_getElem hb, List.map_append, List.map_append, h]
  simp [e]
theorem map_differ {α : Type} {f : Tok → α} {a b : List Tok} {k : Nat} (ha : k < a.length) (hb : k < b.length) (e : f a[k] ≠ f b[k]) : ¬ a.map f = b.map f := by
  intro h
  apply e
  have h1 : (a.map f)[k]? = (b.map f)[k]? := by rw [h]
  rw [List.getElem?_map, List.getElem?_map, List.getElem?_eq_getElem ha, List.getElem?_eq_getElem hb] at h1
  simpa using h1

/-! ### Tokens joined -/
/-- The texts of the first k tokens, with a blank between any two. -/
def joinN (ts : List Tok) : Nat → List UInt8
  | 0 => []
  | k + 1 => (if k = 0 then [] else joinN ts k ++ [32]) ++ ((ts[k]?).map (·.text)).getD []
def validT (t : Tok) : Bool := validB t.kind t.text
def joinV (ts : List Tok) : List UInt8 × Int :=
  if 200 < ts.length then ([], 4) else if ts.all validT = false then ([], 8) else if 400 < (joinN ts ts.length).length then ([], 18) else (joinN ts ts.length, 0)
theorem joinN_one {ts : List Tok} (h : 0 < ts.length) : joinN ts 1 = ts[0].text := by
  show (if (0 : Nat) = 0 then ([] : List UInt8) else _) ++ _ = _
  rw [if_pos rfl, List.getElem?_eq_getElem h]; rfl
theorem joinN_succ {ts : List Tok} {k : Nat} (h0 : 0 < k) (h : k < ts.length) : joinN ts (k + 1) = joinN ts k ++ [32] ++ ts[k].text := by
  show (if k = 0 then ([] : List UInt8) else joinN ts k ++ [32]) ++ _ = _
  rw [if_neg (by omega), List.getElem?_eq_getElem h]; rfl
end Go.Proofs.YtdinaedknlkicaaGreatDoor

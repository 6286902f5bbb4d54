/-
  What package chars' answers are: kinds of bytes, the symbol in front of a text, words; and what layer 2's statements say of them.
-/
import Init
namespace Go.Proofs.YtdinaedknlkicaaGreatDoor

/-! ### Kinds -/
def isSym (c : Int) : Prop := c = 40 ∨ c = 41 ∨ c = 42 ∨ c = 43 ∨ c = 45 ∨ c = 60 ∨ c = 61 ∨ c = 62 ∨ c = 33
instance (c : Int) : Decidable (isSym c) := by unfold isSym; infer_instance
/-- The kind of a byte. -/
def kindV (c : Int) : Int :=
  if c = 32 ∨ c = 10 then 1 else if 48 ≤ c ∧ c ≤ 57 then 2 else if 97 ≤ c ∧ c ≤ 122 then 3
  else if isSym c then 4 else 0
theorem kind_sym {c : Int} (h : isSym c) : kindV c = 4 := by
  unfold isSym at h
  rcases h with h | h | h | h | h | h | h | h | h <;> (subst h; decide)
theorem kind_letter {c : Int} (h : 97 ≤ c ∧ c ≤ 122) : kindV c = 3 := by
  unfold kindV
  rw [if_neg (by omega), if_neg (by omega), if_pos h]
theorem kind_digit {c : Int} (h : 48 ≤ c ∧ c ≤ 57) : kindV c = 2 := by
  unfold kindV
  rw [if_neg (by omega), if_pos h]
theorem sym_kind {c : Int} (h : kindV c = 4) : isSym c := by
  unfold kindV at h
  split at h; · omega
  split at h; · omega
  split at h; · omega
  split at h
  · assumption
  · omega
theorem kind_range (c : Int) : 0 ≤ kindV c ∧ kindV c ≤ 4 := by
  unfold kindV
  split; · omega
  split; · omega
  split; · omega
  split <;> omega

/-! ### Symbols -/
/-- The symbols, and the words, in the order of the program's tables; the symbols in the reference's order. -/
def symTab : List (List UInt8) := [[40], [41], [42], [43], [45], [60], [60, 61], [60, 60], [62], [62, 61], [62, 62], [61], [33, 61]]
def wordTab : List (List UInt8) := [[115, 101, 108, 101, 99, 116], [99, 111, 117, 110, 116], [115, 117, 109], [109, 105, 110], [109, 97, 120], [102, 114, 111, 109], [117, 110, 105, 111, 110], [106, 111, 105, 110], [119, 104, 101, 114, 101], [119, 105, 110, 100, 111, 119], [116, 117, 109, 98, 108, 101], [115, 108, 105, 100, 101], [101, 118, 101, 114, 121], [115, 101, 115, 115, 105, 111, 110], [98, 121], [107, 101, 121], [108, 97, 116, 101], [100, 114, 111, 112], [115, 105, 100, 101], [97, 110, 100], [111, 114], [110, 111, 116], [97], [98], [99], [100], [107], [116], [118]]
def refTab : List (List UInt8) := [[60, 61], [60, 60], [62, 61], [62, 62], [33, 61], [40], [41], [42], [43], [45], [60], [62], [61]]

/-- The longest of the first k symbols that begin a text. -/
def best (l : List UInt8) : Nat → Nat
  | 0 => 0
  | k + 1 => if (symTab.getD k []).isPrefixOf l then max (best l k) (symTab.getD k []).length else best l k
def oneB (a : UInt8) : Bool := a == 40 || a == 41 || a == 42 || a == 43 || a == 45 || a == 60 || a == 62 || a == 61
def twoB (a b : UInt8) : Bool := a == 60 && (b == 61 || b == 60) || a == 62 && (b == 61 || b == 62) || a == 33 && b == 61
/-- How many bytes the symbol in front of a text has. -/
def symL : List UInt8 → Nat
  | [] => 0
  | [a] => if oneB a then 1 else 0
  | a :: b :: _ => if twoB a b then 2 else if oneB a then 1 else 0
def refL (l : List UInt8) : Nat := ((refTab.find? (·.isPrefixOf l)).map (·.length)).getD 0

theorem one_cases {a : UInt8} (h : oneB a = true) : a = 40 ∨ a = 41 ∨ a = 42 ∨ a = 43 ∨ a = 45 ∨ a = 60 ∨ a = 62 ∨ a = 61 := by
  simpa [oneB, or_assoc] using h
theorem two_cases {a b : UInt8} (h : twoB a b = true) : (a = 60 ∧ (b = 61 ∨ b = 60)) ∨ (a = 62 ∧ (b = 61 ∨ b = 62)) ∨ (a = 33 ∧ b = 61) := by
  simpa [twoB, or_assoc] using h

def headB (a : UInt8) : Bool := oneB a || a == 33
theorem head_not {a : UInt8} (h : headB a = false) : (a == 40) = false ∧ (a == 41) = false ∧ (a == 42) = false ∧ (a == 43) = false ∧ (a == 45) = false ∧ (a == 60) = false ∧ (a == 62) = false ∧ (a == 61) = false ∧ (a == 33) = false := by
  unfold headB oneB at h
  simp only [Bool.or_eq_false_iff] at h
  simp only [h, and_self]
theorem beq_symm_u8 {a b : UInt8} (h : (a == b) = false) : (b == a) = false := by
  rw [beq_eq_false_iff_ne] at h ⊢; exact fun e => h e.symm
theorem best_other {a : UInt8} (h : headB a = false) (t : List UInt8) : best (a :: t) 13 = 0 := by
  obtain ⟨h1, h2, h3, h4, h5, h6, h7, h8, h9⟩ := head_not h
  have g1 := beq_symm_u8 h1; have g2 := beq_symm_u8 h2; have g3 := beq_symm_u8 h3; have g4 := beq_symm_u8 h4; have g5 := beq_symm_u8 h5
  have g6 := beq_symm_u8 h6; have g7 := beq_symm_u8 h7; have g8 := beq_symm_u8 h8; have g9 := beq_symm_u8 h9
  simp only [best, symTab, List.getD_cons_zero, List.getD_cons_succ, List.isPrefixOf, g1, g2, g3, g4, g5, g6, g7, g8, g9, Bool.false_and, Bool.false_eq_true, if_false]
theorem ref_other {a : UInt8} (h : headB a = false) (t : List UInt8) : refL (a :: t) = 0 := by
  obtain ⟨h1, h2, h3, h4, h5, h6, h7, h8, h9⟩ := head_not h
  have g1 := beq_symm_u8 h1; have g2 := beq_symm_u8 h2; have g3 := beq_symm_u8 h3; have g4 := beq_symm_u8 h4; have g5 := beq_symm_u8 h5
  have g6 := beq_symm_u8 h6; have g7 := beq_symm_u8 h7; have g8 := beq_symm_u8 h8; have g9 := beq_symm_u8 h9
  simp only [refL, refTab, List.find?, List.isPrefixOf, g1, g2, g3, g4, g5, g6, g7, g8, g9, Bool.false_and, Option.map_none, Option.getD_none]
theorem sym_other {a : UInt8} (h : headB a = false) (t : List UInt8) : symL (a :: t) = 0 := by
  obtain ⟨h1, h2, h3, h4, h5, h6, h7, h8, h9⟩ := head_not h
  have e1 : oneB a = false := by simp only [oneB, h1, h2, h3, h4, h5, h6, h7, h8, Bool.or_self]
  cases t with
  | nil => simp only [symL, e1, Bool.false_eq_true, if_false]
  | cons b t =>
    have e2 : twoB a b = false := by simp only [twoB, h6, h7, h9, Bool.false_and, Bool.or_self]
    simp only [symL, e1, e2, Bool.false_eq_true, if_false]
theorem head_cases {a : UInt8} (h : headB a = true) : a = 40 ∨ a = 41 ∨ a = 42 ∨ a = 43 ∨ a = 45 ∨ a = 60 ∨ a = 62 ∨ a = 61 ∨ a = 33 := by
  simpa [headB, oneB, or_assoc] using h
def byteB (b : UInt8) : Bool := b == 60 || b == 61 || b == 62
theorem byte_not {b : UInt8} (h : byteB b = false) : (b == 60) = false ∧ (b == 61) = false ∧ (b == 62) = false := by
  unfold byteB at h
  simp only [Bool.or_eq_false_iff] at h
  exact ⟨h.1.1, h.1.2, h.2⟩
theorem all_sym (l : List UInt8) : best l 13 = symL l ∧ refL l = symL l := by
  match l with
  | [] => exact ⟨by decide, by decide⟩
  | [a] =>
    cases h : headB a with
    | false => exact ⟨by rw [best_other h, sym_other h], by rw [ref_other h, sym_other h]⟩
    | true => rcases head_cases h with rfl | rfl | rfl | rfl | rfl | rfl | rfl | rfl | rfl <;> exact ⟨by decide, by decide⟩
  | a :: b :: t =>
    cases h : headB a with
    | false => exact ⟨by rw [best_other h, sym_other h], by rw [ref_other h, sym_other h]⟩
    | true =>
      cases hb : byteB b with
      | true =>
        have hb' : b = 60 ∨ b = 61 ∨ b = 62 := by simpa [byteB, or_assoc] using hb
        rcases head_cases h with rfl | rfl | rfl | rfl | rfl | rfl | rfl | rfl | rfl <;> rcases hb' with rfl | rfl | rfl <;> exact ⟨rfl, rfl⟩
      | false =>
        obtain ⟨h1, h2, h3⟩ := byte_not hb
        have g1 := beq_symm_u8 h1; have g2 := beq_symm_u8 h2; have g3 := beq_symm_u8 h3
        rcases head_cases h with rfl | rfl | rfl | rfl | rfl | rfl | rfl | rfl | rfl <;>
          exact ⟨by simp [best, symTab, symL, List.isPrefixOf, oneB, twoB, h1, h2, h3, g1, g2, g3], by simp [refL, refTab, List.find?, symL, List.isPrefixOf, oneB, twoB, h1, h2, h3, g1, g2, g3]⟩
theorem best_sym (l : List UInt8) : best l 13 = symL l := (all_sym l).1
theorem ref_sym (l : List UInt8) : refL l = symL l := (all_sym l).2

/-! ### What the statements say of symbols -/
theorem sym_le (l : List UInt8) : symL l ≤ 2 ∧ symL l ≤ l.length := by
  match l with
  | [] => exact ⟨by decide, by decide⟩
  | [a] => simp only [symL, List.length_cons, List.length_nil]; split <;> omega
  | a :: b :: t => simp only [symL, List.length_cons]; split; · omega
                   split <;> omega
theorem sym_kinds (l : List UInt8) (i : Nat) (h : i < symL l) (hi : i < l.length) : kindV (l[i].toNat : Int) = 4 := by
  apply kind_sym
  match l with
  | [] => simp [symL] at h
  | [a] =>
    cases h1 : oneB a with
    | false => simp [symL, h1] at h
    | true =>
      obtain rfl : i = 0 := by simpa using hi
      simp only [List.getElem_cons_zero]
      rcases one_cases h1 with rfl | rfl | rfl | rfl | rfl | rfl | rfl | rfl <;> decide
  | a :: b :: t =>
    cases h2 : twoB a b with
    | true =>
      have hi2 : i = 0 ∨ i = 1 := by simp only [symL, h2, if_true] at h; omega
      rcases two_cases h2 with ⟨rfl, rfl | rfl⟩ | ⟨rfl, rfl | rfl⟩ | ⟨rfl, rfl⟩ <;> rcases hi2 with rfl | rfl <;> (simp only [List.getElem_cons_zero, List.getElem_cons_succ]; decide)
    | false =>
      cases h1 : oneB a with
      | false => simp [symL, h1, h2] at h
      | true =>
        obtain rfl : i = 0 := by simp only [symL, h1, h2, if_true, Bool.false_eq_true, if_false] at h; omega
        simp only [List.getElem_cons_zero]
        rcases one_cases h1 with rfl | rfl | rfl | rfl | rfl | rfl | rfl | rfl <;> decide
theorem u8_eq {a : UInt8} {n : Nat} (h : a.toNat = n) (m : UInt8) (hm : m.toNat = n) : a = m := UInt8.toNat_inj.1 (by omega)
theorem sym_zero (l : List UInt8) (h : symL l = 0) (hl : 0 < l.length) (hk : kindV (l[0].toNat : Int) = 4) : l[0] = 33 := by
  match l with
  | a :: t =>
    have ha : oneB a = false := by
      cases h1 : oneB a with
      | false => rfl
      | true =>
        cases t with
        | nil => simp [symL, h1] at h
        | cons b t => simp only [symL, h1] at h; split at h <;> simp at h
    have hs := sym_kind hk
    simp only [List.getElem_cons_zero] at hs ⊢
    have hne : ∀ m : UInt8, oneB m = true → a ≠ m := fun m hm e => by rw [e, hm] at ha; cases ha
    unfold isSym at hs
    rcases hs with h | h | h | h | h | h | h | h | h
    · exact absurd (u8_eq (n := 40) (by omega) 40 rfl) (hne 40 rfl)
    · exact absurd (u8_eq (n := 41) (by omega) 41 rfl) (hne 41 rfl)
    · exact absurd (u8_eq (n := 42) (by omega) 42 rfl) (hne 42 rfl)
    · exact absurd (u8_eq (n := 43) (by omega) 43 rfl) (hne 43 rfl)
    · exact absurd (u8_eq (n := 45) (by omega) 45 rfl) (hne 45 rfl)
    · exact absurd (u8_eq (n := 60) (by omega) 60 rfl) (hne 60 rfl)
    · exact absurd (u8_eq (n := 61) (by omega) 61 rfl) (hne 61 rfl)
    · exact absurd (u8_eq (n := 62) (by omega) 62 rfl) (hne 62 rfl)
    · exact u8_eq (n := 33) (by omega) 33 rfl
theorem sym_two (l : List UInt8) (h : symL l = 2) (m : List UInt8) : symL (l.take 2 ++ m) = 2 := by
  match l with
  | [] => simp [symL] at h
  | [a] => simp only [symL] at h; split at h <;> simp at h
  | a :: b :: t =>
    cases h2 : twoB a b with
    | true => simp [symL, h2]
    | false => simp only [symL, h2, Bool.false_eq_true, if_false] at h; split at h <;> simp at h
theorem sym_own (l : List UInt8) : symL (l.take (symL l)) = symL l := by
  match l with
  | [] => rfl
  | [a] => cases h1 : oneB a <;> simp [symL, h1]
  | a :: b :: t =>
    cases h2 : twoB a b with
    | true => simp [symL, h2]
    | false => cases h1 : oneB a <;> simp [symL, h1, h2]
theorem sym_pair (l : List UInt8) (h : symL l = 1) (hl : 2 ≤ l.length) : symL (l.take 2) = 1 := by
  match l with
  | [] => simp at hl
  | [a] => simp at hl
  | a :: b :: t => simpa [symL] using h

/-! ### Words -/
def wordB (l : List UInt8) : Bool := wordTab.contains l
theorem word_all : wordTab.all (fun l => decide (1 ≤ l.length) && decide (l.length ≤ 7) && decide (wordTab.count l = 1) && l.all fun c => decide (97 ≤ c.toNat) && decide (c.toNat ≤ 122)) = true := by decide +kernel
theorem word_is {l : List UInt8} (h : wordB l = true) : 1 ≤ l.length ∧ l.length ≤ 7 ∧ wordTab.count l = 1 ∧ ∀ c ∈ l, kindV (c.toNat : Int) = 3 := by
  have hm : l ∈ wordTab := by simpa [wordB] using h
  have := List.all_eq_true.1 word_all l hm
  simp only [Bool.and_eq_true, decide_eq_true_eq] at this
  obtain ⟨⟨⟨h1, h2⟩, h3⟩, h4⟩ := this
  refine ⟨h1, h2, h3, fun c hc => kind_letter ?_⟩
  have := List.all_eq_true.1 h4 c hc
  simp only [Bool.and_eq_true, decide_eq_true_eq] at this
  omega
end Go.Proofs.YtdinaedknlkicaaGreatDoor

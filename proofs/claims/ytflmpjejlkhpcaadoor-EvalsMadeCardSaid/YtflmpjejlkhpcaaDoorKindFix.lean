/-
  The two tables of package kinds (layer 6) in memory: what they hold by their initialisers.
-/
import Derived.Test.YtflmpjejlkhpcaaDoorKindMath
import Derived.Test.YtflmpjejlkhpcaaDoorNodeReads
import Derived.FnData
namespace Go.Proofs.YtflmpjejlkhpcaaDoor.Nodes
open Go.ChangeShapes Go.WideShapes Go.ChangeAt Go.RowKit

def takesB (k : Int) : Bool := decide (k = 6 ∨ 18 ≤ k)
def givesTab : List Bool := [false, false, false, false, false, false, true, false, false, false, false, false, true, true, true, true, true, true, true, true]
def takesTab : List Bool := [false, false, false, false, false, false, true, false, false, false, false, false, false, false, false, false, false, false, true, true]
def boolVals (l : List Bool) : Array Value := (l.map Value.bool).toArray
theorem gGives : Tryd.prog.globalNamed "tailwater/kinds.gives" = some 0 := by kernel_rfl
theorem gTakes : Tryd.prog.globalNamed "tailwater/kinds.takes" = some 1 := by kernel_rfl
/-- What the calls of package kinds read: the two tables. -/
def KindFix (w : World) : Prop := w.var? Tryd.prog "tailwater/kinds.gives" = some (boolVals givesTab) ∧ w.var? Tryd.prog "tailwater/kinds.takes" = some (boolVals takesTab)
theorem kvar_lt {w : World} {n : String} {g : Nat} {cs : Array Value} (hg : Tryd.prog.globalNamed n = some g) (h : w.var? Tryd.prog n = some cs) : g < w.heap.size := by
  rcases Nat.lt_or_ge g w.heap.size with h' | h'
  · exact h'
  · unfold World.var? at h
    simp [hg, Array.getElem?_eq_none h'] at h
theorem KindFix.below {w w' : World} (h : KindFix w) (hb : Below w.heap.size w w') : KindFix w' :=
  ⟨var?_below hb gGives (kvar_lt gGives h.1) h.1, var?_below hb gTakes (kvar_lt gTakes h.2) h.2⟩
theorem bool_cell (l : List Bool) (n : Nat) (h : n < l.length) : (boolVals l)[n]? = some (.bool l[n]) := by
  unfold boolVals
  rw [List.getElem?_toArray, List.getElem?_map, List.getElem?_eq_getElem h]; rfl
theorem gives_all : ∀ k : Fin 20, givesTab[k.val]? = some (givesB (k.val : Int)) := by decide
theorem takes_all : ∀ k : Fin 20, takesTab[k.val]? = some (takesB (k.val : Int)) := by decide
theorem gives_at (n : Nat) (h : n < 20) : givesTab[n]'h = givesB (n : Int) := by
  have := gives_all ⟨n, h⟩
  rw [List.getElem?_eq_getElem (show n < givesTab.length from h)] at this
  exact Option.some.inj this
theorem takes_at (n : Nat) (h : n < 20) : takesTab[n]'h = takesB (n : Int) := by
  have := takes_all ⟨n, h⟩
  rw [List.getElem?_eq_getElem (show n < takesTab.length from h)] at this
  exact Option.some.inj this
theorem gives_cell {w : World} (h : KindFix w) (n : Nat) (hn : n < 20) : w.cell? ⟨0, n, none⟩ = some (.bool (givesB n)) := by
  rw [World.var?_cell gGives h.1 n, bool_cell givesTab n hn, gives_at n hn]
theorem takes_cell {w : World} (h : KindFix w) (n : Nat) (hn : n < 20) : w.cell? ⟨1, n, none⟩ = some (.bool (takesB n)) := by
  rw [World.var?_cell gTakes h.2 n, bool_cell takesTab n hn, takes_at n hn]
/-- What a node's parts have to be, and its parts by number. -/
def wantN (l : List Nd) (x : Nd) : Bool := if x.kind = 16 ∨ x.kind = 17 then gv l x.a else takesB x.kind
def partAt (x : Nd) (j : Nat) : Int := if j = 0 then x.a else x.b
theorem fit_parts {l : List Nd} {x : Nd} (h1 : 1 ≤ x.kind) (h2 : x.kind ≤ 19) : fitsN l x = true ↔ ∀ j, j < arity x.kind → gv l (partAt x j) = wantN l x := by
  have hB : ∀ A B : Bool, gv l x.a = A → gv l x.b = B → (fitB x.kind A B = true ↔ ∀ j, j < arity x.kind → (if j = 0 then A else B) = (if x.kind = 16 ∨ x.kind = 17 then A else takesB x.kind)) := by
    intro A B _ _
    have two : arity x.kind = 2 → ((∀ j, j < arity x.kind → (if j = 0 then A else B) = (if x.kind = 16 ∨ x.kind = 17 then A else takesB x.kind)) ↔ (A = (if x.kind = 16 ∨ x.kind = 17 then A else takesB x.kind) ∧ B = (if x.kind = 16 ∨ x.kind = 17 then A else takesB x.kind))) := fun h => by
      rw [h]
      constructor
      · exact fun e => ⟨e 0 (by omega), e 1 (by omega)⟩
      · intro e j hj
        have : j = 0 ∨ j = 1 := by omega
        rcases this with rfl | rfl
        · exact e.1
        · exact e.2
    have one : arity x.kind = 1 → ((∀ j, j < arity x.kind → (if j = 0 then A else B) = (if x.kind = 16 ∨ x.kind = 17 then A else takesB x.kind)) ↔ A = (if x.kind = 16 ∨ x.kind = 17 then A else takesB x.kind)) := fun h => by
      rw [h]
      constructor
      · exact fun e => e 0 (by omega)
      · intro e j hj
        have : j = 0 := by omega
        subst this; exact e
    rcases (show x.kind ≤ 4 ∨ x.kind = 5 ∨ x.kind = 6 ∨ (7 ≤ x.kind ∧ x.kind ≤ 15) ∨ x.kind = 16 ∨ x.kind = 17 ∨ 18 ≤ x.kind by omega) with h | h | h | h | h | h | h
    · have ha : arity x.kind = 0 := by unfold arity; rw [if_pos h]
      rw [fit_none ha, ha]
      exact ⟨fun _ j hj => by omega, fun _ => rfl⟩
    · rw [one (by rw [h]; rfl), h]; cases A <;> cases B <;> decide
    · rw [one (by rw [h]; rfl), h]; cases A <;> cases B <;> decide
    · have ha : arity x.kind = 2 := by unfold arity; rw [if_neg (by omega), if_neg (by omega)]
      have ht : takesB x.kind = false := by unfold takesB; exact decide_eq_false (by omega)
      have hf : fitB x.kind A B = (!A && !B) := by unfold fitB; rw [if_neg (by omega), if_neg (by omega), if_neg (by omega), if_neg (by omega), if_neg (by omega)]
      rw [two ha, hf, if_neg (by omega), ht]; cases A <;> cases B <;> decide
    · rw [two (by rw [h]; rfl), h]; cases A <;> cases B <;> decide
    · rw [two (by rw [h]; rfl), h]; cases A <;> cases B <;> decide
    · have ha : arity x.kind = 2 := by unfold arity; rw [if_neg (by omega), if_neg (by omega)]
      have ht : takesB x.kind = true := by unfold takesB; exact decide_eq_true (by omega)
      have hf : fitB x.kind A B = (A && B) := by unfold fitB; rw [if_neg (by omega), if_neg (by omega), if_neg (by omega), if_neg (by omega), if_pos h]
      rw [two ha, hf, if_neg (by omega), ht]; cases A <;> cases B <;> decide
  have := hB _ _ rfl rfl
  unfold fitsN wantN partAt
  rw [this]
  constructor
  · intro e j hj
    have := e j hj
    split
    · rename_i h0; rw [if_pos h0] at this; exact this
    · rename_i h0; rw [if_neg h0] at this; exact this
  · intro e j hj
    have := e j hj
    split at this
    · rename_i h0; rw [if_pos h0]; exact this
    · rename_i h0; rw [if_neg h0]; exact this
end Go.Proofs.YtflmpjejlkhpcaaDoor.Nodes

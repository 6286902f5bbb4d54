/-
  The statement tailwatertop.TopText returns true for every text: numbers, bytes, tokens, nodes, expressions and kinds agree; in every world in which strconv's errors and tables and the program's tables of symbols, words, operators and kinds hold what their initialisers lay.
-/
import Derived.Test.YtgmfelikmjclbaaGreatDoorRows
import Derived.Test.YtgmfelikmjclbaaGreatDoorCards
import Derived.Test.YtgmfelikmjclbaaGreatDoorTie
import Derived.SevenTiedAt
import Derived.ShutString
import Derived.Carry
import Derived.Test.YtgmfelikmjclbaaGreatDoorqLaidStrs
import Derived.Test.YtgmfelikmjclbaaGreatDoorPackE1
import Derived.Test.YtgmfelikmjclbaaGreatDoorqKindBools
import Derived.Test.YtgmfelikmjclbaaGreatDoorqTopTextWalk
section
namespace Go.Proofs.YtgmfelikmjclbaaGreatDoor
open ExprW Exprs Nodes
open Go.ChangeShapes Go.WideShapes Go.ChangeAt Go.RowKit

theorem tOp6 : (Tryz.prog.globals[1]?).map (·.type) = some 95 := by kernel_rfl
theorem cPow6 : Tryz.prog.cellsOf 149 = 20 := by kernel_rfl
theorem cU646 : Tryz.prog.cellsOf 114 = 1 := by kernel_rfl
theorem tPow6 : (Tryz.prog.globals[8]?).map (·.type) = some 149 := by kernel_rfl
abbrev laidList {H : Type} : List (String × DataW H) := [("math/bits.deBruijn32tab", Rows.laid_math_bits_deBruijn32tab), ("math/bits.deBruijn64tab", Rows.laid_math_bits_deBruijn64tab), ("internal/strconv.uint64pow10", Rows.laid_internal_strconv_uint64pow10), ("tailwater/kinds.gives", Rows.laid_tailwater_kinds_gives), ("tailwater/kinds.takes", Rows.laid_tailwater_kinds_takes), ("strconv.ErrRange", Rows.laid_strconv_ErrRange), ("strconv.ErrSyntax", Rows.laid_strconv_ErrSyntax), ("tailwater/chars.symbols", Rows.laid_tailwater_chars_symbols), ("tailwater/chars.words", Rows.laid_tailwater_chars_words), ("tailwater/exprs.operators", Rows.laid_tailwater_exprs_operators)]
theorem fix_of_laid {W : World} (h : laidMetH Tryz.prog laidList W) : TopFix W := by
  rw [MakeChecks.laidMetH_plain _ _ _ (by kernel_rfl)] at h
  have h2 := laidMet.tail (laidMet.tail h)
  have hg := laidMet.tail h2
  have ht := laidMet.tail hg
  have h3 := laidMet.tail ht
  obtain ⟨a, s, hv, _⟩ := laid_sentinel h3 gRange tRange Tryz.underlying62 rowErrStr Tryz.underlying139 Tryz.underlying141 rfl rfl Tryz.underlying9 cErrStr cStr
  have h5 := laidMet.tail (laidMet.tail h3)
  have h6 := laidMet.tail h5
  have h7 := laidMet.tail h6
  exact ⟨⟨⟨⟨_, _, hv⟩, strs_of_head (l := symTab) gSym tSym Tryz.underlying95 cSym h5, strs_of_head (l := wordTab) gWord tWord Tryz.underlying99 cWord h6⟩, Lib.tabIs_of_head gPow tPow6 Tryz.underlying149 Tryz.underlying114 cU646 cPow6 h2, strs_of_head (l := opTab) gOp tOp6 Tryz.underlying95 cSym h7⟩,
    bools_of_head (l := givesTab) gGives tGives Tryz.underlying70 cBools hg, bools_of_head (l := takesTab) gTakes tTakes Tryz.underlying70 cBools ht⟩
theorem door_met (os : Os) (args : Array Value) : laidMetH Tryz.prog laidList ((World.doorLaid Tryz.prog 400 os).forCall (fun _ _ => 0) ⟨#[], args, []⟩).memory :=
  laidMetH_of_parts3 (fuel := 8) (laidMet_of_run' 8 (by kernel_rfl) (by kernel_rfl)) (by kernel_rfl) (by kernel_rfl)
end Go.Proofs.YtgmfelikmjclbaaGreatDoor

end
namespace Go.Proofs.YtgmfelikmjclbaaGreatDoor.topText
open Go.ChangeShapes Go.WideShapes Go.ChangeAt Go.RowKit
set_option linter.unusedVariables false
theorem laidOut : laidOutB Tryz.prog = true := by kernel_rfl

set_option maxRecDepth 100000 in
theorem lifted (os : Os) (started : os.Started) (H : Type) (enc : TypeId × Value → H) :
    ReturnsInHanded {} Tryz.checked os 3 .any (fun w args => (Rows.topTextSpec.pre enc Tryz.prog Tryz.f3 [] false w args ∧ laidMetH Tryz.prog laidList w) ∧ sizedMet enc Tryz.prog Tryz.f3 (OpenSpec.ofChange Rows.topTextSpec) false w args)
      (Rows.topTextSpec.post enc Tryz.prog Tryz.f3 false true false false) := by
  refine returnsInHanded_of_change_and (C := Tryz.checked) (X := fun w _ => laidMetH Tryz.prog laidList w) (fun _ _ _ hh h => h.of_heap hh) own started (by kernel_rfl) Tryz.func3
    (ChangeSpec.witness_shaped (enc := enc) (C := Tryz.checked) (os := os) (X := fun w _ => laidMetH Tryz.prog laidList w) false (World.doorLaid Tryz.prog 400 os) #[.string ⟨#[]⟩] 8 rfl (World.shaped_of_RefB (by kernel_rfl) (by kernel_rfl)) (by kernel_rfl) (by kernel_rfl) (by kernel_rfl) (door_met os _)) ?_
  intro W base args ds gs before hval0 hW _ _ hL _
  have hval : ∀ (j : Nat) t v, Tryz.f3.params[j]? = some t → args[j]? = some v → Value.okWide Tryz.prog W .any base t v := hval0
  have hW' := hW
  obtain ⟨p, q, hA0, hV, rfl, hfz, hnd⟩ := hW
  have hA : DataW.TrodAll enc Tryz.prog W 0 (fun _ => true) true Tryz.f3.params.toList args.toList ds p := hA0
  rw [Tryz.params3] at hA hval
  obtain ⟨v0, vs0, d0, ds0, p0, q0, hargs, rfl, rfl, h0, r0⟩ := trodAll_cons hA
  obtain ⟨rfl, rfl, rfl⟩ := trodAll_nil r0
  obtain rfl : args = #[v0] := by cases args; simp_all
  obtain ⟨rfl, rfl⟩ := trodVars_none hV
  have k0 := h0
  have lt0 : ∀ x ∈ p0, x.block < W.heap.size := by obtain ⟨m, hm⟩ := k0; exact DataW.trod_lt m _ _ _ hm
  obtain ⟨s, rfl, rfl, rfl, s_size⟩ := ChangeMaps.open_string Tryz.underlying9 (hval 0 9 v0 rfl rfl) h0
  clear hA0 hval0
  have hf := fix_of_laid hL
  refine (ExprW.top_walk s s_size W hf).mono fun e W' ⟨he, bel⟩ => ?_
  subst he
  exact ⟨_, rfl, _, _, _, [], _, [], hW', trodAll_mk1 (shut_bool Tryz.underlying4 _), (trodAll_cons_mk (Below.trod laidOut (by kernel_rfl) (of_decide_eq_true (by kernel_rfl)) k0 bel lt0) trodAll_mk0), rfl, bel.frame _, fun h => by cases h⟩

theorem over : Rows.topTextRow.holds Tryz.pinned (OpenSpec.ofChange Rows.topTextSpec) :=
  OpenClaim.holds_of_wide 3 Tryz.f3 rfl rfl rfl rfl rfl rfl rfl ⟨rfl, rfl, rfl, rfl, rfl⟩ rfl rfl rfl rfl rfl (by kernel_rfl) Tryz.func3 (by kernel_rfl)
    (of_decide_eq_true (by kernel_rfl)) (by unfold Func.isWrapper; first | (rw [if_pos (by decide +kernel)]; kernel_rfl) | (rw [if_neg (by decide +kernel)]; exact ⟨rfl, rfl⟩))
    (fun os started H enc _ => lifted os started H enc)

theorem plain (f : FuncId) (fn : Func) (hf : Tryz.pinned.checked.prog.funcNamed "tailwater/tailwatertop.TopText" = some f) (hfn : Tryz.pinned.checked.prog.funcs[f]? = some fn) :
    true = Tryz.pinned.checked.prog.looks [] ∧ ∀ (j : Nat) t, fn.params[j]? = some t → Tryz.pinned.checked.prog.wantsStandIn t = false := by
  obtain rfl : f = 3 := Option.some.inj ((show Tryz.prog.funcNamed "tailwater/tailwatertop.TopText" = some 3 by kernel_rfl).symm.trans hf) |>.symm
  obtain rfl : fn = Tryz.f3 := (Option.some.inj (Tryz.func3.symm.trans hfn)).symm
  refine ⟨by kernel_rfl, fun j t ht => ?_⟩
  rw [Tryz.params3] at ht
  have hm := Array.mem_of_getElem? ht
  have hall : (#[9].all fun u => !Tryz.pinned.checked.prog.wantsStandIn u) = true := by kernel_rfl
  have := Array.all_eq_true_iff_forall_mem.1 hall t hm
  simpa using this
/-- The card. -/
theorem proved : Rows.TopTextCardSaid :=
  Claim7.holds_tied_plain_at .later [] _ _ _ _ over (fun _ h => by cases h) (by kernel_rfl) (fun _ h => by cases h) topText_row_tie rfl ⟨rfl, rfl⟩ (by kernel_rfl) rfl plain (by kernel_rfl)
#print axioms proved
end Go.Proofs.YtgmfelikmjclbaaGreatDoor.topText

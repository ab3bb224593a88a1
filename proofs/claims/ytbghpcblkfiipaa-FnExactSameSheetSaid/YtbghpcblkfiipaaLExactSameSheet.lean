/-
  The law FnExactSameSheet: for every input the call returns true, and each argument (and each listed variable) reads afterwards as before.
-/
import Derived.Test.YtbghpcblkfiipaaFrame
import Derived.Test.YtbghpcblkfiipaaOpenPr
import Derived.Test.YtbghpcblkfiipaaWExactSameSheet
import Derived.Lib.SmallJoins
import Derived.Lib.LaidTab
namespace Go.Proofs.Ytbghpcblkfiipaa.fnExactSameSheet
open Go.ChangeShapes Go.WideShapes Go.ChangeAt Go.RowKit Go.Joins

theorem own : ownKnob Try.prog.godebug = none := by kernel_rfl
theorem laidOut : laidOutB Try.prog = true := by kernel_rfl
set_option maxRecDepth 100000 in
/-- What the walk gives, for every argument. -/
theorem contract (H : Type) (enc : TypeId × Value → H) (W : World) (base : Nat) (args : Array Value) (ds gs : List (DataW H)) (before : List MemPlace)
    (hval : ∀ (j : Nat) t v, Try.f4.params[j]? = some t → args[j]? = some v → Value.okWide Try.prog W .any base t v)
    (hW : DataW.Whole enc Try.prog Try.f4.params.toList Rows.fnExactSameSheetSpec.vars false W args.toList ds gs before) :
    Calls Try.prog 4 args W fun e W' => ∃ v, e = .returned v ∧ Rows.fnExactSameSheetSpec.post enc Try.prog Try.f4 false true false false W args v W' := by
  have hW' := hW
  obtain ⟨p, q, hA0, hV, rfl, hfz, hnd⟩ := hW
  have hA : DataW.TrodAll enc Try.prog W 0 (fun _ => true) true Try.f4.params.toList args.toList ds p := hA0
  rw [Try.params4] at hA hval
  obtain ⟨v0, vs0, d0, ds0, p0, q0, hargs, rfl, rfl, h0, r0⟩ := trodAll_cons hA
  obtain ⟨v1, vs1, d1, ds1, p1, q1, rfl, rfl, rfl, h1, r1⟩ := trodAll_cons r0
  obtain ⟨rfl, rfl, rfl⟩ := trodAll_nil r1
  obtain rfl : args = #[v0, v1] := by cases args; simp_all
  have hgl : gs.length = 0 := trodVars_length hV
  obtain rfl := List.length_eq_zero_iff.1 hgl
  obtain ⟨c00, c01, y00, y01, m0, rfl, rfl, rfl, hy00, hy01⟩ := open_agg2 Try.underlying25 (by kernel_rfl) (by kernel_rfl) (hval 0 25 v0 rfl rfl) h0
  obtain ⟨x0, e00, z00, wx0⟩ := DataW.trod_int Try.underlying22 hy00
  simp only [List.cons.injEq, and_true] at e00; subst e00
  have bx0 := bounds_i8 wx0
  obtain ⟨A0, n0, cap0, g0, e01, hx0, hm0, hs0⟩ := prs_open_cs Try.underlying23 Try.underlying53 Try.underlying52 (by kernel_rfl) (by kernel_rfl) hy01
  subst e01
  obtain ⟨c10, c11, y10, y11, m1, rfl, rfl, rfl, hy10, hy11⟩ := open_agg2 Try.underlying25 (by kernel_rfl) (by kernel_rfl) (hval 1 25 v1 rfl rfl) h1
  obtain ⟨x1, e10, z10, wx1⟩ := DataW.trod_int Try.underlying22 hy10
  simp only [List.cons.injEq, and_true] at e10; subst e10
  have bx1 := bounds_i8 wx1
  obtain ⟨A1, n1, cap1, g1, e11, hx1, hm1, hs1⟩ := prs_open_cs Try.underlying23 Try.underlying53 Try.underlying52 (by kernel_rfl) (by kernel_rfl) hy11
  subst e11
  refine (walk_FnExactSameSheet x0 A0 n0 cap0 g0 x1 A1 n1 cap1 g1 W bx0 hx0 hm0 hs0 bx1 hx1 hm1 hs1).mono fun e W' ⟨he, hb⟩ => ?_
  subst he
  exact ⟨_, rfl, law_post laidOut (by kernel_rfl) (by kernel_rfl) (by kernel_rfl) Try.underlying4 hW' rfl hb⟩

set_option maxRecDepth 100000 in
theorem lifted (os : Os) (started : os.Started) (H : Type) (enc : TypeId × Value → H) (F : Stop.Interp) :
    ReturnsInHanded {} Try.checked os 4 .any ((OpenSpec.ofChange Rows.fnExactSameSheetSpec).preRow enc Try.prog Try.f4 Rows.fnExactSameSheetRow.domain false Rows.fnExactSameSheetRow.laid) (((OpenSpec.ofChange Rows.fnExactSameSheetSpec).at F).post enc Try.prog Try.f4 false true false false) := by
  have hx : DataW.whole enc Try.prog ((World.holding Try.prog os ⟨#[], #[], []⟩).forCall (fun _ _ => 0) ⟨#[], #[.agg #[.int .i8 0, .slice none 0 0], .agg #[.int .i8 0, .slice none 0 0]], []⟩).memory Try.f4.params.toList Rows.fnExactSameSheetSpec.vars false (#[.agg #[.int .i8 0, .slice none 0 0], .agg #[.int .i8 0, .slice none 0 0]] : Array Value).toList 8 = some ((DataW.whole enc Try.prog ((World.holding Try.prog os ⟨#[], #[], []⟩).forCall (fun _ _ => 0) ⟨#[], #[.agg #[.int .i8 0, .slice none 0 0], .agg #[.int .i8 0, .slice none 0 0]], []⟩).memory Try.f4.params.toList Rows.fnExactSameSheetSpec.vars false (#[.agg #[.int .i8 0, .slice none 0 0], .agg #[.int .i8 0, .slice none 0 0]] : Array Value).toList 8).getD ([], [], [])) := by kernel_rfl
  refine returnsInHanded_of_row (C := Try.checked) (s := (OpenSpec.ofChange Rows.fnExactSameSheetSpec)) own started (by kernel_rfl) Try.func4
    (witness_row_atRef (enc := enc) (C := Try.checked) false (World.holding Try.prog os ⟨#[], #[], []⟩) #[.agg #[.int .i8 0, .slice none 0 0], .agg #[.int .i8 0, .slice none 0 0]] rfl (by kernel_rfl) (by kernel_rfl) (by kernel_rfl)
      (OpenSpec.preRow_of_cond 8 hx (by kernel_rfl) (fun k hk1 => by cases hk1) (by kernel_rfl) (laidMetH_nil _ _))) ?_
  intro W base args ds gs before hval hW _ hcond _ hL _ _
  exact contract H enc W base args ds gs before hval hW

theorem said : Rows.FnExactSameSheetSaid :=
  OpenClaim.holds_of_cond 4 Try.f4 rfl rfl rfl rfl rfl rfl rfl ⟨rfl, rfl, rfl, rfl, rfl⟩ rfl rfl rfl rfl rfl (by kernel_rfl) Try.func4 (by kernel_rfl)
    (of_decide_eq_true (by kernel_rfl)) (by unfold Func.isWrapper; first | (rw [if_pos (by decide +kernel)]; kernel_rfl) | (rw [if_neg (by decide +kernel)]; exact ⟨rfl, rfl⟩))
    (fun os started H enc _ F => by rw [OpenClaim.pre_eq_preRow]; exact lifted os started H enc F)
#print axioms said
end Go.Proofs.Ytbghpcblkfiipaa.fnExactSameSheet

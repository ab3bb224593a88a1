/-
  The law FnExactStepsFor: for every input the call returns true, and each argument (and each listed variable) reads afterwards as before.
-/
import Derived.Test.YtnlcjbobfhmnmaaDoorCards
import Derived.Test.YtnlcjbobfhmnmaaDoorTie
import Derived.Test.YtnlcjbobfhmnmaaDoorFrame
import Derived.Test.YtnlcjbobfhmnmaaDoorOpenA
import Derived.Test.YtnlcjbobfhmnmaaDoorOpenP
import Derived.Test.YtnlcjbobfhmnmaaDoorWExactStepsFor
import Derived.Lib.SmallJoins
import Derived.Lib.LaidTab
namespace Go.Proofs.YtnlcjbobfhmnmaaDoor.fnExactStepsFor
open Go.ChangeShapes Go.WideShapes Go.ChangeAt Go.RowKit Go.Joins

theorem own : ownKnob Tryd.prog.godebug = none := by kernel_rfl
theorem laidOut : laidOutB Tryd.prog = true := by kernel_rfl
set_option maxRecDepth 100000 in
/-- What the walk gives, for every argument. -/
theorem contract (H : Type) (enc : TypeId × Value → H) (W : World) (base : Nat) (args : Array Value) (ds gs : List (DataW H)) (before : List MemPlace)
    (hval : ∀ (j : Nat) t v, Tryd.f4.params[j]? = some t → args[j]? = some v → Value.okWide Tryd.prog W .any base t v)
    (hW : DataW.Whole enc Tryd.prog Tryd.f4.params.toList Rows.fnExactStepsForSpec.vars false W args.toList ds gs before) (hL : laidMetH Tryd.prog Rows.fnExactStepsForRow.laid W) :
    Calls Tryd.prog 4 args W fun e W' => ∃ v, e = .returned v ∧ Rows.fnExactStepsForSpec.post enc Tryd.prog Tryd.f4 false true false false W args v W' := by
  have hW' := hW
  obtain ⟨p, q, hA0, hV, rfl, hfz, hnd⟩ := hW
  have hA : DataW.TrodAll enc Tryd.prog W 0 (fun _ => true) true Tryd.f4.params.toList args.toList ds p := hA0
  rw [Tryd.params4] at hA hval
  obtain ⟨v0, vs0, d0, ds0, p0, q0, hargs, rfl, rfl, h0, r0⟩ := trodAll_cons hA
  obtain ⟨v1, vs1, d1, ds1, p1, q1, rfl, rfl, rfl, h1, r1⟩ := trodAll_cons r0
  obtain ⟨v2, vs2, d2, ds2, p2, q2, rfl, rfl, rfl, h2, r2⟩ := trodAll_cons r1
  obtain ⟨rfl, rfl, rfl⟩ := trodAll_nil r2
  obtain rfl : args = #[v0, v1, v2] := by cases args; simp_all
  have hgl : gs.length = 6 := trodVars_length hV
  obtain ⟨g0, gs0, rfl, hgl0⟩ := len_cons hgl
  obtain ⟨g1, gs1, rfl, hgl1⟩ := len_cons hgl0
  obtain ⟨g2, gs2, rfl, hgl2⟩ := len_cons hgl1
  obtain ⟨g3, gs3, rfl, hgl3⟩ := len_cons hgl2
  obtain ⟨g4, gs4, rfl, hgl4⟩ := len_cons hgl3
  obtain ⟨g5, gs5, rfl, hgl5⟩ := len_cons hgl4
  obtain rfl := List.length_eq_zero_iff.1 hgl5
  obtain ⟨f0, rfl, wf0⟩ := arr_open Tryd.underlying23 Tryd.underlying22 (by kernel_rfl) (by kernel_rfl) (hval 0 23 v0 rfl rfl) h0
  obtain ⟨A1, n1, cap1, fs1, es1, rfl, hx1, hm1, hs1⟩ := pts_open Tryd.underlying24 Tryd.underlying56 (by kernel_rfl) (by kernel_rfl) rfl rfl Tryd.underlying22 (hval 1 24 v1 rfl rfl) h1
  obtain ⟨f2, rfl, wf2⟩ := arr_open Tryd.underlying23 Tryd.underlying22 (by kernel_rfl) (by kernel_rfl) (hval 2 23 v2 rfl rfl) h2
  refine (walk_FnExactStepsFor f0 A1 n1 cap1 fs1 es1 f2 W hL (fun k hk => bounds_i16 (wf0 k hk)) hx1 hm1 hs1 (fun k hk => bounds_i16 (wf2 k hk))).mono fun e W' ⟨he, hb⟩ => ?_
  subst he
  exact ⟨_, rfl, law_post laidOut (by kernel_rfl) (by kernel_rfl) (by kernel_rfl) Tryd.underlying4 hW' rfl hb⟩

theorem met (os : Os) (args : Array Value) : laidMetH Tryd.prog Rows.fnExactStepsForRow.laid ((World.doorLaid Tryd.prog 400 os).forCall (fun _ _ => 0) ⟨#[], args, []⟩).memory :=
  laidMetH_of_parts3 (fuel := 8) (laidMet_of_run' 8 (by kernel_rfl) (by kernel_rfl)) (by kernel_rfl) (by kernel_rfl)
set_option maxRecDepth 100000 in
theorem lifted (os : Os) (started : os.Started) (H : Type) (enc : TypeId × Value → H) (F : Stop.Interp) :
    ReturnsInHanded {} Tryd.checked os 4 .any ((OpenSpec.ofChange Rows.fnExactStepsForSpec).preRow enc Tryd.prog Tryd.f4 Rows.fnExactStepsForRow.domain false Rows.fnExactStepsForRow.laid) (((OpenSpec.ofChange Rows.fnExactStepsForSpec).at F).post enc Tryd.prog Tryd.f4 false true false false) := by
  have hx : DataW.whole enc Tryd.prog ((World.doorLaid Tryd.prog 400 os).forCall (fun _ _ => 0) ⟨#[], #[(.agg (Array.replicate 64 (.int .i16 0))), .slice none 0 0, (.agg (Array.replicate 64 (.int .i16 0)))], []⟩).memory Tryd.f4.params.toList Rows.fnExactStepsForSpec.vars false (#[(.agg (Array.replicate 64 (.int .i16 0))), .slice none 0 0, (.agg (Array.replicate 64 (.int .i16 0)))] : Array Value).toList 8 = some ((DataW.whole enc Tryd.prog ((World.doorLaid Tryd.prog 400 os).forCall (fun _ _ => 0) ⟨#[], #[(.agg (Array.replicate 64 (.int .i16 0))), .slice none 0 0, (.agg (Array.replicate 64 (.int .i16 0)))], []⟩).memory Tryd.f4.params.toList Rows.fnExactStepsForSpec.vars false (#[(.agg (Array.replicate 64 (.int .i16 0))), .slice none 0 0, (.agg (Array.replicate 64 (.int .i16 0)))] : Array Value).toList 8).getD ([], [], [])) := by kernel_rfl
  refine returnsInHanded_of_row (C := Tryd.checked) (s := (OpenSpec.ofChange Rows.fnExactStepsForSpec)) own started (by kernel_rfl) Tryd.func4
    (witness_row_atRef (enc := enc) (C := Tryd.checked) false (World.doorLaid Tryd.prog 400 os) #[(.agg (Array.replicate 64 (.int .i16 0))), .slice none 0 0, (.agg (Array.replicate 64 (.int .i16 0)))] rfl (by kernel_rfl) (by kernel_rfl) (by kernel_rfl)
      (OpenSpec.preRow_of_cond 8 hx (by kernel_rfl) (fun k hk1 => by cases hk1) (by kernel_rfl) (met os _))) ?_
  intro W base args ds gs before hval hW _ hcond _ hL _ _
  exact contract H enc W base args ds gs before hval hW hL

theorem said : Rows.FnExactStepsForSaid :=
  OpenClaim.holds_of_cond 4 Tryd.f4 rfl rfl rfl rfl rfl rfl rfl ⟨rfl, rfl, rfl, rfl, rfl⟩ rfl rfl rfl rfl rfl (by kernel_rfl) Tryd.func4 (by kernel_rfl)
    (of_decide_eq_true (by kernel_rfl)) (by unfold Func.isWrapper; first | (rw [if_pos (by decide +kernel)]; kernel_rfl) | (rw [if_neg (by decide +kernel)]; exact ⟨rfl, rfl⟩))
    (fun os started H enc _ F => by rw [OpenClaim.pre_eq_preRow]; exact lifted os started H enc F)

/-- No parameter wants a stand-in; the program's own looks are what the card says. -/
theorem plain (f : FuncId) (fn : Func) (hf : Tryd.pinned.checked.prog.funcNamed "loop.example/g01301/laws.FnExactStepsFor" = some f) (hfn : Tryd.pinned.checked.prog.funcs[f]? = some fn) :
    true = Tryd.pinned.checked.prog.looks [] ∧ ∀ (j : Nat) t, fn.params[j]? = some t → Tryd.pinned.checked.prog.wantsStandIn t = false := by
  obtain rfl : f = 4 := Option.some.inj ((show Tryd.prog.funcNamed "loop.example/g01301/laws.FnExactStepsFor" = some 4 by kernel_rfl).symm.trans hf) |>.symm
  obtain rfl : fn = Tryd.f4 := (Option.some.inj (Tryd.func4.symm.trans hfn)).symm
  refine ⟨by kernel_rfl, fun j t ht => ?_⟩
  rw [Tryd.params4] at ht
  have hm : t ∈ [23, 24, 23] := by simpa using Array.mem_of_getElem? ht
  have hall : ([23, 24, 23].all fun u => !Tryd.prog.wantsStandIn u) = true := by kernel_rfl
  exact (show Tryd.prog.wantsStandIn t = false by simpa using List.all_eq_true.1 hall t hm)

theorem card : Rows.FnExactStepsForCardSaid :=
  Claim7.holds_tied_plain_at .later [] _ _ _ _ said (fun _ h => by cases h) (by kernel_rfl) (fun _ h => by cases h) fnExactStepsFor_row_tie rfl ⟨rfl, rfl⟩ (by kernel_rfl) rfl plain (by kernel_rfl)
#print axioms card
end Go.Proofs.YtnlcjbobfhmnmaaDoor.fnExactStepsFor

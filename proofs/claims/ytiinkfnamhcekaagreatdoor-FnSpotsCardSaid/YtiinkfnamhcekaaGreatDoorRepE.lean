/-
  A round of a repair in the program: the cells of a rim, each the mean of its neighbours that are not left. Condition: the library's table of de Bruijn holds what its text lays.
-/
import Derived.Test.YtiinkfnamhcekaaGreatDoorSumE
namespace Go.Proofs.YtiinkfnamhcekaaGreatDoor
open Go.RowKit Go.Shelf

attribute [local go_sem] Oper.semAt_some

/-! ### PLAIN -/
theorem aroB_eq {M : BitVec 64} {k : Nat} (hk : k < 64) (h : M.getLsbD k = true) : growB (1#64 <<< k) &&& ~~~M = aroB M k := by
  refine BitVec.eq_of_getLsbD_eq fun i hi => ?_
  unfold aroB
  rw [BitVec.getLsbD_and, BitVec.getLsbD_and, BitVec.getLsbD_and, not_bit _ hi, not_bit _ hi, bitR_of k i hk]
  by_cases e : i = k
  · subst e; simp [h]
  · simp [e]
/-- The cells as far as a round has come. -/
def rpF (f : Nat → Int) (M : BitVec 64) {m : BitVec 64} (pre : List (CellOf m)) (c : Nat) : Int := if c ∈ pre.map (·.1) then mnV f M c else f c
theorem rpF_nil (f : Nat → Int) (M m : BitVec 64) : rpF f M ([] : List (CellOf m)) = f := by funext c; simp [rpF]
theorem rpF_snoc (f : Nat → Int) (M : BitVec 64) {m : BitVec 64} (pre : List (CellOf m)) (x : CellOf m) (j : Nat) : upd (rpF f M pre) x.1 (mnV f M x.1) j = rpF f M (pre ++ [x]) j := by
  unfold upd rpF
  by_cases e : j = x.1
  · subst e; simp
  · simp [e]
theorem rpF_all (f : Nat → Int) (M : BitVec 64) {xs : List (CellOf (rimB M))} (h : xs.map (·.1) = bitsL (rimB M) 64) : rpF f M xs = nwF f M 64 := by
  funext c
  unfold rpF nwF
  rw [h]
  simp only [mem_bitsL]

section
variable {F : Fence} {n : Nat} {P : Program} {ops : Array Oper} {C : World → Prop}
/-- One operation of a quiet walk that gives the same value in whatever world. -/
theorem wpQuietIn_val {Q : Act → Prop} {a : Act} {o : Oper} {rest : List Oper} {v : Value} (hno : o.askedIn F P a C) (hgd : o.guard = none) (hr : ∀ W, (execOp a.eval o).run P W = .ok (.value v) W)
    (hK : wpQuietIn F n P ops C Q rest (a.put o.dst v)) : wpQuietIn F n P ops C Q (o :: rest) a :=
  BigFrame.wpQuietIn_want hno (by simp [Region.wanted, hgd]) fun _ hK' => ⟨_, fun W _ => by unfold Oper.quietAtIn; rw [hr W]; exact ⟨rfl, rfl⟩, hK' _ hK⟩
end
theorem bitOfE_any (k : Nat) (hk : k < 64) (w : World) : Calls Tryz.prog 57 #[.int .i64 (k : Int)] w fun e w' => e = .returned (.int .u64 (bvI (1#64 <<< k))) ∧ w = w' := by
  go_enter Tryz.func57, Tryz.ntmps57
  go_wp2_with (refine wpList_yield rfl (run_shl_bv (κ := .i64) (a := 1#64) (k := k) rfl rfl rfl hk) ?_)
  go_ret
  exact ⟨rfl, rfl⟩
theorem setOfE_any (k : Nat) (hk : k < 64) (w : World) : Calls Tryz.prog 58 #[.int .i64 (k : Int)] w fun e w' => e = .returned (.int .u64 (bvI (1#64 <<< k))) ∧ w = w' := by
  have hb := Lib.hid (fun W => bitOfE_any k hk W)
  go_enter Tryz.func58, Tryz.ntmps58
  go_wp2_with (go_at_call 57; refine (hb.out _).mono ?_; rintro e w' ⟨rfl, rfl⟩)
  go_ret
  exact ⟨rfl, rfl⟩

set_option maxRecDepth 100000 in
set_option maxHeartbeats 4000000 in
theorem repairedIn_any (f : Nat → Int) (hf : S16 f) (M : BitVec 64) (w : World) (hT : DbEnv w) :
    Calls Tryz.prog 52 #[.agg (arrV .i16 64 f), .int .u64 (bvI (rimB M)), .int .u64 (bvI M)] w fun e w' => e = .returned (.agg (arrV .i16 64 (nwF f M 64))) ∧ Below w.heap.size w w' := by
  have hgl := hT.lt
  have a0 := ((HasArr.new w 89 .i16 64 f).alloc (.cells #[.int .u64 (bvI M)] 55)).alloc (.cells #[.int .i16 0, .int .i16 0, .int .i16 0, .int .i16 0, .int .i16 0, .int .i16 0, .int .i16 0, .int .i16 0, .int .i16 0, .int .i16 0, .int .i16 0, .int .i16 0, .int .i16 0, .int .i16 0, .int .i16 0, .int .i16 0, .int .i16 0, .int .i16 0, .int .i16 0, .int .i16 0, .int .i16 0, .int .i16 0, .int .i16 0, .int .i16 0, .int .i16 0, .int .i16 0, .int .i16 0, .int .i16 0, .int .i16 0, .int .i16 0, .int .i16 0, .int .i16 0, .int .i16 0, .int .i16 0, .int .i16 0, .int .i16 0, .int .i16 0, .int .i16 0, .int .i16 0, .int .i16 0, .int .i16 0, .int .i16 0, .int .i16 0, .int .i16 0, .int .i16 0, .int .i16 0, .int .i16 0, .int .i16 0, .int .i16 0, .int .i16 0, .int .i16 0, .int .i16 0, .int .i16 0, .int .i16 0, .int .i16 0, .int .i16 0, .int .i16 0, .int .i16 0, .int .i16 0, .int .i16 0, .int .i16 0, .int .i16 0, .int .i16 0, .int .i16 0] 89)
  have z0 := HasArr.zero (((w.alloc (.cells (arrV .i16 64 f) 89)).alloc (.cells #[.int .u64 (bvI M)] 55)).alloc (.cells #[.int .i16 0, .int .i16 0, .int .i16 0, .int .i16 0, .int .i16 0, .int .i16 0, .int .i16 0, .int .i16 0, .int .i16 0, .int .i16 0, .int .i16 0, .int .i16 0, .int .i16 0, .int .i16 0, .int .i16 0, .int .i16 0, .int .i16 0, .int .i16 0, .int .i16 0, .int .i16 0, .int .i16 0, .int .i16 0, .int .i16 0, .int .i16 0, .int .i16 0, .int .i16 0, .int .i16 0, .int .i16 0, .int .i16 0, .int .i16 0, .int .i16 0, .int .i16 0, .int .i16 0, .int .i16 0, .int .i16 0, .int .i16 0, .int .i16 0, .int .i16 0, .int .i16 0, .int .i16 0, .int .i16 0, .int .i16 0, .int .i16 0, .int .i16 0, .int .i16 0, .int .i16 0, .int .i16 0, .int .i16 0, .int .i16 0, .int .i16 0, .int .i16 0, .int .i16 0, .int .i16 0, .int .i16 0, .int .i16 0, .int .i16 0, .int .i16 0, .int .i16 0, .int .i16 0, .int .i16 0, .int .i16 0, .int .i16 0, .int .i16 0, .int .i16 0] 89)) 89 (b := w.heap.size + 1 + 1 + 1) (by simp)
  refine (callsIn_wide (n := 10)).1 ?_
  refine callsIn_of_wp_marks Tryz.func52 rfl trivial ?_ rfl
  simp only [Tryz.ntmps52, List.size_toArray, List.length_cons, List.length_nil, Nat.reduceAdd, Nat.reduceSub, Array.replicate_succ, Array.replicate_zero, List.push_toArray, List.append_toArray, List.nil_append, List.cons_append]
  gi_wp2_with (first
    | (refine wpListIn_load_arr a0 _ _ rfl rfl rfl Tryz.underlying89 sizeCells ?_)
    | (refine wpListIn_store_arr z0 _ _ _ rfl rfl rfl rfl sizeCells ?_))
  clear a0 z0
  obtain ⟨W1, e1⟩ : ∃ W1, w.alloc (.cells (arrV .i16 64 f) 89) = W1 := ⟨_, rfl⟩
  have p1 : HasArr W1 w.heap.size 89 .i16 64 f := by rw [← e1]; exact HasArr.new w _ _ _ _
  have s1 : W1.heap.size = w.heap.size + 1 := by rw [← e1]; simp
  have k1 : Below w.heap.size w W1 := by rw [← e1]; exact (Below.refl _ w).alloc (Nat.le_refl _) _
  rw [e1]; clear e1
  obtain ⟨W2, e2⟩ : ∃ W2, W1.alloc (.cells #[.int .u64 (bvI M)] 55) = W2 := ⟨_, rfl⟩
  have p2 : HasArr W2 w.heap.size 89 .i16 64 f := by rw [← e2]; exact p1.alloc _
  have q2 : Boxed W2 (w.heap.size + 1) 55 (.int .u64 (bvI M)) := by rw [← e2, ← s1]; exact Boxed.new _ _ _
  have s2 : W2.heap.size = w.heap.size + 1 + 1 := by rw [← e2]; simp [s1]
  have k2 : Below w.heap.size w W2 := by rw [← e2]; exact k1.alloc (by omega) _
  rw [e2]; clear e2
  obtain ⟨W3, e3⟩ : ∃ W3, W2.alloc (.cells #[.int .i16 0, .int .i16 0, .int .i16 0, .int .i16 0, .int .i16 0, .int .i16 0, .int .i16 0, .int .i16 0, .int .i16 0, .int .i16 0, .int .i16 0, .int .i16 0, .int .i16 0, .int .i16 0, .int .i16 0, .int .i16 0, .int .i16 0, .int .i16 0, .int .i16 0, .int .i16 0, .int .i16 0, .int .i16 0, .int .i16 0, .int .i16 0, .int .i16 0, .int .i16 0, .int .i16 0, .int .i16 0, .int .i16 0, .int .i16 0, .int .i16 0, .int .i16 0, .int .i16 0, .int .i16 0, .int .i16 0, .int .i16 0, .int .i16 0, .int .i16 0, .int .i16 0, .int .i16 0, .int .i16 0, .int .i16 0, .int .i16 0, .int .i16 0, .int .i16 0, .int .i16 0, .int .i16 0, .int .i16 0, .int .i16 0, .int .i16 0, .int .i16 0, .int .i16 0, .int .i16 0, .int .i16 0, .int .i16 0, .int .i16 0, .int .i16 0, .int .i16 0, .int .i16 0, .int .i16 0, .int .i16 0, .int .i16 0, .int .i16 0, .int .i16 0] 89) = W3 := ⟨_, rfl⟩
  have p3 : HasArr W3 w.heap.size 89 .i16 64 f := by rw [← e3]; exact p2.alloc _
  have q3 : Boxed W3 (w.heap.size + 1) 55 (.int .u64 (bvI M)) := by rw [← e3]; exact q2.alloc _
  have r3 : HasArr W3 (w.heap.size + 1 + 1) 89 .i16 64 (fun _ => 0) := by rw [← e3]; exact HasArr.zero W2 _ s2.symm
  have s3 : W3.heap.size = w.heap.size + 1 + 1 + 1 := by rw [← e3]; simp [s2]
  have k3 : Below w.heap.size w W3 := by rw [← e3]; exact k2.alloc (by omega) _
  rw [e3]; clear e3
  obtain ⟨W4, e4⟩ : ∃ W4, W3.alloc (.cells #[.int .i16 0, .int .i16 0, .int .i16 0, .int .i16 0, .int .i16 0, .int .i16 0, .int .i16 0, .int .i16 0, .int .i16 0, .int .i16 0, .int .i16 0, .int .i16 0, .int .i16 0, .int .i16 0, .int .i16 0, .int .i16 0, .int .i16 0, .int .i16 0, .int .i16 0, .int .i16 0, .int .i16 0, .int .i16 0, .int .i16 0, .int .i16 0, .int .i16 0, .int .i16 0, .int .i16 0, .int .i16 0, .int .i16 0, .int .i16 0, .int .i16 0, .int .i16 0, .int .i16 0, .int .i16 0, .int .i16 0, .int .i16 0, .int .i16 0, .int .i16 0, .int .i16 0, .int .i16 0, .int .i16 0, .int .i16 0, .int .i16 0, .int .i16 0, .int .i16 0, .int .i16 0, .int .i16 0, .int .i16 0, .int .i16 0, .int .i16 0, .int .i16 0, .int .i16 0, .int .i16 0, .int .i16 0, .int .i16 0, .int .i16 0, .int .i16 0, .int .i16 0, .int .i16 0, .int .i16 0, .int .i16 0, .int .i16 0, .int .i16 0, .int .i16 0] 89) = W4 := ⟨_, rfl⟩
  have p4 : HasArr W4 w.heap.size 89 .i16 64 f := by rw [← e4]; exact p3.alloc _
  have q4 : Boxed W4 (w.heap.size + 1) 55 (.int .u64 (bvI M)) := by rw [← e4]; exact q3.alloc _
  have r4 : HasArr W4 (w.heap.size + 1 + 1) 89 .i16 64 (fun _ => 0) := by rw [← e4]; exact r3.alloc _
  have u4 : HasArr W4 (w.heap.size + 1 + 1 + 1) 89 .i16 64 (fun _ => 0) := by rw [← e4]; exact HasArr.zero W3 _ s3.symm
  have s4 : W4.heap.size = w.heap.size + 1 + 1 + 1 + 1 := by rw [← e4]; simp [s3]
  have k4 : Below w.heap.size w W4 := by rw [← e4]; exact k3.alloc (by omega) _
  rw [e4]; clear e4
  obtain ⟨W5, e5⟩ : ∃ W5, W4.setRow (w.heap.size + 1 + 1 + 1) (arrV .i16 64 f) = W5 := ⟨_, rfl⟩
  have p5 : HasArr W5 w.heap.size 89 .i16 64 f := by rw [← e5]; exact p4.rowOther (by omega) _
  have q5 : Boxed W5 (w.heap.size + 1) 55 (.int .u64 (bvI M)) := by rw [← e5]; exact (setRow_other _ _ _ _ (by omega)).trans q4
  have r5 : HasArr W5 (w.heap.size + 1 + 1) 89 .i16 64 (fun _ => 0) := by rw [← e5]; exact r4.rowOther (by omega) _
  have u5 : HasArr W5 (w.heap.size + 1 + 1 + 1) 89 .i16 64 f := by rw [← e5]; exact u4.setRow _ _
  have s5 : W5.heap.size = w.heap.size + 1 + 1 + 1 + 1 := by rw [← e5]; simp [s4]
  have k5 : Below w.heap.size w W5 := by rw [← e5]; exact below_setRow k4 (by omega) _
  rw [e5]; clear e5
  clear p1 s1 k1 p2 q2 s2 k2 p3 q3 r3 s3 k3 p4 q4 r4 u4 s4 k4 W1 W2 W3 W4
  refine ⟨trivial, ?_⟩
  refine (each_in 9 (rimB M) _).mono ?_; rintro e w' ⟨rfl, rfl⟩
  rw [s5]
  gi_wp2
  have bM := Boxed.new W5 55 (.int .u64 (bvI (rimB M)))
  rw [s5] at bM
  have p6 := p5.alloc (.cells #[.int .u64 (bvI (rimB M))] 55)
  have q6 := q5.alloc (.cells #[.int .u64 (bvI (rimB M))] 55)
  have r6 := r5.alloc (.cells #[.int .u64 (bvI (rimB M))] 55)
  have u6 := u5.alloc (.cells #[.int .u64 (bvI (rimB M))] 55)
  have k6 := k5.alloc k5.size (.cells #[.int .u64 (bvI (rimB M))] 55)
  have s6 : (W5.alloc (.cells #[.int .u64 (bvI (rimB M))] 55)).heap.size = w.heap.size + 5 := by simp [s5]
  clear p5 q5 r5 u5 k5
  generalize W5.alloc (.cells #[.int .u64 (bvI (rimB M))] 55) = W0 at *
  have hT0 := hT.below k6
  have HT := Lib.hid hT; clear hT
  refine wpIn_rangeFunc_ownH rfl (by omega) (gf := 79) (lb := #[.pointer (some ⟨w.heap.size + 1 + 1 + 1 + 1, 0, none⟩)]) rfl trivial (enters_of Tryz.func79 (by kernel_rfl) rfl)
    (each_stops (rimB M) 9 (by omega) (w.heap.size + 1 + 1 + 1 + 1) W0 bM hT0) keepsT_t (keepsT_b (by omega)) (Below.refl _ _) (fun _ => rfl)
    (fun pre W => ((HasArr W w.heap.size 89 .i16 64 f ∧ Boxed W (w.heap.size + 1) 55 (.int .u64 (bvI M))) ∧ HasArr W (w.heap.size + 1 + 1) 89 .i16 64 (fun _ => 0) ∧ HasArr W (w.heap.size + 1 + 1 + 1) 89 .i16 64 (rpF f M pre)) ∧ w.heap.size + 4 < W.heap.size ∧ Below w.heap.size w W)
    (fun _ _ _ => False)
    (OwnFrom.and (OwnFrom.and (OwnFrom.and (Own.from (arrE_own _ _ _ _ (fun _ => f)) _) (Own.from (boxed_own _ _ (fun _ => .int .u64 (bvI M))) _)) (OwnFrom.and (Own.from (arrE_own _ _ _ _ (fun _ _ => 0)) _) (Own.from (arrE_own _ _ _ _ (fun pre => rpF f M pre)) _))) (OwnFrom.and (ownE_size _ _) (ownFrom_below (Nat.le_refl _) (by omega))))
    (fun _ => ownFrom_pure _ _)
    ⟨⟨⟨p6, q6⟩, r6, by rw [rpF_nil]; exact u6⟩, by omega, k6⟩
    (fun x a' W => a' = { tmps := #[.agg (arrV .i16 64 f), .int .u64 (bvI (rimB M)), .int .u64 (bvI M), .pointer (some ⟨w.heap.size, 0, none⟩), undef, .pointer (some ⟨w.heap.size + 1, 0, none⟩), .pointer (some ⟨w.heap.size + 1 + 1, 0, none⟩), .pointer (some ⟨w.heap.size + 1 + 1 + 1, 0, none⟩), .int .i64 ((x.1 : Nat) : Int), .agg (arrV .i16 64 f), .int .u64 (bvI (rimB M)), .func (.func 79) #[] #[.pointer (some ⟨w.heap.size + 1 + 1 + 1 + 1, 0, none⟩)], .int .i64 ((x.1 : Nat) : Int), undef, undef, undef, undef, undef, undef, undef, undef, undef, undef, undef], defers := [] })
    (fun x a' => ownFrom_pure _ _)
    ?assign ?body ?done ?stop
  case assign =>
    rintro l pre x W K hI hK
    unfold cellE
    gi_wp2
    exact hK _ _ (KeepsFrom.refl _ _) rfl hI rfl
  case body =>
    rintro l pre x a' W hl - ⟨⟨⟨A1, bM1⟩, z1, u1⟩, hZ, hB1⟩ rfl hlt2
    have hz := hB1.size
    have hk := x.2.1
    obtain ⟨hbit, hne⟩ := (rimB_iff M hk).1 x.2.2
    have HE := Lib.hid (aroB_eq hk hbit)
    have hs := Lib.hid (fun W => setOfE_any x.1 hk W)
    have hg := Lib.hid (fun W => grown_any (1#64 <<< x.1) W)
    have hm := Lib.hid (fun (y : WIn (Below W.heap.size W)) => meanIn_any f hf (aroB M x.1) hne y.w ((HT.out.below hB1).below y.ok))
    have cM := inCell bM1.cell
    have n0 := below_nonempty W
    have hA := Lib.hid A1; have hU := Lib.hid u1; have hZ2 := Lib.hid z1; have HM := Lib.hid bM1; clear A1 u1 z1 bM1
    have hk' : ((x.1 : Nat) : Int) < 64 := by omega
    have hmn : Hid (IntKind.i16.wrap ((sumB f (aroB M x.1) 64).tdiv ((cntB (aroB M x.1) 64 : Nat) : Int)) = mnV f M x.1) := Lib.hid rfl
    have hsn := Lib.hid (fun j => rpF_snoc f M pre x j)
    clear hbit hne
    generalize (sumB f (aroB M x.1) 64).tdiv ((cntB (aroB M x.1) 64 : Nat) : Int) = MN at *
    generalize rpF f M pre = G at *
    gi_wp2
    refine wpInR_region_quiet_tail 10 (Below W.heap.size W) (by kernel_rfl) (by kernel_rfl) (by kernel_rfl) (below_drew1 W) ?_
    simp only [List.take_succ_cons, List.take_zero, List.drop_succ_cons, List.drop_zero]
    have hF := wide_fn
    gi_big_quiet_step (fail)
    refine wpQuietIn_load_arr (fun V hV => by obtain ⟨y, rfl⟩ := hV; exact hA.out.below y.ok hA.out.lt) 89 (.tmp 3) rfl rfl rfl Tryz.underlying89 sizeCells ?_
    go_frame
    gi_big_quiet_step (fail)
    gi_big_quiet_step ((gi_at_call 58; exact inCallSR _ (hs.out _)))
    gi_big_quiet_step ((gi_at_call 27; exact inCallR _ (hg.out _)))
    gi_big_quiet_step (fail)
    refine wpQuietIn_val (BigFrame.askedIn_plain (fun _ h => nomatch h)) rfl (fun W => run_andNot_bv (a := growB (1#64 <<< x.1)) (b := M) rfl rfl rfl) ?_
    rw [HE.out]
    go_frame
    gi_big_quiet_step ((gi_at_call 67; exact inCallR _ (hm.out _)))
    gi_big_quiet_step (fail)
    gi_big_quiet_step (fail)
    refine wpQuietIn_nil ?_
    rintro _ ⟨y, rfl⟩
    have hA2 := hA.out.below y.ok hA.out.lt
    have hU2 := hU.out.below y.ok hU.out.lt
    have hZ3 := hZ2.out.below y.ok hZ2.out.lt
    have hM2 : Boxed y.w (w.heap.size + 1) 55 (.int .u64 (bvI M)) := (y.ok.block _ HM.out.lt).trans HM.out
    have cU := hU2.cell hk
    have fU := hU2.free x.1
    have hB2 := hB1.trans (y.ok.mono hz)
    gi_wp2
    refine ⟨(keepsE_below y.ok).trans ((KeepsOthers.setCell _ _ _).from _), keepsT_both hB1 (hB2.setCell (by simp; omega) _) hgl, ⟨⟨hA2.other (by simp; omega) _, (Below.heap_setCell _ _ _ _ (by simp)).trans hM2⟩, hZ3.other (by simp) _, ?_⟩, ?_, hB2.setCell (by simp; omega) _⟩
    · rw [hmn.out]; exact (hU2.set x.1 _).congr fun j _ => hsn.out j
    · have := y.ok.size; simp; omega
  case done =>
    rintro D l W hD hxs ⟨⟨⟨A1, bM1⟩, z1, u1⟩, hZ, hB1⟩ hK
    rw [rpF_all f M hxs] at u1
    gi_wp2_with (first
      | (refine wpListIn_load_arr u1 _ _ rfl rfl rfl Tryz.underlying89 sizeCells ?_)
      | (refine wpListIn_store_arr z1 _ _ _ rfl rfl rfl rfl sizeCells ?_))
    have hK' := (setRow_other W (w.heap.size + 1 + 1) D (arrV .i16 64 (nwF f M 64)) (by omega)).trans hK
    refine ⟨by simp, .inl ⟨_, _, rfl, run_takeDeferred hK', ?_⟩⟩
    refine ⟨.agg (arrV .i16 64 (nwF f M 64)), ?_, rfl, (below_setRow hB1 (by omega) _).trans (belowK_b (w := w) (Nat.le_refl _) _ D _ _ (by omega) hK' rfl rfl)⟩
    exact results_cell_row rfl _ _ _ _ _ _ _ rfl ((World.putObj_heap_other (by omega)).trans (z1.setRow .i16 (nwF f M 64))) Tryz.underlying89 rfl (by rw [arrV_size]; exact sizeCells)
  case stop =>
    rintro D c pre W hD - hI hK
    exact hI.elim
end Go.Proofs.YtiinkfnamhcekaaGreatDoor

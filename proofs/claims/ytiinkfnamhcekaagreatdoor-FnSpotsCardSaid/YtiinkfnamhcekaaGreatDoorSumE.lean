/-
  The sum and the mean of the densities in some cells of a print. Condition: the library's table of de Bruijn holds what its text lays.
-/
import Derived.Test.YtiinkfnamhcekaaGreatDoorEachI
namespace Go.Proofs.YtiinkfnamhcekaaGreatDoor
open Go.RowKit Go.Shelf

theorem wide_fn (k : Nat) : Fence.wide.fn k = True := eq_true trivial
attribute [local go_sem] Oper.semAt_some

/-! ### WHAT A LOOP's INVARIANT SPEAKS OF -/
theorem ownE_size {β : Type} (B N : Nat) : OwnFrom B (fun (_ : β) W => N < W.heap.size) := fun _ _ _ _ hs hg _ => Nat.lt_of_lt_of_le hs hg.size
theorem keepsE_below {B : Nat} {W W' : World} (h : Below W.heap.size W W') : KeepsFrom B W W' := ⟨h.size, fun k o _ hk _ => (h.block k (Array.getElem?_eq_some_iff.1 hk).1).trans hk⟩
theorem arrE_own {β : Type} (B : Nat) (T : TypeId) (κ : IntKind) (n : Nat) (F : β → Nat → Int) : Own (fun s W => HasArr W B T κ n (F s)) := fun s X Y row hs hg hrow =>
  (hg.block B hs.lt (fun e' => by
    obtain ⟨o, ho, hc⟩ := hrow B e'.symm
    rw [show X.heap[B]? = _ from hs] at ho; cases ho; cases hc)).trans hs
theorem keepsT_both {n : Nat} {w W W' : World} (h1 : Below n w W) (h2 : Below n w W') (hb : 6 < n) : KeepsT W W' := (h2.block _ hb).trans (h1.block _ hb).symm

/-- The sum of the densities of some cells. -/
def sumL {m : BitVec 64} (f : Nat → Int) : List (CellOf m) → Int
  | [] => 0
  | x :: r => f x.1 + sumL f r
theorem sumL_snoc {m : BitVec 64} (f : Nat → Int) (x : CellOf m) : ∀ l : List (CellOf m), sumL f (l ++ [x]) = sumL f l + f x.1
  | [] => by simp [sumL]
  | y :: r => by
    have h := sumL_snoc f x r
    show f y.1 + sumL f (r ++ [x]) = f y.1 + sumL f r + f x.1
    omega
theorem sumL_bd {m : BitVec 64} {f : Nat → Int} (hf : S16 f) : ∀ l : List (CellOf m), -32768 * (l.length : Int) ≤ sumL f l ∧ sumL f l ≤ 32768 * (l.length : Int)
  | [] => by simp [sumL]
  | y :: r => by
    have h := sumL_bd hf r
    have h2 := hf y.1 y.2.1
    show -32768 * ((r.length + 1 : Nat) : Int) ≤ f y.1 + sumL f r ∧ f y.1 + sumL f r ≤ 32768 * ((r.length + 1 : Nat) : Int)
    omega
def sumN (f : Nat → Int) : List Nat → Int
  | [] => 0
  | x :: r => f x + sumN f r
theorem sumN_snoc (f : Nat → Int) (x : Nat) : ∀ l : List Nat, sumN f (l ++ [x]) = sumN f l + f x
  | [] => by simp [sumN]
  | y :: r => by
    have h := sumN_snoc f x r
    show f y + sumN f (r ++ [x]) = f y + sumN f r + f x
    omega
theorem sumL_map {m : BitVec 64} (f : Nat → Int) : ∀ l : List (CellOf m), sumL f l = sumN f (l.map (·.1))
  | [] => rfl
  | y :: r => by show f y.1 + sumL f r = f y.1 + sumN f (r.map (·.1)); rw [sumL_map f r]
theorem sumN_bits (f : Nat → Int) (m : BitVec 64) : ∀ j, sumN f (bitsL m j) = sumB f m j
  | 0 => rfl
  | j + 1 => by
    have h := sumN_bits f m j
    rcases hb : m.getLsbD j with _ | _
    · rw [bitsL_no hb, h]; simp [sumB, hb]
    · rw [bitsL_yes hb, sumN_snoc, h]; simp [sumB, hb]
theorem sumL_all {m : BitVec 64} (f : Nat → Int) {l : List (CellOf m)} (h : l.map (·.1) = bitsL m 64) : sumL f l = sumB f m 64 := by
  rw [sumL_map, h, sumN_bits]

set_option maxRecDepth 100000 in
set_option maxHeartbeats 1000000 in
theorem densE_any (f : Nat → Int) (hf : S16 f) (k : Nat) (hk : k < 64) (w : World) :
    Calls Tryz.prog 90 #[.agg (arrV .i16 64 f), .int .i64 (k : Int)] w fun e w' => e = .returned (.int .i64 (f k)) ∧ Below w.heap.size w w' := by
  have hA := HasArr.new w 89 .i16 64 f
  have c1 := hA.cell hk
  have hs := hf k hk
  have hk' : (k : Int) < 64 := by omega
  have k0 := (Below.refl w.heap.size w).alloc (Nat.le_refl _) (.cells (arrV .i16 64 f) 89)
  go_enter Tryz.func90, Tryz.ntmps90
  go_wp2_with fail
  go_ret
  exact ⟨rfl, k0⟩

set_option maxRecDepth 100000 in
set_option maxHeartbeats 2000000 in
theorem sumIn_any (f : Nat → Int) (hf : S16 f) (m : BitVec 64) (w : World) (hT : DbEnv w) :
    Calls Tryz.prog 81 #[.agg (arrV .i16 64 f), .int .u64 (bvI m)] w fun e w' => e = .returned (.int .i64 (sumB f m 64)) ∧ Below w.heap.size w w' := by
  have hgl := hT.lt
  have HD := Lib.hid (fun k hk W => densE_any f hf k hk W)
  refine (callsIn_wide (n := 10)).1 ?_
  refine callsIn_of_wp_marks Tryz.func81 rfl trivial ?_ rfl
  simp only [Tryz.ntmps81, List.size_toArray, List.length_cons, List.length_nil, Nat.reduceAdd, Nat.reduceSub, Array.replicate_succ, Array.replicate_zero, List.push_toArray, List.append_toArray, List.nil_append, List.cons_append]
  gi_wp2
  refine ⟨trivial, ?_⟩
  refine (each_in 9 m _).mono ?_; rintro e w' ⟨rfl, rfl⟩
  gi_wp2
  have a1 := ((HasArr.new w 89 .i16 64 f).alloc (.cells #[.int .i64 0] 2)).alloc (.cells #[.int .u64 (bvI m)] 55)
  have bS := Boxed.new (w.alloc (.cells (arrV .i16 64 f) 89)) 2 (.int .i64 0)
  rw [World.size_alloc] at bS
  have bS := bS.alloc (.cells #[.int .u64 (bvI m)] 55)
  have bM := Boxed.new ((w.alloc (.cells (arrV .i16 64 f) 89)).alloc (.cells #[.int .i64 0] 2)) 55 (.int .u64 (bvI m))
  rw [World.size_alloc, World.size_alloc] at bM
  have hB0 : Below w.heap.size w (((w.alloc (.cells (arrV .i16 64 f) 89)).alloc (.cells #[.int .i64 0] 2)).alloc (.cells #[.int .u64 (bvI m)] 55)) := (((Below.refl _ w).alloc (Nat.le_refl _) _).alloc (by simp) _).alloc (by simp; omega) _
  have hsz : (((w.alloc (.cells (arrV .i16 64 f) 89)).alloc (.cells #[.int .i64 0] 2)).alloc (.cells #[.int .u64 (bvI m)] 55)).heap.size = w.heap.size + 3 := by simp
  obtain ⟨W0, hW0⟩ : ∃ W0, ((w.alloc (.cells (arrV .i16 64 f) 89)).alloc (.cells #[.int .i64 0] 2)).alloc (.cells #[.int .u64 (bvI m)] 55) = W0 := ⟨_, rfl⟩
  rw [hW0] at a1 bS bM hB0 hsz ⊢
  clear hW0
  have hT0 := hT.below hB0
  refine wpIn_rangeFunc_ownH rfl (by omega) (gf := 79) (lb := #[.pointer (some ⟨w.heap.size + 1 + 1, 0, none⟩)]) rfl trivial (enters_of Tryz.func79 (by kernel_rfl) rfl)
    (each_stops m 9 (by omega) (w.heap.size + 1 + 1) W0 bM hT0) keepsT_t (keepsT_b (by omega)) (Below.refl _ _) (fun _ => rfl)
    (fun pre W => (HasArr W w.heap.size 89 .i16 64 f ∧ Boxed W (w.heap.size + 1) 2 (.int .i64 (sumL f pre))) ∧ w.heap.size + 2 < W.heap.size ∧ Below w.heap.size w W)
    (fun _ _ _ => False)
    (OwnFrom.and (OwnFrom.and (Own.from (arrE_own _ _ _ _ (fun _ => f)) _) (Own.from (boxed_own _ _ _) _)) (OwnFrom.and (ownE_size _ _) (ownFrom_below (Nat.le_refl _) (by omega))))
    (fun _ => ownFrom_pure _ _)
    ⟨⟨a1, bS⟩, by omega, hB0⟩
    (fun x a' W => a' = { tmps := #[.agg (arrV .i16 64 f), .int .u64 (bvI m), .pointer (some ⟨w.heap.size, 0, none⟩), undef, .int .i64 0, .pointer (some ⟨w.heap.size + 1, 0, none⟩), .int .i64 ((x.1 : Nat) : Int), .int .u64 (bvI m), .func (.func 79) #[] #[.pointer (some ⟨w.heap.size + 1 + 1, 0, none⟩)], .int .i64 ((x.1 : Nat) : Int), undef, undef, undef, undef, undef, undef], defers := [] })
    (fun x a' => ownFrom_pure _ _)
    ?assign ?body ?done ?stop
  case assign =>
    rintro l pre x W K hI hK
    unfold cellE
    gi_wp2
    exact hK _ _ (KeepsFrom.refl _ _) rfl hI rfl
  case body =>
    rintro l pre x a' W hl - ⟨⟨A1, bS1⟩, hZ, hB1⟩ rfl hlt2
    have hz := hB1.size
    have hd := Lib.hid (HD.out x.1 x.2.1)
    have hb2 := sumL_bd hf pre
    have hx := hf x.1 x.2.1
    have hsn := sumL_snoc f x pre
    have HSN := Lib.hid hsn; clear hsn
    have cS := inCell bS1.cell
    have n0 := below_nonempty W
    have hA := Lib.hid A1; clear A1
    generalize sumL f pre = S at *
    generalize f x.1 = Y at *
    gi_wp2
    refine wpInR_region_quiet_tail 5 (Below W.heap.size W) (by kernel_rfl) (by kernel_rfl) (by kernel_rfl) (below_drew1 W) ?_
    simp only [List.take_succ_cons, List.take_zero, List.drop_succ_cons, List.drop_zero]
    have hF := wide_fn
    gi_big_quiet_step (fail)
    refine wpQuietIn_load_arr (fun V hV => by obtain ⟨y, rfl⟩ := hV; exact hA.out.below y.ok hA.out.lt) 89 (.tmp 2) rfl rfl rfl Tryz.underlying89 sizeCells ?_
    go_frame
    gi_big_quiet_step (fail)
    gi_big_quiet_step ((gi_at_call 90; exact inCallR _ (hd.out _)))
    gi_big_quiet_step (fail)
    refine wpQuietIn_nil ?_
    rintro _ ⟨y, rfl⟩
    have hA2 := hA.out.below y.ok hA.out.lt
    have bS2 : Boxed y.w (w.heap.size + 1) 2 (.int .i64 S) := (y.ok.block _ bS1.lt).trans bS1
    have cR := bS2.cell
    have fR := bS2.frozen
    have hB2 := hB1.trans (y.ok.mono hz)
    gi_wp2
    refine ⟨(keepsE_below y.ok).trans ((KeepsOthers.setCell _ _ _).from _), keepsT_both hB1 (hB2.setCell (by simp) _) hgl, ⟨hA2.other (by simp) _, ?_⟩, ?_, hB2.setCell (by simp) _⟩
    · rw [HSN.out]; exact bS2.set _
    · have := y.ok.size; simp; omega
  case done =>
    rintro D l W hD hxs ⟨⟨A1, bS1⟩, hZ, hB1⟩ hK
    have hv := sumL_all f hxs
    rw [hv] at bS1
    have cR := bS1.cell
    have fR := bS1.frozen
    have hz := hB1.size
    gi_wp2
    refine ⟨by simp, .inl ⟨_, _, rfl, run_takeDeferred hK, ?_⟩⟩
    refine ⟨.int .i64 (sumB f m 64), ?_, rfl, hB1.trans (belowK_b (w := w) (Nat.le_refl _) _ D _ _ (by omega) hK rfl rfl)⟩
    simp [results, Tryz.f81, go_sem]
  case stop =>
    rintro D c pre W hD - hI hK
    exact hI.elim

set_option maxRecDepth 100000 in
set_option maxHeartbeats 1000000 in
theorem meanIn_any (f : Nat → Int) (hf : S16 f) (m : BitVec 64) (h0 : m ≠ 0#64) (w : World) (hT : DbEnv w) :
    Calls Tryz.prog 67 #[.agg (arrV .i16 64 f), .int .u64 (bvI m)] w fun e w' => e = .returned (.int .i64 ((sumB f m 64).tdiv ((cntB m 64 : Nat) : Int))) ∧ Below w.heap.size w w' := by
  have a1 := HasArr.new w 89 .i16 64 f
  have k0 := (Below.refl w.heap.size w).alloc (Nat.le_refl _) (.cells (arrV .i16 64 f) 89)
  have hs := sumIn_any f hf m (w.alloc (.cells (arrV .i16 64 f) 89)) (hT.below k0)
  have hc := fun W => count_any m W
  have hc1 := cntB_pos h0
  have hc2 := cntB_le m 64
  have hb := sumB_bd hf m 64 (Nat.le_refl _)
  generalize sumB f m 64 = S at *
  generalize cntB m 64 = C at *
  have hC0 : ¬ C = 0 := by omega
  have hC1 : (1 : Int) ≤ (C : Int) := by omega
  have e1 : IntKind.i64.wrap (S.tdiv (C : Int)) = S.tdiv (C : Int) := IntWalk.i64_in _ (by
    have h1 := Int.natAbs_tdiv_le_natAbs S (C : Int)
    omega)
  have Hs := Lib.hid hs; have Hc := Lib.hid hc
  clear hs hc hT
  go_enter Tryz.func67, Tryz.ntmps67
  go_wp2_with (first
    | (refine wpList_load_arr a1 _ _ rfl rfl rfl Tryz.underlying89 sizeCells ?_)
    | (go_at_call 82; refine (Hc.out _).mono ?_; rintro e w' ⟨rfl, rfl⟩)
    | (go_at_call 81; refine Hs.out.mono ?_; rintro e w2 ⟨rfl, hb2⟩))
  go_ret
  exact ⟨rfl, k0.trans (hb2.mono k0.size)⟩
end Go.Proofs.YtiinkfnamhcekaaGreatDoor

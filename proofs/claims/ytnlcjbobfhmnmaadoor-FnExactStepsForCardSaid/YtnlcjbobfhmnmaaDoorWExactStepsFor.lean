/-
  The walk of the law FnExactStepsFor: it returns true for every argument. Condition: the listed variables hold what the row lists.
-/
import Derived.Test.YtnlcjbobfhmnmaaDoorStfY
import Derived.Test.YtnlcjbobfhmnmaaDoorStfX
import Derived.Test.YtnlcjbobfhmnmaaDoorOpenA
import Derived.Test.YtnlcjbobfhmnmaaDoorOpenP
import Derived.Test.YtnlcjbobfhmnmaaDoorOwnCurve
import Derived.Test.YtnlcjbobfhmnmaaDoorOwnStepS
import Derived.Test.YtnlcjbobfhmnmaaDoorEnv
namespace Go.Proofs.YtnlcjbobfhmnmaaDoor
open Go.RowKit

theorem mine_of_ptsF {w : World} {b n cap : Nat} {fs es : Nat → Int} (h : PtRow w b n fs es) : Mine w b (b + 1) 54 2 (.slice (some ⟨b, 0, none⟩) n cap) n (cellCurve fs es) := by
  obtain ⟨m, f, hm, hr, he⟩ := h
  exact ⟨_, cap, rfl, .inr ⟨b, m, f, rfl, Nat.le_refl _, by omega, hm, hr, fun j hj => by rw [he j hj]; unfold cellCurve ptF; rfl⟩⟩
theorem yields_load_arrF {P : Program} {ops : Array Oper} {S : World → Prop} {o : Oper} {a : Act} {b : Nat} {T : TypeId} {κ : IntKind} {n : Nat} {f : Nat → Int} {m : Nat} {e : TypeId} (h : ∀ W, S W → HasArr W b T κ n f) (ty : TypeId) (x : Operand) (hw : Region.wanted o (yielded ops a.tmps) = true)
    (ho : o.op = .load ty x) (hx : a.eval x = .pointer (some ⟨b, 0, none⟩)) (hu : P.underlying ty = some (.array m e)) (hi : (P.info? ty).map (·.size) = some n) : YieldsIf P ops S o (.agg (arrV κ n f)) a :=
  .inl ⟨hw, fun W hW => run_load_arr (h W hW) ty x ho hx hu hi⟩
def TwoA (f g : Nat → Int) (b : Nat) (W : World) : Prop := HasArr W b 23 .i16 64 f ∧ HasArr W (b + 1) 23 .i16 64 g

set_option maxRecDepth 100000 in
set_option maxHeartbeats 4000000 in
theorem walk_FnExactStepsFor (f : Nat → Int) (A1 : Option Addr) (n1 cap1 : Nat) (fs1 es1 : Nat → Int) (g : Nat → Int) (w : World) (hL : laidMetH Tryd.prog Rows.fnExactStepsForRow.laid w) (hf : S16 f)
    (hr1 : PtsIn w A1 n1 fs1 es1) (hm1 : n1 ≤ maxLen) (hs1 : SmallP n1 fs1 es1) (hg : S16 g) :
    Calls Tryd.prog 4 #[.agg (arrV .i16 64 f), .slice A1 n1 cap1, .agg (arrV .i16 64 g)] w fun e w' => e = .returned (.bool true) ∧ Below w.heap.size w w' := by
  obtain ⟨s, hE⟩ := errEnv_of_row hL (by kernel_rfl) (by kernel_rfl)
  unfold maxLen at hm1
  have a0 := (HasArr.new w 23 .i16 64 f).alloc (.cells (arrV .i16 64 g) 23)
  have b0 : HasArr ((w.alloc (.cells (arrV .i16 64 f) 23)).alloc (.cells (arrV .i16 64 g) 23)) (w.heap.size + 1) 23 .i16 64 g := by
    have h := HasArr.new (w.alloc (.cells (arrV .i16 64 f) 23)) 23 .i16 64 g
    simpa using h
  have k0 := ((Below.refl w.heap.size w).alloc (Nat.le_refl _) (.cells (arrV .i16 64 f) 23)).alloc (by simp) (.cells (arrV .i16 64 g) 23)
  by_cases hn1 : n1 ≤ 1048576
  rotate_left
  · have hz1 := szCurve_any A1 n1 cap1 (1048576) (by omega) (by omega) hm1
    rw [if_neg (by omega)] at hz1
    have Hz1 := Lib.hid hz1; clear hz1 hr1 a0 b0
    go_enter Tryd.func4, Tryd.ntmps4
    go_wp2_with fail
    refine (Hz1.out _).mono ?_; rintro e z0 ⟨rfl, rfl⟩
    go_wp2
    go_ret
    exact ⟨rfl, k0⟩
  have hz1 := szCurve_any A1 n1 cap1 (1048576) (by omega) (by omega) hm1
  rw [if_pos (by omega)] at hz1
  have hsp := fun b (W : World) h => specStepsFor_any f hf b n1 n1 fs1 es1 hn1 hs1 g hg W h
  have him := fun b (W : World) h hE => StepsFor_any s f b n1 n1 fs1 es1 hn1 hs1 g W h hE
  unfold SfOut at hsp him
  have hlen := sfL_len (sfT f n1 fs1 es1 g) 37
  have hNN : (if sfC f n1 fs1 es1 g = 0 then (sfL (sfT f n1 fs1 es1 g) 37).length else 0) ≤ 1048576 := by split <;> omega
  generalize (if sfC f n1 fs1 es1 g = 0 then (sfL (sfT f n1 fs1 es1 g) 37).length else 0) = NN at hsp him hNN
  generalize (fun j => ((sfL (sfT f n1 fs1 es1 g) 37).getD j (0, 0)).1) = F0 at hsp him
  generalize (fun j => ((sfL (sfT f n1 fs1 es1 g) 37).getD j (0, 0)).2) = F1 at hsp him
  generalize sfC f n1 fs1 es1 g = C at hsp him
  have Hz1 := Lib.hid hz1; clear hz1 hlen
  have Hsp := Lib.hid hsp; clear hsp
  have Him := Lib.hid him; clear him
  have HE := Lib.hid hE; clear hE hL
  have Hr1 := Lib.hid (hr1.below k0 (Nat.le_refl _)); clear hr1
  clear hm1 hf hg hs1
  go_enter Tryd.func4, Tryd.ntmps4
  go_wp2_with fail
  refine (Hz1.out _).mono ?_; rintro e z0 ⟨rfl, rfl⟩
  generalize hw0 : (w.alloc (.cells (arrV .i16 64 f) 23)).alloc (.cells (arrV .i16 64 g) 23) = w0 at *
  have hz0 : w0.heap.size = w.heap.size + 2 := by rw [← hw0]; simp
  clear hw0
  have d0 := Below.refl w0.heap.size w0
  have TA0 : TwoA f g w.heap.size w0 := ⟨a0, b0⟩
  clear a0 b0

  go_wp2_with fail
  refine wp_region_held (S := TwoA f g w.heap.size) (by kernel_rfl) ?_
  have hb1 := below_drew1 w0
  show wpAnyH _ _ _ _ _ _ _ _ w0.drew
  have s1 := hb1.size
  have y1 := d0.size
  have TA1 : TwoA f g w.heap.size w0.drew := ⟨TA0.1.below hb1 TA0.1.lt, TA0.2.below hb1 TA0.2.lt⟩
  have k1 := k0.trans (hb1.mono k0.size)
  have d1 := d0.trans (hb1.mono d0.size)
  clear TA0 k0 d0
  clear hb1
  generalize w0.drew = v1 at *
  simp only [List.size_toArray, List.length_cons, List.length_nil]
  refine wpAnyH_take (i := 0) (v := .agg (arrV .i16 64 f)) rfl (by kernel_rfl) (by kernel_rfl) (by kernel_rfl) (fun _ _ _ h => h) (yields_load_arrF (fun W hW => hW.1) 23 (.tmp 3) (by rfl) rfl (by go_simp) Tryd.underlying23 sizeA64) TA1 ?_
  go_frame
  refine wpAnyH_take (i := 2) (v := .slice A1 n1 cap1) rfl (by kernel_rfl) (by kernel_rfl) (by kernel_rfl) (fun _ _ _ h => h) (.inl ⟨by rfl, fun W _ => by go_simp⟩) TA1 ?_
  go_frame
  refine wpAnyH_take (i := 4) (v := .agg (arrV .i16 64 g)) rfl (by kernel_rfl) (by kernel_rfl) (by kernel_rfl) (fun _ _ _ h => h) (yields_load_arrF (fun W hW => hW.2) 23 (.tmp 5) (by rfl) rfl (by go_simp) Tryd.underlying23 sizeA64) TA1 ?_
  go_frame
  refine wpAnyH_ready (rs := [1]) (by kernel_rfl) (by decide) ?_
  refine AllReadyH.cons rfl ?_ AllReadyH.nil
  intro K hK
  go_simp
  refine (toNegative_16 f _).mono ?_; rintro e w2 ⟨rfl, hb2⟩
  have s2 := hb2.size
  have y2 := d1.size
  have TA2 : TwoA f g w.heap.size w2 := ⟨TA1.1.below hb2 TA1.1.lt, TA1.2.below hb2 TA1.2.lt⟩
  have k2 := k1.trans (hb2.mono k1.size)
  have d2 := d1.trans (hb2.mono d1.size)
  clear TA1 k1 d1
  clear hb2
  go_wp2_with fail
  refine hK.out _ _ TA2 (fun _ => ?_)
  clear hK K
  refine wpAnyH_ready (rs := [3]) (by kernel_rfl) (by decide) ?_
  refine AllReadyH.cons rfl ?_ AllReadyH.nil
  intro K hK
  go_simp
  refine (toCurve_any A1 n1 cap1 fs1 es1 hn1 _ (Hr1.out.below d2 (Nat.le_refl _))).mono ?_; rintro e w3 ⟨rfl, r3, hb3⟩
  have s3 := hb3.size
  have y3 := d2.size
  have TA3 : TwoA f g w.heap.size w3 := ⟨TA2.1.below hb3 TA2.1.lt, TA2.2.below hb3 TA2.2.lt⟩
  have k3 := k2.trans (hb3.mono k2.size)
  have d3 := d2.trans (hb3.mono d2.size)
  clear TA2 k2 d2
  have RA := r3; clear r3
  clear hb3
  go_wp2_with fail
  refine hK.out _ _ TA3 (fun _ => ?_)
  clear hK K
  refine wpAnyH_ready (rs := [5]) (by kernel_rfl) (by decide) ?_
  refine AllReadyH.cons rfl ?_ AllReadyH.nil
  intro K hK
  go_simp
  refine (toPrint_16 g _).mono ?_; rintro e w4 ⟨rfl, hb4⟩
  have s4 := hb4.size
  have y4 := d3.size
  have TA4 : TwoA f g w.heap.size w4 := ⟨TA3.1.below hb4 TA3.1.lt, TA3.2.below hb4 TA3.2.lt⟩
  have k4 := k3.trans (hb4.mono k3.size)
  have d4 := d3.trans (hb4.mono d3.size)
  have RA_4 := RA.below hb4 RA.lt
  clear TA3 k3 d3 RA
  clear hb4
  go_wp2_with fail
  refine hK.out _ _ TA4 (fun _ => ?_)
  clear hK K
  refine wpAnyH_ready (rs := [6]) (by kernel_rfl) (by decide) ?_
  refine AllReadyH.cons rfl ?_ AllReadyH.nil
  intro K hK
  go_simp
  refine (Hsp.out _ _ RA_4).mono ?_; rintro e w5 ⟨v0, rfl, m5, hb5⟩
  have s5 := hb5.size
  have y5 := d4.size
  have TA5 : TwoA f g w.heap.size w5 := ⟨TA4.1.below hb5 TA4.1.lt, TA4.2.below hb5 TA4.2.lt⟩
  have k5 := k4.trans (hb5.mono k4.size)
  have d5 := d4.trans (hb5.mono d4.size)
  have RA_5 := RA_4.below hb5 RA_4.lt
  clear TA4 k4 d4 RA_4
  have M0 := m5; clear m5
  clear hb5
  go_wp2_with fail
  refine hK.out _ _ TA5 (fun _ => ?_)
  clear hK K
  clear Hsp RA_5
  refine wpAnyH_take (i := 7) (v := .tuple #[v0, .int .i64 C]) rfl (by kernel_rfl) (by kernel_rfl) (by kernel_rfl) (fun _ _ _ h => h) (.inl ⟨by rfl, fun W _ => by go_simp⟩) TA5 ?_
  go_frame
  refine wpAnyH_take (i := 8) (v := v0) rfl (by kernel_rfl) (by kernel_rfl) (by kernel_rfl) (fun _ _ _ h => h) (.inl ⟨by rfl, fun W _ => by go_simp⟩) TA5 ?_
  go_frame
  refine wpAnyH_take (i := 9) (v := .int .i64 C) rfl (by kernel_rfl) (by kernel_rfl) (by kernel_rfl) (fun _ _ _ h => h) (.inl ⟨by rfl, fun W _ => by go_simp⟩) TA5 ?_
  go_frame
  refine wpAnyH_ready (rs := [10]) (by kernel_rfl) (by decide) ?_
  refine AllReadyH.cons rfl ?_ AllReadyH.nil
  intro K hK
  go_simp
  refine hK.out _ _ TA5 (fun _ => ?_)
  clear hK K
  refine wpAnyH_ready (rs := [11]) (by kernel_rfl) (by decide) ?_
  refine AllReadyH.cons rfl ?_ AllReadyH.nil
  intro K hK
  go_simp
  refine hK.out _ _ TA5 (fun _ => ?_)
  clear hK K
  refine wpAnyH_done (by kernel_rfl) ?_ _
  try simp only [Exit.then]
  go_wp2_with fail
  refine (toCurve_any A1 n1 cap1 fs1 es1 hn1 _ (Hr1.out.below d5 (Nat.le_refl _))).mono ?_; rintro e w6 ⟨rfl, r6, hb6⟩
  have s6 := hb6.size
  have y6 := d5.size
  have TA6 : TwoA f g w.heap.size w6 := ⟨TA5.1.below hb6 TA5.1.lt, TA5.2.below hb6 TA5.2.lt⟩
  have k6 := k5.trans (hb6.mono k5.size)
  have d6 := d5.trans (hb6.mono d5.size)
  have M0_6 := M0.below hb6 (by omega)
  clear TA5 k5 d5 M0
  have RB := r6; clear r6 hb6
  have q6 := RB.lt
  go_wp2_with fail
  refine wp_region_held (S := TwoA f g w.heap.size) (by kernel_rfl) ?_
  have hb7 := below_drew1 w6
  show wpAnyH _ _ _ _ _ _ _ _ w6.drew
  have s7 := hb7.size
  have y7 := d6.size
  have TA7 : TwoA f g w.heap.size w6.drew := ⟨TA6.1.below hb7 TA6.1.lt, TA6.2.below hb7 TA6.2.lt⟩
  have k7 := k6.trans (hb7.mono k6.size)
  have d7 := d6.trans (hb7.mono d6.size)
  have M0_7 := M0_6.below hb7 (by omega)
  have RB_7 := RB.below hb7 RB.lt
  clear TA6 k6 d6 M0_6 RB
  clear hb7
  generalize w6.drew = v7 at *
  simp only [List.size_toArray, List.length_cons, List.length_nil]
  refine wpAnyH_take (i := 0) (v := .agg (arrV .i16 64 f)) rfl (by kernel_rfl) (by kernel_rfl) (by kernel_rfl) (fun _ _ _ h => h) (yields_load_arrF (fun W hW => hW.1) 23 (.tmp 3) (by rfl) rfl (by go_simp) Tryd.underlying23 sizeA64) TA7 ?_
  go_frame
  refine wpAnyH_take (i := 2) (v := .slice (some ⟨w5.heap.size, 0, none⟩) n1 n1) rfl (by kernel_rfl) (by kernel_rfl) (by kernel_rfl) (fun _ _ _ h => h) (.inl ⟨by rfl, fun W _ => by go_simp⟩) TA7 ?_
  go_frame
  refine wpAnyH_take (i := 3) (v := .agg (arrV .i16 64 g)) rfl (by kernel_rfl) (by kernel_rfl) (by kernel_rfl) (fun _ _ _ h => h) (yields_load_arrF (fun W hW => hW.2) 23 (.tmp 5) (by rfl) rfl (by go_simp) Tryd.underlying23 sizeA64) TA7 ?_
  go_frame
  refine wpAnyH_ready (rs := [1]) (by kernel_rfl) (by decide) ?_
  refine AllReadyH.cons rfl ?_ AllReadyH.nil
  intro K hK
  go_simp
  refine (toNegative_16 f _).mono ?_; rintro e w8 ⟨rfl, hb8⟩
  have s8 := hb8.size
  have y8 := d7.size
  have TA8 : TwoA f g w.heap.size w8 := ⟨TA7.1.below hb8 TA7.1.lt, TA7.2.below hb8 TA7.2.lt⟩
  have k8 := k7.trans (hb8.mono k7.size)
  have d8 := d7.trans (hb8.mono d7.size)
  have M0_8 := M0_7.below hb8 (by omega)
  have RB_8 := RB_7.below hb8 RB_7.lt
  clear TA7 k7 d7 M0_7 RB_7
  clear hb8
  go_wp2_with fail
  refine hK.out _ _ TA8 (fun _ => ?_)
  clear hK K
  refine wpAnyH_ready (rs := [4]) (by kernel_rfl) (by decide) ?_
  refine AllReadyH.cons rfl ?_ AllReadyH.nil
  intro K hK
  go_simp
  refine (toPrint_16 g _).mono ?_; rintro e w9 ⟨rfl, hb9⟩
  have s9 := hb9.size
  have y9 := d8.size
  have TA9 : TwoA f g w.heap.size w9 := ⟨TA8.1.below hb9 TA8.1.lt, TA8.2.below hb9 TA8.2.lt⟩
  have k9 := k8.trans (hb9.mono k8.size)
  have d9 := d8.trans (hb9.mono d8.size)
  have M0_9 := M0_8.below hb9 (by omega)
  have RB_9 := RB_8.below hb9 RB_8.lt
  clear TA8 k8 d8 M0_8 RB_8
  clear hb9
  go_wp2_with fail
  refine hK.out _ _ TA9 (fun _ => ?_)
  clear hK K
  refine wpAnyH_ready (rs := [5]) (by kernel_rfl) (by decide) ?_
  refine AllReadyH.cons rfl ?_ AllReadyH.nil
  intro K hK
  go_simp
  refine (Him.out _ _ RB_9 (HE.out.below k9 (Nat.le_refl _))).mono ?_; rintro e w10 ⟨v1, rfl, m10, hb10⟩
  have s10 := hb10.size
  have y10 := d9.size
  have TA10 : TwoA f g w.heap.size w10 := ⟨TA9.1.below hb10 TA9.1.lt, TA9.2.below hb10 TA9.2.lt⟩
  have k10 := k9.trans (hb10.mono k9.size)
  have d10 := d9.trans (hb10.mono d9.size)
  have M0_10 := M0_9.below hb10 (by omega)
  have RB_10 := RB_9.below hb10 RB_9.lt
  clear TA9 k9 d9 M0_9 RB_9
  have M1 := m10; clear m10
  clear hb10
  go_wp2_with fail
  refine hK.out _ _ TA10 (fun _ => ?_)
  clear hK K
  refine wpAnyH_take (i := 6) (v := .tuple #[v1, .int .i64 C]) rfl (by kernel_rfl) (by kernel_rfl) (by kernel_rfl) (fun _ _ _ h => h) (.inl ⟨by rfl, fun W _ => by go_simp⟩) TA10 ?_
  go_frame
  refine wpAnyH_take (i := 7) (v := v1) rfl (by kernel_rfl) (by kernel_rfl) (by kernel_rfl) (fun _ _ _ h => h) (.inl ⟨by rfl, fun W _ => by go_simp⟩) TA10 ?_
  go_frame
  refine wpAnyH_take (i := 8) (v := .int .i64 C) rfl (by kernel_rfl) (by kernel_rfl) (by kernel_rfl) (fun _ _ _ h => h) (.inl ⟨by rfl, fun W _ => by go_simp⟩) TA10 ?_
  go_frame
  refine wpAnyH_ready (rs := [9]) (by kernel_rfl) (by decide) ?_
  refine AllReadyH.cons rfl ?_ AllReadyH.nil
  intro K hK
  go_simp
  refine hK.out _ _ TA10 (fun _ => ?_)
  clear hK K
  refine wpAnyH_ready (rs := [10]) (by kernel_rfl) (by decide) ?_
  refine AllReadyH.cons rfl ?_ AllReadyH.nil
  intro K hK
  go_simp
  refine hK.out _ _ TA10 (fun _ => ?_)
  clear hK K
  refine wpAnyH_done (by kernel_rfl) ?_ _
  try simp only [Exit.then]
  go_wp2_with fail
  refine (eqStepS_mine _ _ _ _ _ _ _ F0 F1 hNN _ M1 M0_10).mono ?_; rintro e w11 ⟨rfl, hb11⟩
  have s11 := hb11.size
  have y11 := d10.size
  have TA11 : TwoA f g w.heap.size w11 := ⟨TA10.1.below hb11 TA10.1.lt, TA10.2.below hb11 TA10.2.lt⟩
  have k11 := k10.trans (hb11.mono k10.size)
  have d11 := d10.trans (hb11.mono d10.size)
  have M0_11 := M0_10.below hb11 (by omega)
  have M1_11 := M1.below hb11 (by omega)
  have RB_11 := RB_10.below hb11 RB_10.lt
  clear TA10 k10 d10 M0_10 M1 RB_10
  clear hb11
  go_wp2_with fail
  refine (toCurve_any A1 n1 cap1 fs1 es1 hn1 _ (Hr1.out.below d11 (Nat.le_refl _))).mono ?_; rintro e w12 ⟨rfl, r12, hb12⟩
  have s12 := hb12.size
  have y12 := d11.size
  have TA12 : TwoA f g w.heap.size w12 := ⟨TA11.1.below hb12 TA11.1.lt, TA11.2.below hb12 TA11.2.lt⟩
  have k12 := k11.trans (hb12.mono k11.size)
  have d12 := d11.trans (hb12.mono d11.size)
  have M0_12 := M0_11.below hb12 (by omega)
  have M1_12 := M1_11.below hb12 (by omega)
  have RB_12 := RB_11.below hb12 RB_11.lt
  clear TA11 k11 d11 M0_11 M1_11 RB_11
  have RC := r12; clear r12 hb12
  have q12 := RC.lt
  go_wp2_with fail
  refine (eqCurve_same _ _ n1 n1 n1 fs1 es1 hn1 _ RB_12 RC).mono ?_; rintro e w13 ⟨rfl, hb13⟩
  have s13 := hb13.size
  have y13 := d12.size
  have TA13 : TwoA f g w.heap.size w13 := ⟨TA12.1.below hb13 TA12.1.lt, TA12.2.below hb13 TA12.2.lt⟩
  have k13 := k12.trans (hb13.mono k12.size)
  have d13 := d12.trans (hb13.mono d12.size)
  have M0_13 := M0_12.below hb13 (by omega)
  have M1_13 := M1_12.below hb13 (by omega)
  have RB_13 := RB_12.below hb13 RB_12.lt
  have RC_13 := RC.below hb13 RC.lt
  clear TA12 k12 d12 M0_12 M1_12 RB_12 RC
  clear hb13 RC_13
  have mx := mine_of_ptsF (cap := n1) RB_13
  have hlb := RB_13.lt
  clear RB_13
  go_wp2_with fail
  refine (markCurve_mine _ _ _ _ _ (1) (by omega) (by omega) hn1 _ mx).mono ?_; rintro e w14 ⟨rfl, -, ho14⟩
  have s14 := ho14.size
  have y14 := d13.size
  have x14 : Below (w.heap.size + 2) w13 w14 := (ho14.below (by omega)).mono (by omega)
  have TA14 : TwoA f g w.heap.size w14 := ⟨TA13.1.below x14 (by omega), TA13.2.below x14 (by omega)⟩
  have k14 := k13.trans (x14.mono (by omega))
  have u14 : Below w0.heap.size w13 w14 := (ho14.below (by omega)).mono (by omega)
  have d14 := d13.trans u14
  clear x14 u14
  have M0_14 := M0_13.only ho14 (.inl (by omega))
  have M1_14 := M1_13.only ho14 (.inr (by omega))
  clear TA13 k13 d13 M0_13 M1_13
  clear ho14 mx
  go_wp2_with fail
  refine (eqStepS_mine _ _ _ _ _ _ _ F0 F1 hNN _ M1_14 M0_14).mono ?_; rintro e w15 ⟨rfl, hb15⟩
  have s15 := hb15.size
  have y15 := d14.size
  have TA15 : TwoA f g w.heap.size w15 := ⟨TA14.1.below hb15 TA14.1.lt, TA14.2.below hb15 TA14.2.lt⟩
  have k15 := k14.trans (hb15.mono k14.size)
  have d15 := d14.trans (hb15.mono d14.size)
  have M0_15 := M0_14.below hb15 (by omega)
  have M1_15 := M1_14.below hb15 (by omega)
  clear TA14 k14 d14 M0_14 M1_14
  clear hb15
  go_wp2_with fail
  refine (markStepS_mine _ _ _ v1 _ 1 (by omega) (by omega) hNN _ M1_15).mono ?_; rintro e w16 ⟨rfl, mm, ho16⟩
  have s16 := ho16.size
  have y16 := d15.size
  have x16 : Below (w.heap.size + 2) w15 w16 := (ho16.below (by omega)).mono (by omega)
  have TA16 : TwoA f g w.heap.size w16 := ⟨TA15.1.below x16 (by omega), TA15.2.below x16 (by omega)⟩
  have k16 := k15.trans (x16.mono (by omega))
  have u16 : Below w0.heap.size w15 w16 := (ho16.below (by omega)).mono (by omega)
  have d16 := d15.trans u16
  clear x16 u16
  have M0_16 := M0_15.only ho16 (.inl (by omega))
  clear TA15 k15 d15 M0_15
  clear ho16 M1_15
  go_wp2_with fail
  refine (heldStepS_mine _ _ _ v1 1 (by omega) (by omega) hNN _ mm).mono ?_; rintro e wh1 ⟨rfl, rfl⟩
  go_wp2_with fail
  refine wp_region_held (S := TwoA f g w.heap.size) (by kernel_rfl) ?_
  have hb17 := below_drew1 w16
  show wpAnyH _ _ _ _ _ _ _ _ w16.drew
  have s17 := hb17.size
  have y17 := d16.size
  have TA17 : TwoA f g w.heap.size w16.drew := ⟨TA16.1.below hb17 TA16.1.lt, TA16.2.below hb17 TA16.2.lt⟩
  have k17 := k16.trans (hb17.mono k16.size)
  have d17 := d16.trans (hb17.mono d16.size)
  have M0_17 := M0_16.below hb17 (by omega)
  have MM_17 := mm.below hb17 (by omega)
  clear TA16 k16 d16 M0_16 mm
  clear hb17
  generalize w16.drew = v17 at *
  simp only [List.size_toArray, List.length_cons, List.length_nil]
  refine wpAnyH_take (i := 0) (v := .agg (arrV .i16 64 f)) rfl (by kernel_rfl) (by kernel_rfl) (by kernel_rfl) (fun _ _ _ h => h) (yields_load_arrF (fun W hW => hW.1) 23 (.tmp 3) (by rfl) rfl (by go_simp) Tryd.underlying23 sizeA64) TA17 ?_
  go_frame
  refine wpAnyH_take (i := 2) (v := .slice A1 n1 cap1) rfl (by kernel_rfl) (by kernel_rfl) (by kernel_rfl) (fun _ _ _ h => h) (.inl ⟨by rfl, fun W _ => by go_simp⟩) TA17 ?_
  go_frame
  refine wpAnyH_take (i := 4) (v := .agg (arrV .i16 64 g)) rfl (by kernel_rfl) (by kernel_rfl) (by kernel_rfl) (fun _ _ _ h => h) (yields_load_arrF (fun W hW => hW.2) 23 (.tmp 5) (by rfl) rfl (by go_simp) Tryd.underlying23 sizeA64) TA17 ?_
  go_frame
  refine wpAnyH_ready (rs := [1]) (by kernel_rfl) (by decide) ?_
  refine AllReadyH.cons rfl ?_ AllReadyH.nil
  intro K hK
  go_simp
  refine (toNegative_16 f _).mono ?_; rintro e w18 ⟨rfl, hb18⟩
  have s18 := hb18.size
  have y18 := d17.size
  have TA18 : TwoA f g w.heap.size w18 := ⟨TA17.1.below hb18 TA17.1.lt, TA17.2.below hb18 TA17.2.lt⟩
  have k18 := k17.trans (hb18.mono k17.size)
  have d18 := d17.trans (hb18.mono d17.size)
  have M0_18 := M0_17.below hb18 (by omega)
  have MM_18 := MM_17.below hb18 (by omega)
  clear TA17 k17 d17 M0_17 MM_17
  clear hb18
  go_wp2_with fail
  refine hK.out _ _ TA18 (fun _ => ?_)
  clear hK K
  refine wpAnyH_ready (rs := [3]) (by kernel_rfl) (by decide) ?_
  refine AllReadyH.cons rfl ?_ AllReadyH.nil
  intro K hK
  go_simp
  refine (toCurve_any A1 n1 cap1 fs1 es1 hn1 _ (Hr1.out.below d18 (Nat.le_refl _))).mono ?_; rintro e w19 ⟨rfl, r19, hb19⟩
  have s19 := hb19.size
  have y19 := d18.size
  have TA19 : TwoA f g w.heap.size w19 := ⟨TA18.1.below hb19 TA18.1.lt, TA18.2.below hb19 TA18.2.lt⟩
  have k19 := k18.trans (hb19.mono k18.size)
  have d19 := d18.trans (hb19.mono d18.size)
  have M0_19 := M0_18.below hb19 (by omega)
  have MM_19 := MM_18.below hb19 (by omega)
  clear TA18 k18 d18 M0_18 MM_18
  have RA := r19; clear r19
  clear hb19
  go_wp2_with fail
  refine hK.out _ _ TA19 (fun _ => ?_)
  clear hK K
  refine wpAnyH_ready (rs := [5]) (by kernel_rfl) (by decide) ?_
  refine AllReadyH.cons rfl ?_ AllReadyH.nil
  intro K hK
  go_simp
  refine (toPrint_16 g _).mono ?_; rintro e w20 ⟨rfl, hb20⟩
  have s20 := hb20.size
  have y20 := d19.size
  have TA20 : TwoA f g w.heap.size w20 := ⟨TA19.1.below hb20 TA19.1.lt, TA19.2.below hb20 TA19.2.lt⟩
  have k20 := k19.trans (hb20.mono k19.size)
  have d20 := d19.trans (hb20.mono d19.size)
  have M0_20 := M0_19.below hb20 (by omega)
  have MM_20 := MM_19.below hb20 (by omega)
  have RA_20 := RA.below hb20 RA.lt
  clear TA19 k19 d19 M0_19 MM_19 RA
  clear hb20
  go_wp2_with fail
  refine hK.out _ _ TA20 (fun _ => ?_)
  clear hK K
  refine wpAnyH_ready (rs := [6]) (by kernel_rfl) (by decide) ?_
  refine AllReadyH.cons rfl ?_ AllReadyH.nil
  intro K hK
  go_simp
  refine (Him.out _ _ RA_20 (HE.out.below k20 (Nat.le_refl _))).mono ?_; rintro e w21 ⟨v2, rfl, m21, hb21⟩
  have s21 := hb21.size
  have y21 := d20.size
  have TA21 : TwoA f g w.heap.size w21 := ⟨TA20.1.below hb21 TA20.1.lt, TA20.2.below hb21 TA20.2.lt⟩
  have k21 := k20.trans (hb21.mono k20.size)
  have d21 := d20.trans (hb21.mono d20.size)
  have M0_21 := M0_20.below hb21 (by omega)
  have MM_21 := MM_20.below hb21 (by omega)
  have RA_21 := RA_20.below hb21 RA_20.lt
  clear TA20 k20 d20 M0_20 MM_20 RA_20
  have M2 := m21; clear m21
  clear hb21
  go_wp2_with fail
  refine hK.out _ _ TA21 (fun _ => ?_)
  clear hK K
  clear RA_21
  refine wpAnyH_take (i := 7) (v := .tuple #[v2, .int .i64 C]) rfl (by kernel_rfl) (by kernel_rfl) (by kernel_rfl) (fun _ _ _ h => h) (.inl ⟨by rfl, fun W _ => by go_simp⟩) TA21 ?_
  go_frame
  refine wpAnyH_take (i := 8) (v := v2) rfl (by kernel_rfl) (by kernel_rfl) (by kernel_rfl) (fun _ _ _ h => h) (.inl ⟨by rfl, fun W _ => by go_simp⟩) TA21 ?_
  go_frame
  refine wpAnyH_take (i := 9) (v := .int .i64 C) rfl (by kernel_rfl) (by kernel_rfl) (by kernel_rfl) (fun _ _ _ h => h) (.inl ⟨by rfl, fun W _ => by go_simp⟩) TA21 ?_
  go_frame
  refine wpAnyH_ready (rs := [10]) (by kernel_rfl) (by decide) ?_
  refine AllReadyH.cons rfl ?_ AllReadyH.nil
  intro K hK
  go_simp
  refine hK.out _ _ TA21 (fun _ => ?_)
  clear hK K
  refine wpAnyH_ready (rs := [11]) (by kernel_rfl) (by decide) ?_
  refine AllReadyH.cons rfl ?_ AllReadyH.nil
  intro K hK
  go_simp
  refine hK.out _ _ TA21 (fun _ => ?_)
  clear hK K
  refine wpAnyH_done (by kernel_rfl) ?_ _
  try simp only [Exit.then]
  go_wp2_with fail
  refine (eqStepS_mine _ _ _ _ _ _ _ F0 F1 hNN _ M2 M0_21).mono ?_; rintro e w22 ⟨rfl, hb22⟩
  have s22 := hb22.size
  have y22 := d21.size
  have TA22 : TwoA f g w.heap.size w22 := ⟨TA21.1.below hb22 TA21.1.lt, TA21.2.below hb22 TA21.2.lt⟩
  have k22 := k21.trans (hb22.mono k21.size)
  have d22 := d21.trans (hb22.mono d21.size)
  have M0_22 := M0_21.below hb22 (by omega)
  have MM_22 := MM_21.below hb22 (by omega)
  have M2_22 := M2.below hb22 (by omega)
  clear TA21 k21 d21 M0_21 MM_21 M2
  clear hb22
  go_wp2_with fail
  refine (heldStepS_mine _ _ _ v1 1 (by omega) (by omega) hNN _ MM_22).mono ?_; rintro e wh2 ⟨rfl, rfl⟩
  go_wp2_with fail
  go_ret
  exact ⟨rfl, k22⟩
end Go.Proofs.YtnlcjbobfhmnmaaDoor

/-
  The print of a negative with its code: the program's functions. Condition: at most 1048576 points and steps, numbers of int16 and int8; its variables hold their own errors and its table of times.
-/
import Derived.Test.YtnlcjbobfhmnmaaDoorPrnX
import Derived.Test.YtnlcjbobfhmnmaaDoorPfB
import Derived.Test.YtnlcjbobfhmnmaaDoorLigX
namespace Go.Proofs.YtnlcjbobfhmnmaaDoor
open Go.RowKit

theorem wpList_build_prn {ops : Array Oper} {rest : List Oper} {o : Oper} {a : Act} {w : World} {Q : Exit → Act → World → Prop} {f : Nat → Int} {b n cap : Nat} (x y : Operand) (hgd : o.guard = none) (ho : o.op = .build 88 #[(0, x), (1, y)])
    (hx : a.eval x = .agg (arrV .i16 64 f)) (hy : a.eval y = .slice (some ⟨b, 0, none⟩) n cap) (hK : wpList Tryd.prog ops Q rest (a.put o.dst (.agg (prnW f b n cap))) w) : wpList Tryd.prog ops Q (o :: rest) a w := by
  refine wpList_yield hgd ?_ hK
  have h := built_prn f b n cap w
  unfold execOp
  simp [ho, hx, hy, Sem.run_bind, h]

def ErrPrn (s : Ers) (w : World) (G : Nat → Int) (C : Int) (e : Ending) (w' : World) : Prop := ∃ v, IsCode s v C ∧ e = .returned (.tuple #[.agg (arrV .i16 64 G), v]) ∧ Below w.heap.size w w'

set_option maxRecDepth 100000 in
set_option maxHeartbeats 1000000 in
theorem codedPrt_any {s : Ers} {v : Value} {c : Int} (h : IsCode s v c) (f : Nat → Int) (w : World) (hE : ErrEnv s w) :
    Calls Tryd.prog 27 #[.agg (arrV .i16 64 f), v] w fun e w' => e = .returned (.tuple #[.agg (arrV .i16 64 f), .int .i64 c]) ∧ Below w.heap.size w w' := by
  have a1 := (HasArr.new w 28 .i16 64 f).alloc (.cells #[.int .i16 0, .int .i16 0, .int .i16 0, .int .i16 0, .int .i16 0, .int .i16 0, .int .i16 0, .int .i16 0, .int .i16 0, .int .i16 0, .int .i16 0, .int .i16 0, .int .i16 0, .int .i16 0, .int .i16 0, .int .i16 0, .int .i16 0, .int .i16 0, .int .i16 0, .int .i16 0, .int .i16 0, .int .i16 0, .int .i16 0, .int .i16 0, .int .i16 0, .int .i16 0, .int .i16 0, .int .i16 0, .int .i16 0, .int .i16 0, .int .i16 0, .int .i16 0, .int .i16 0, .int .i16 0, .int .i16 0, .int .i16 0, .int .i16 0, .int .i16 0, .int .i16 0, .int .i16 0, .int .i16 0, .int .i16 0, .int .i16 0, .int .i16 0, .int .i16 0, .int .i16 0, .int .i16 0, .int .i16 0, .int .i16 0, .int .i16 0, .int .i16 0, .int .i16 0, .int .i16 0, .int .i16 0, .int .i16 0, .int .i16 0, .int .i16 0, .int .i16 0, .int .i16 0, .int .i16 0, .int .i16 0, .int .i16 0, .int .i16 0, .int .i16 0] 28)
  have a2 := HasArr.zero (w.alloc (.cells (arrV .i16 64 f) 28)) 28 (b := w.heap.size + 1) (by simp)
  have k0 := ((Below.refl w.heap.size w).alloc (Nat.le_refl _) (.cells (arrV .i16 64 f) 28)).alloc (by simp) (.cells #[.int .i16 0, .int .i16 0, .int .i16 0, .int .i16 0, .int .i16 0, .int .i16 0, .int .i16 0, .int .i16 0, .int .i16 0, .int .i16 0, .int .i16 0, .int .i16 0, .int .i16 0, .int .i16 0, .int .i16 0, .int .i16 0, .int .i16 0, .int .i16 0, .int .i16 0, .int .i16 0, .int .i16 0, .int .i16 0, .int .i16 0, .int .i16 0, .int .i16 0, .int .i16 0, .int .i16 0, .int .i16 0, .int .i16 0, .int .i16 0, .int .i16 0, .int .i16 0, .int .i16 0, .int .i16 0, .int .i16 0, .int .i16 0, .int .i16 0, .int .i16 0, .int .i16 0, .int .i16 0, .int .i16 0, .int .i16 0, .int .i16 0, .int .i16 0, .int .i16 0, .int .i16 0, .int .i16 0, .int .i16 0, .int .i16 0, .int .i16 0, .int .i16 0, .int .i16 0, .int .i16 0, .int .i16 0, .int .i16 0, .int .i16 0, .int .i16 0, .int .i16 0, .int .i16 0, .int .i16 0, .int .i16 0, .int .i16 0, .int .i16 0, .int .i16 0] 28)
  go_enter Tryd.func27, Tryd.ntmps27
  go_wp2_with fail
  refine wp_region_quiet_tail 3 (fun w' => ∃ q, w' = ((w.alloc (.cells (arrV .i16 64 f) 28)).alloc (.cells #[.int .i16 0, .int .i16 0, .int .i16 0, .int .i16 0, .int .i16 0, .int .i16 0, .int .i16 0, .int .i16 0, .int .i16 0, .int .i16 0, .int .i16 0, .int .i16 0, .int .i16 0, .int .i16 0, .int .i16 0, .int .i16 0, .int .i16 0, .int .i16 0, .int .i16 0, .int .i16 0, .int .i16 0, .int .i16 0, .int .i16 0, .int .i16 0, .int .i16 0, .int .i16 0, .int .i16 0, .int .i16 0, .int .i16 0, .int .i16 0, .int .i16 0, .int .i16 0, .int .i16 0, .int .i16 0, .int .i16 0, .int .i16 0, .int .i16 0, .int .i16 0, .int .i16 0, .int .i16 0, .int .i16 0, .int .i16 0, .int .i16 0, .int .i16 0, .int .i16 0, .int .i16 0, .int .i16 0, .int .i16 0, .int .i16 0, .int .i16 0, .int .i16 0, .int .i16 0, .int .i16 0, .int .i16 0, .int .i16 0, .int .i16 0, .int .i16 0, .int .i16 0, .int .i16 0, .int .i16 0, .int .i16 0, .int .i16 0, .int .i16 0, .int .i16 0] 28)).drewN q) (by kernel_rfl) (by kernel_rfl) ⟨1, rfl⟩ ?_
  simp only [List.take_succ_cons, List.take_zero, List.drop_succ_cons, List.drop_zero]
  refine wpQuiet_load_arr (fun W hW => by obtain ⟨q, rfl⟩ := hW; exact a1.drewN q) 28 (.tmp 2) rfl rfl rfl Tryd.underlying28 sizePrint ?_
  quiet_step (fail)
  refine BigFrame.wpQuiet_want (by rfl) fun K hK => ⟨.int .i64 c, fun W hW => ?_, hK _ ?_⟩
  · obtain ⟨q, rfl⟩ := hW
    go_simp
    exact (codeOf_any h _ (((hE.alloc _).alloc _).drewN q)).mono fun e w' ⟨he, hw⟩ => ⟨he, q, hw.symm⟩
  refine wpQuiet_nil ?_
  rintro _ ⟨q, rfl⟩
  go_wp2_with (refine wpList_store_arr (a2.drewN q) _ _ _ rfl rfl rfl rfl sizePrint ?_)
  refine bodyPost_ret (v := .tuple #[.agg (arrV .i16 64 f), .int .i64 c]) ?_ rfl ⟨rfl, below_setRow (below_drewA k0 q) (by omega) _⟩
  exact resultsRowTmpP rfl _ _ _ _ _ _ _ rfl ((a2.drewN q).setRow .i16 f) Tryd.underlying28 rfl (by rw [arrV_size]; exact sizePrint) _ rfl

set_option maxRecDepth 100000 in
set_option maxHeartbeats 4000000 in
theorem printFrom_err (s : Ers) (f : Nat → Int) (hf : S16 f) (b n cap : Nat) (xs ys : Nat → Int) (hn : n ≤ 1048576) (hs : SmallP n xs ys) (b' m cap' : Nat) (fs es : Nat → Int) (hm : m ≤ 1048576) (hs' : SmallS m fs es)
    (w : World) (hr : PtRow w b n xs ys) (hr' : StRow w b' m fs es) (hE : ErrEnv s w) (hT : TimEnv w) (hne : ¬ prtB f n xs ys m es = true) :
    Calls Tryd.prog 28 #[.agg (arrV .i16 64 f), .slice (some ⟨b, 0, none⟩) n cap, .slice (some ⟨b', 0, none⟩) m cap'] w (ErrPrn s w (prtG f n xs ys m fs es) (prtC f n xs ys m es)) := by
  have a1 := (HasArr.new w 31 .i16 64 f).alloc (.cells #[.int .i16 0, .int .i16 0, .int .i16 0, .int .i16 0, .int .i16 0, .int .i16 0, .int .i16 0, .int .i16 0, .int .i16 0, .int .i16 0, .int .i16 0, .int .i16 0, .int .i16 0, .int .i16 0, .int .i16 0, .int .i16 0, .int .i16 0, .int .i16 0, .int .i16 0, .int .i16 0, .int .i16 0, .int .i16 0, .int .i16 0, .int .i16 0, .int .i16 0, .int .i16 0, .int .i16 0, .int .i16 0, .int .i16 0, .int .i16 0, .int .i16 0, .int .i16 0, .int .i16 0, .int .i16 0, .int .i16 0, .int .i16 0, .int .i16 0, .int .i16 0, .int .i16 0, .int .i16 0, .int .i16 0, .int .i16 0, .int .i16 0, .int .i16 0, .int .i16 0, .int .i16 0, .int .i16 0, .int .i16 0, .int .i16 0, .int .i16 0, .int .i16 0, .int .i16 0, .int .i16 0, .int .i16 0, .int .i16 0, .int .i16 0, .int .i16 0, .int .i16 0, .int .i16 0, .int .i16 0, .int .i16 0, .int .i16 0, .int .i16 0, .int .i16 0] 28)
  have a2 := HasArr.zero (w.alloc (.cells (arrV .i16 64 f) 31)) 28 (b := w.heap.size + 1) (by simp)
  have k0 := ((Below.refl w.heap.size w).alloc (Nat.le_refl _) (.cells (arrV .i16 64 f) 31)).alloc (by simp) (.cells #[.int .i16 0, .int .i16 0, .int .i16 0, .int .i16 0, .int .i16 0, .int .i16 0, .int .i16 0, .int .i16 0, .int .i16 0, .int .i16 0, .int .i16 0, .int .i16 0, .int .i16 0, .int .i16 0, .int .i16 0, .int .i16 0, .int .i16 0, .int .i16 0, .int .i16 0, .int .i16 0, .int .i16 0, .int .i16 0, .int .i16 0, .int .i16 0, .int .i16 0, .int .i16 0, .int .i16 0, .int .i16 0, .int .i16 0, .int .i16 0, .int .i16 0, .int .i16 0, .int .i16 0, .int .i16 0, .int .i16 0, .int .i16 0, .int .i16 0, .int .i16 0, .int .i16 0, .int .i16 0, .int .i16 0, .int .i16 0, .int .i16 0, .int .i16 0, .int .i16 0, .int .i16 0, .int .i16 0, .int .i16 0, .int .i16 0, .int .i16 0, .int .i16 0, .int .i16 0, .int .i16 0, .int .i16 0, .int .i16 0, .int .i16 0, .int .i16 0, .int .i16 0, .int .i16 0, .int .i16 0, .int .i16 0, .int .i16 0, .int .i16 0, .int .i16 0] 28)
  have r1 := hr.below k0 hr.lt
  have r2 := hr'.below k0 hr'.lt
  have hd := fun W => ValidNegative_any f W
  have hv := fun W h => ValidCurve_any b n cap xs ys hn hs W h
  have hli := fun W h hE hT => lightOn_any s b' m cap' fs es hm hs' W h hE hT
  have HE := Lib.hid hE; clear hE
  have HT := Lib.hid hT; clear hT
  rcases h1 : dnsB f with _ | _
  · obtain ⟨e1, e2⟩ := prt_no (f := f) (n := n) (xs := xs) (ys := ys) (m := m) (fs := fs) (es := es) (by simp [prtB, h1])
    rw [e1, e2]
    rw [h1] at hd
    have Hd := Lib.hid hd; clear hd hv hli h1 e1 e2
    go_enter Tryd.func28, Tryd.ntmps28
    go_wp2_with (refine wpList_load_arr a1 _ _ rfl rfl rfl Tryd.underlying31 sizeNeg ?_)
    refine (Hd.out _).mono ?_; rintro e w1 ⟨rfl, hb1⟩
    have b2 := a2.below hb1 a2.lt
    have k1 := k0.trans (hb1.mono k0.size)
    have ce := (HE.out.below k1 (Nat.le_refl _)).c_einvalid
    have hB := Lib.hid (below_setRow k1.drew (b := w.heap.size + 1) (by omega) (arrV .i16 64 fun _ => 0))
    have cg : (w1.drew.setRow (w.heap.size + 1) (arrV .i16 64 fun _ => 0)).cell? ⟨0, 0, none⟩ = some (errV s.einvalid) := (HE.out.below hB.out (Nat.le_refl _)).c_einvalid
    clear a1 a2 k0 hb1 k1 r1 r2 Hd
    go_wp2_with fail
    refine wp_region_any (by kernel_rfl) ?_
    refine wpAny_take (i := 0) (v := .agg #[.int .i16 0, .int .i16 0, .int .i16 0, .int .i16 0, .int .i16 0, .int .i16 0, .int .i16 0, .int .i16 0, .int .i16 0, .int .i16 0, .int .i16 0, .int .i16 0, .int .i16 0, .int .i16 0, .int .i16 0, .int .i16 0, .int .i16 0, .int .i16 0, .int .i16 0, .int .i16 0, .int .i16 0, .int .i16 0, .int .i16 0, .int .i16 0, .int .i16 0, .int .i16 0, .int .i16 0, .int .i16 0, .int .i16 0, .int .i16 0, .int .i16 0, .int .i16 0, .int .i16 0, .int .i16 0, .int .i16 0, .int .i16 0, .int .i16 0, .int .i16 0, .int .i16 0, .int .i16 0, .int .i16 0, .int .i16 0, .int .i16 0, .int .i16 0, .int .i16 0, .int .i16 0, .int .i16 0, .int .i16 0, .int .i16 0, .int .i16 0, .int .i16 0, .int .i16 0, .int .i16 0, .int .i16 0, .int .i16 0, .int .i16 0, .int .i16 0, .int .i16 0, .int .i16 0, .int .i16 0, .int .i16 0, .int .i16 0, .int .i16 0, .int .i16 0]) rfl (by kernel_rfl) (by kernel_rfl) (by kernel_rfl) (fun _ _ _ h => h) (Or.inl ⟨by rfl, by intro w; go_simp⟩) ?_
    change wpAny _ _ _ _ _ _ _ (World.drew _)
    refine wpAny_ready (rs := [1, 2]) (by kernel_rfl) (by simp) ?_
    refine AllReady.cons rfl (fun K hK => ?_) (AllReady.cons rfl (fun K hK => ?_) AllReady.nil)
    · go_simp
      refine hK _ _ ?_; clear hK K
      refine wpAny_ready (rs := [2]) (by kernel_rfl) (by simp) ?_
      refine AllReady.cons rfl (fun K hK => ?_) AllReady.nil
      refine step_store_z b2.drew rfl _ _ _ rfl rfl rfl sizePrint ?_
      refine hK _ _ ?_; clear hK K
      refine wpAny_ready (rs := [3]) (by kernel_rfl) (by simp) ?_
      refine AllReady.cons rfl (fun K hK => ?_) AllReady.nil
      go_simp
      refine hK _ _ ?_; clear hK K
      refine wpAny_done (by kernel_rfl) ?_ _
      go_wp2
      refine bodyPost_ret (v := .tuple #[.agg (arrV .i16 64 (fun _ => 0)), errV s.einvalid]) ?_ rfl ⟨_, .einvalid, rfl, hB.out⟩
      exact resultsRowTmpP rfl _ _ _ _ _ _ _ rfl (b2.drew.setRow .i16 fun _ => 0) Tryd.underlying28 rfl (by rw [arrV_size]; exact sizePrint) _ rfl
    · refine step_store_z b2.drew rfl _ _ _ rfl rfl rfl sizePrint ?_
      refine hK _ _ ?_; clear hK K
      refine wpAny_ready (rs := [1]) (by kernel_rfl) (by simp) ?_
      refine AllReady.cons rfl (fun K hK => ?_) AllReady.nil
      go_simp
      refine hK _ _ ?_; clear hK K
      refine wpAny_ready (rs := [3]) (by kernel_rfl) (by simp) ?_
      refine AllReady.cons rfl (fun K hK => ?_) AllReady.nil
      go_simp
      refine hK _ _ ?_; clear hK K
      refine wpAny_done (by kernel_rfl) ?_ _
      go_wp2
      refine bodyPost_ret (v := .tuple #[.agg (arrV .i16 64 (fun _ => 0)), errV s.einvalid]) ?_ rfl ⟨_, .einvalid, rfl, hB.out⟩
      exact resultsRowTmpP rfl _ _ _ _ _ _ _ rfl (b2.drew.setRow .i16 fun _ => 0) Tryd.underlying28 rfl (by rw [arrV_size]; exact sizePrint) _ rfl
  rw [h1] at hd
  have Hd := Lib.hid hd; clear hd
  rcases h2 : validC n xs ys with _ | _
  · obtain ⟨e1, e2⟩ := prt_no (f := f) (n := n) (xs := xs) (ys := ys) (m := m) (fs := fs) (es := es) (by simp [prtB, h2])
    rw [e1, e2]
    rw [h2] at hv
    have Hv := Lib.hid hv; clear hv hli h1 h2 e1 e2
    go_enter Tryd.func28, Tryd.ntmps28
    go_wp2_with (refine wpList_load_arr a1 _ _ rfl rfl rfl Tryd.underlying31 sizeNeg ?_)
    refine (Hd.out _).mono ?_; rintro e w0 ⟨rfl, hb0⟩
    have b1 := a2.below hb0 a2.lt
    have k9 := k0.trans (hb0.mono k0.size)
    have s1 := r1.below hb0 r1.lt
    clear a1 a2 k0 hb0 r1 r2 Hd
    go_wp2_with fail
    refine (Hv.out _ s1).mono ?_; rintro e w1 ⟨rfl, hb1⟩
    have b2 := b1.below hb1 b1.lt
    have k1 := k9.trans (hb1.mono k9.size)
    have ce := (HE.out.below k1 (Nat.le_refl _)).c_einvalid
    have hB := Lib.hid (below_setRow k1.drew (b := w.heap.size + 1) (by omega) (arrV .i16 64 fun _ => 0))
    have cg : (w1.drew.setRow (w.heap.size + 1) (arrV .i16 64 fun _ => 0)).cell? ⟨0, 0, none⟩ = some (errV s.einvalid) := (HE.out.below hB.out (Nat.le_refl _)).c_einvalid
    clear b1 k9 s1 hb1 k1 Hv
    go_wp2_with fail
    refine wp_region_any (by kernel_rfl) ?_
    refine wpAny_take (i := 0) (v := .agg #[.int .i16 0, .int .i16 0, .int .i16 0, .int .i16 0, .int .i16 0, .int .i16 0, .int .i16 0, .int .i16 0, .int .i16 0, .int .i16 0, .int .i16 0, .int .i16 0, .int .i16 0, .int .i16 0, .int .i16 0, .int .i16 0, .int .i16 0, .int .i16 0, .int .i16 0, .int .i16 0, .int .i16 0, .int .i16 0, .int .i16 0, .int .i16 0, .int .i16 0, .int .i16 0, .int .i16 0, .int .i16 0, .int .i16 0, .int .i16 0, .int .i16 0, .int .i16 0, .int .i16 0, .int .i16 0, .int .i16 0, .int .i16 0, .int .i16 0, .int .i16 0, .int .i16 0, .int .i16 0, .int .i16 0, .int .i16 0, .int .i16 0, .int .i16 0, .int .i16 0, .int .i16 0, .int .i16 0, .int .i16 0, .int .i16 0, .int .i16 0, .int .i16 0, .int .i16 0, .int .i16 0, .int .i16 0, .int .i16 0, .int .i16 0, .int .i16 0, .int .i16 0, .int .i16 0, .int .i16 0, .int .i16 0, .int .i16 0, .int .i16 0, .int .i16 0]) rfl (by kernel_rfl) (by kernel_rfl) (by kernel_rfl) (fun _ _ _ h => h) (Or.inl ⟨by rfl, by intro w; go_simp⟩) ?_
    change wpAny _ _ _ _ _ _ _ (World.drew _)
    refine wpAny_ready (rs := [1, 2]) (by kernel_rfl) (by simp) ?_
    refine AllReady.cons rfl (fun K hK => ?_) (AllReady.cons rfl (fun K hK => ?_) AllReady.nil)
    · go_simp
      refine hK _ _ ?_; clear hK K
      refine wpAny_ready (rs := [2]) (by kernel_rfl) (by simp) ?_
      refine AllReady.cons rfl (fun K hK => ?_) AllReady.nil
      refine step_store_z b2.drew rfl _ _ _ rfl rfl rfl sizePrint ?_
      refine hK _ _ ?_; clear hK K
      refine wpAny_ready (rs := [3]) (by kernel_rfl) (by simp) ?_
      refine AllReady.cons rfl (fun K hK => ?_) AllReady.nil
      go_simp
      refine hK _ _ ?_; clear hK K
      refine wpAny_done (by kernel_rfl) ?_ _
      go_wp2
      refine bodyPost_ret (v := .tuple #[.agg (arrV .i16 64 (fun _ => 0)), errV s.einvalid]) ?_ rfl ⟨_, .einvalid, rfl, hB.out⟩
      exact resultsRowTmpP rfl _ _ _ _ _ _ _ rfl (b2.drew.setRow .i16 fun _ => 0) Tryd.underlying28 rfl (by rw [arrV_size]; exact sizePrint) _ rfl
    · refine step_store_z b2.drew rfl _ _ _ rfl rfl rfl sizePrint ?_
      refine hK _ _ ?_; clear hK K
      refine wpAny_ready (rs := [1]) (by kernel_rfl) (by simp) ?_
      refine AllReady.cons rfl (fun K hK => ?_) AllReady.nil
      go_simp
      refine hK _ _ ?_; clear hK K
      refine wpAny_ready (rs := [3]) (by kernel_rfl) (by simp) ?_
      refine AllReady.cons rfl (fun K hK => ?_) AllReady.nil
      go_simp
      refine hK _ _ ?_; clear hK K
      refine wpAny_done (by kernel_rfl) ?_ _
      go_wp2
      refine bodyPost_ret (v := .tuple #[.agg (arrV .i16 64 (fun _ => 0)), errV s.einvalid]) ?_ rfl ⟨_, .einvalid, rfl, hB.out⟩
      exact resultsRowTmpP rfl _ _ _ _ _ _ _ rfl (b2.drew.setRow .i16 fun _ => 0) Tryd.underlying28 rfl (by rw [arrV_size]; exact sizePrint) _ rfl
  rw [h2] at hv
  have Hv := Lib.hid hv; clear hv
  have Hli := Lib.hid hli; clear hli
  rcases h3 : stpB m es with _ | _
  · obtain ⟨e1, e2⟩ := prt_no (f := f) (n := n) (xs := xs) (ys := ys) (m := m) (fs := fs) (es := es) (by simp [prtB, h3])
    rw [e1, e2]
    have q1 := mir_1 h3
    clear h1 h2 h3 e1 e2
    generalize lgtV m fs es = LG at *
    go_enter Tryd.func28, Tryd.ntmps28
    go_wp2_with (refine wpList_load_arr a1 _ _ rfl rfl rfl Tryd.underlying31 sizeNeg ?_)
    refine (Hd.out _).mono ?_; rintro e w0 ⟨rfl, hb0⟩
    have b1 := a2.below hb0 a2.lt
    have k9 := k0.trans (hb0.mono k0.size)
    have s1 := r1.below hb0 r1.lt
    have s2 := r2.below hb0 r2.lt
    clear a1 a2 k0 hb0 r1 r2 Hd
    go_wp2_with fail
    refine (Hv.out _ s1).mono ?_; rintro e w1 ⟨rfl, hb1⟩
    have b2 := b1.below hb1 b1.lt
    have k1 := k9.trans (hb1.mono k9.size)
    have t2 := s2.below hb1 s2.lt
    clear b1 k9 s1 s2 hb1 Hv
    go_wp2_with fail
    refine (Hli.out _ t2 (HE.out.below k1 (Nat.le_refl _)) (HT.out.below k1 (Nat.le_refl _))).mono ?_; rintro e w2 ⟨v, rfl, hv, hb2⟩
    have b3 := b2.below hb2 b2.lt
    have k2 := k1.trans (hb2.mono k1.size)
    clear b2 k1 t2 hb2 Hli
    rw [q1] at hv
    cases hv
    have z2 := k2.size
    have a4 := HasArr.zeroI w2 (b := w2.heap.size) rfl
    have b4 := (b3.alloc (.cells #[.int .i64 0, .int .i64 0, .int .i64 0, .int .i64 0, .int .i64 0, .int .i64 0, .int .i64 0, .int .i64 0, .int .i64 0, .int .i64 0, .int .i64 0, .int .i64 0, .int .i64 0, .int .i64 0, .int .i64 0, .int .i64 0, .int .i64 0, .int .i64 0, .int .i64 0, .int .i64 0, .int .i64 0, .int .i64 0, .int .i64 0, .int .i64 0, .int .i64 0, .int .i64 0, .int .i64 0, .int .i64 0, .int .i64 0, .int .i64 0, .int .i64 0, .int .i64 0, .int .i64 0, .int .i64 0, .int .i64 0, .int .i64 0, .int .i64 0, .int .i64 0, .int .i64 0, .int .i64 0, .int .i64 0, .int .i64 0, .int .i64 0, .int .i64 0, .int .i64 0, .int .i64 0, .int .i64 0, .int .i64 0, .int .i64 0, .int .i64 0, .int .i64 0, .int .i64 0, .int .i64 0, .int .i64 0, .int .i64 0, .int .i64 0, .int .i64 0, .int .i64 0, .int .i64 0, .int .i64 0, .int .i64 0, .int .i64 0, .int .i64 0, .int .i64 0] 80)).rowOther (b' := w2.heap.size) (by have := b3.lt; omega) (arrV .i64 64 LG)
    have k4 := below_setRow (k2.alloc z2 (.cells #[.int .i64 0, .int .i64 0, .int .i64 0, .int .i64 0, .int .i64 0, .int .i64 0, .int .i64 0, .int .i64 0, .int .i64 0, .int .i64 0, .int .i64 0, .int .i64 0, .int .i64 0, .int .i64 0, .int .i64 0, .int .i64 0, .int .i64 0, .int .i64 0, .int .i64 0, .int .i64 0, .int .i64 0, .int .i64 0, .int .i64 0, .int .i64 0, .int .i64 0, .int .i64 0, .int .i64 0, .int .i64 0, .int .i64 0, .int .i64 0, .int .i64 0, .int .i64 0, .int .i64 0, .int .i64 0, .int .i64 0, .int .i64 0, .int .i64 0, .int .i64 0, .int .i64 0, .int .i64 0, .int .i64 0, .int .i64 0, .int .i64 0, .int .i64 0, .int .i64 0, .int .i64 0, .int .i64 0, .int .i64 0, .int .i64 0, .int .i64 0, .int .i64 0, .int .i64 0, .int .i64 0, .int .i64 0, .int .i64 0, .int .i64 0, .int .i64 0, .int .i64 0, .int .i64 0, .int .i64 0, .int .i64 0, .int .i64 0, .int .i64 0, .int .i64 0] 80)) (b := w2.heap.size) z2 (arrV .i64 64 LG)
    clear b3 k2 q1
    go_wp2_with (first | (refine wpList_store_arr a4 _ _ _ rfl rfl rfl rfl sizeI64 ?_) | (refine wpList_store_zS b4 _ _ _ rfl rfl rfl rfl sizePrint ?_))
    refine bodyPost_ret (v := .tuple #[.agg (arrV .i16 64 fun _ => 0), errV s.einvalid]) ?_ rfl ⟨_, .einvalid, rfl, below_setRow k4 (b := w.heap.size + 1) (by omega) _⟩
    exact resultsRowTmpP rfl _ _ _ _ _ _ _ rfl (b4.setRow .i16 fun _ => 0) Tryd.underlying28 rfl (by rw [arrV_size]; exact sizePrint) _ rfl
  exact absurd (by simp [prtB, h1, h2, h3]) hne
end Go.Proofs.YtnlcjbobfhmnmaaDoor

namespace Go.Proofs.YtnlcjbobfhmnmaaDoor
open Go.RowKit

set_option maxRecDepth 100000 in
set_option maxHeartbeats 1000000 in
theorem printFrom_ok (s : Ers) (f : Nat → Int) (b n cap : Nat) (xs ys : Nat → Int) (hn : n ≤ 1048576) (hs : SmallP n xs ys) (b' m cap' : Nat) (fs es : Nat → Int) (hm : m ≤ 1048576) (hs' : SmallS m fs es)
    (w : World) (hr : PtRow w b n xs ys) (hr' : StRow w b' m fs es) (hE : ErrEnv s w) (hT : TimEnv w) (h1 : dnsB f = true) (h2 : validC n xs ys = true) (h3 : stpB m es = true) :
    Calls Tryd.prog 28 #[.agg (arrV .i16 64 f), .slice (some ⟨b, 0, none⟩) n cap, .slice (some ⟨b', 0, none⟩) m cap'] w (ErrPrn s w (prtG f n xs ys m fs es) (prtC f n xs ys m es)) := by
  have a1 := (HasArr.new w 31 .i16 64 f).alloc (.cells #[.int .i16 0, .int .i16 0, .int .i16 0, .int .i16 0, .int .i16 0, .int .i16 0, .int .i16 0, .int .i16 0, .int .i16 0, .int .i16 0, .int .i16 0, .int .i16 0, .int .i16 0, .int .i16 0, .int .i16 0, .int .i16 0, .int .i16 0, .int .i16 0, .int .i16 0, .int .i16 0, .int .i16 0, .int .i16 0, .int .i16 0, .int .i16 0, .int .i16 0, .int .i16 0, .int .i16 0, .int .i16 0, .int .i16 0, .int .i16 0, .int .i16 0, .int .i16 0, .int .i16 0, .int .i16 0, .int .i16 0, .int .i16 0, .int .i16 0, .int .i16 0, .int .i16 0, .int .i16 0, .int .i16 0, .int .i16 0, .int .i16 0, .int .i16 0, .int .i16 0, .int .i16 0, .int .i16 0, .int .i16 0, .int .i16 0, .int .i16 0, .int .i16 0, .int .i16 0, .int .i16 0, .int .i16 0, .int .i16 0, .int .i16 0, .int .i16 0, .int .i16 0, .int .i16 0, .int .i16 0, .int .i16 0, .int .i16 0, .int .i16 0, .int .i16 0] 28)
  have a2 := HasArr.zero (w.alloc (.cells (arrV .i16 64 f) 31)) 28 (b := w.heap.size + 1) (by simp)
  have k0 := ((Below.refl w.heap.size w).alloc (Nat.le_refl _) (.cells (arrV .i16 64 f) 31)).alloc (by simp) (.cells #[.int .i16 0, .int .i16 0, .int .i16 0, .int .i16 0, .int .i16 0, .int .i16 0, .int .i16 0, .int .i16 0, .int .i16 0, .int .i16 0, .int .i16 0, .int .i16 0, .int .i16 0, .int .i16 0, .int .i16 0, .int .i16 0, .int .i16 0, .int .i16 0, .int .i16 0, .int .i16 0, .int .i16 0, .int .i16 0, .int .i16 0, .int .i16 0, .int .i16 0, .int .i16 0, .int .i16 0, .int .i16 0, .int .i16 0, .int .i16 0, .int .i16 0, .int .i16 0, .int .i16 0, .int .i16 0, .int .i16 0, .int .i16 0, .int .i16 0, .int .i16 0, .int .i16 0, .int .i16 0, .int .i16 0, .int .i16 0, .int .i16 0, .int .i16 0, .int .i16 0, .int .i16 0, .int .i16 0, .int .i16 0, .int .i16 0, .int .i16 0, .int .i16 0, .int .i16 0, .int .i16 0, .int .i16 0, .int .i16 0, .int .i16 0, .int .i16 0, .int .i16 0, .int .i16 0, .int .i16 0, .int .i16 0, .int .i16 0, .int .i16 0, .int .i16 0] 28)
  have r1 := hr.below k0 hr.lt
  have r2 := hr'.below k0 hr'.lt
  have hd := fun W => ValidNegative_any f W
  have hv := fun W h => ValidCurve_any b n cap xs ys hn hs W h
  have hli := fun W h hE hT => lightOn_any s b' m cap' fs es hm hs' W h hE hT
  rw [h1] at hd
  rw [h2] at hv
  have HE := Lib.hid hE; clear hE
  have HT := Lib.hid hT; clear hT
  have Hd := Lib.hid hd; clear hd
  have Hv := Lib.hid hv; clear hv
  have Hli := Lib.hid hli; clear hli
  obtain ⟨e1, e2⟩ := prt_yes (f := f) (n := n) (xs := xs) (ys := ys) (m := m) (fs := fs) (es := es) (by simp [prtB, h1, h2, h3])
  rw [e1, e2]
  have q1 := mir_0 h3
  have htb := fun c => thin_bd (addT fs es m c)
  obtain ⟨LG, hLG⟩ : ∃ LG : Nat → Int, (fun c => thin (addT fs es m c)) = LG := ⟨_, rfl⟩
  obtain ⟨G, hG⟩ : ∃ G : Nat → Int, (fun c => dens n xs ys (plc (thin (addT fs es m c)) (f c))) = G := ⟨_, rfl⟩
  have q2 := (lgt_0 (fs := fs) h3).trans hLG
  have hex : ∀ W, PtRow W b n xs ys → Calls Tryd.prog 43 #[.agg (prnW f b n cap), .agg (arrV .i64 64 LG)] W fun e w' => e = .returned (.agg (arrV .i16 64 G)) ∧ Below W.heap.size W w' := fun W hr => by
    rw [← hLG, ← hG]
    exact exposed_any f (fun k hk => dnsB_bd h1 hk) b n cap xs ys hn (validC_crv h2).1 (fun c => thin (addT fs es m c)) (fun c _ => htb c) W hr
  rw [hG]
  have Hex := Lib.hid hex; clear hex htb h1 h2 h3 e1 e2 hLG hG
  go_enter Tryd.func28, Tryd.ntmps28
  go_wp2_with (refine wpList_load_arr a1 _ _ rfl rfl rfl Tryd.underlying31 sizeNeg ?_)
  refine (Hd.out _).mono ?_; rintro e w0 ⟨rfl, hb0⟩
  have c1 := a1.below hb0 a1.lt
  have b1 := a2.below hb0 a2.lt
  have k9 := k0.trans (hb0.mono k0.size)
  have s1 := r1.below hb0 r1.lt
  have s2 := r2.below hb0 r2.lt
  clear a1 a2 k0 hb0 r1 r2 Hd
  go_wp2_with fail
  refine (Hv.out _ s1).mono ?_; rintro e w1 ⟨rfl, hb1⟩
  have c2 := c1.below hb1 c1.lt
  have b2 := b1.below hb1 b1.lt
  have k1 := k9.trans (hb1.mono k9.size)
  have t1 := s1.below hb1 s1.lt
  have t2 := s2.below hb1 s2.lt
  clear b1 c1 k9 s1 s2 hb1 Hv
  go_wp2_with fail
  refine (Hli.out _ t2 (HE.out.below k1 (Nat.le_refl _)) (HT.out.below k1 (Nat.le_refl _))).mono ?_; rintro e w2 ⟨v, rfl, hv, hb2⟩
  have c3 := c2.below hb2 c2.lt
  have b3 := b2.below hb2 b2.lt
  have k2 := k1.trans (hb2.mono k1.size)
  have u1 := t1.below hb2 t1.lt
  clear b2 c2 k1 t1 t2 hb2 Hli
  rw [q1] at hv
  cases hv
  rw [q2]
  have z2 := k2.size
  have l3 := b3.lt
  have l1 := c3.lt
  have a4 := HasArr.zeroI w2 (b := w2.heap.size) rfl
  have g4 := a4.setRow .i64 LG
  have c4 := (c3.alloc (.cells #[.int .i64 0, .int .i64 0, .int .i64 0, .int .i64 0, .int .i64 0, .int .i64 0, .int .i64 0, .int .i64 0, .int .i64 0, .int .i64 0, .int .i64 0, .int .i64 0, .int .i64 0, .int .i64 0, .int .i64 0, .int .i64 0, .int .i64 0, .int .i64 0, .int .i64 0, .int .i64 0, .int .i64 0, .int .i64 0, .int .i64 0, .int .i64 0, .int .i64 0, .int .i64 0, .int .i64 0, .int .i64 0, .int .i64 0, .int .i64 0, .int .i64 0, .int .i64 0, .int .i64 0, .int .i64 0, .int .i64 0, .int .i64 0, .int .i64 0, .int .i64 0, .int .i64 0, .int .i64 0, .int .i64 0, .int .i64 0, .int .i64 0, .int .i64 0, .int .i64 0, .int .i64 0, .int .i64 0, .int .i64 0, .int .i64 0, .int .i64 0, .int .i64 0, .int .i64 0, .int .i64 0, .int .i64 0, .int .i64 0, .int .i64 0, .int .i64 0, .int .i64 0, .int .i64 0, .int .i64 0, .int .i64 0, .int .i64 0, .int .i64 0, .int .i64 0] 80)).rowOther (b' := w2.heap.size) (by omega) (arrV .i64 64 LG)
  have b4 := (b3.alloc (.cells #[.int .i64 0, .int .i64 0, .int .i64 0, .int .i64 0, .int .i64 0, .int .i64 0, .int .i64 0, .int .i64 0, .int .i64 0, .int .i64 0, .int .i64 0, .int .i64 0, .int .i64 0, .int .i64 0, .int .i64 0, .int .i64 0, .int .i64 0, .int .i64 0, .int .i64 0, .int .i64 0, .int .i64 0, .int .i64 0, .int .i64 0, .int .i64 0, .int .i64 0, .int .i64 0, .int .i64 0, .int .i64 0, .int .i64 0, .int .i64 0, .int .i64 0, .int .i64 0, .int .i64 0, .int .i64 0, .int .i64 0, .int .i64 0, .int .i64 0, .int .i64 0, .int .i64 0, .int .i64 0, .int .i64 0, .int .i64 0, .int .i64 0, .int .i64 0, .int .i64 0, .int .i64 0, .int .i64 0, .int .i64 0, .int .i64 0, .int .i64 0, .int .i64 0, .int .i64 0, .int .i64 0, .int .i64 0, .int .i64 0, .int .i64 0, .int .i64 0, .int .i64 0, .int .i64 0, .int .i64 0, .int .i64 0, .int .i64 0, .int .i64 0, .int .i64 0] 80)).rowOther (b' := w2.heap.size) (by omega) (arrV .i64 64 LG)
  have k4 := below_setRow (k2.alloc z2 (.cells #[.int .i64 0, .int .i64 0, .int .i64 0, .int .i64 0, .int .i64 0, .int .i64 0, .int .i64 0, .int .i64 0, .int .i64 0, .int .i64 0, .int .i64 0, .int .i64 0, .int .i64 0, .int .i64 0, .int .i64 0, .int .i64 0, .int .i64 0, .int .i64 0, .int .i64 0, .int .i64 0, .int .i64 0, .int .i64 0, .int .i64 0, .int .i64 0, .int .i64 0, .int .i64 0, .int .i64 0, .int .i64 0, .int .i64 0, .int .i64 0, .int .i64 0, .int .i64 0, .int .i64 0, .int .i64 0, .int .i64 0, .int .i64 0, .int .i64 0, .int .i64 0, .int .i64 0, .int .i64 0, .int .i64 0, .int .i64 0, .int .i64 0, .int .i64 0, .int .i64 0, .int .i64 0, .int .i64 0, .int .i64 0, .int .i64 0, .int .i64 0, .int .i64 0, .int .i64 0, .int .i64 0, .int .i64 0, .int .i64 0, .int .i64 0, .int .i64 0, .int .i64 0, .int .i64 0, .int .i64 0, .int .i64 0, .int .i64 0, .int .i64 0, .int .i64 0] 80)) (b := w2.heap.size) z2 (arrV .i64 64 LG)
  have u4 := u1.below (below_setRow ((Below.refl w2.heap.size w2).alloc (Nat.le_refl _) (.cells #[.int .i64 0, .int .i64 0, .int .i64 0, .int .i64 0, .int .i64 0, .int .i64 0, .int .i64 0, .int .i64 0, .int .i64 0, .int .i64 0, .int .i64 0, .int .i64 0, .int .i64 0, .int .i64 0, .int .i64 0, .int .i64 0, .int .i64 0, .int .i64 0, .int .i64 0, .int .i64 0, .int .i64 0, .int .i64 0, .int .i64 0, .int .i64 0, .int .i64 0, .int .i64 0, .int .i64 0, .int .i64 0, .int .i64 0, .int .i64 0, .int .i64 0, .int .i64 0, .int .i64 0, .int .i64 0, .int .i64 0, .int .i64 0, .int .i64 0, .int .i64 0, .int .i64 0, .int .i64 0, .int .i64 0, .int .i64 0, .int .i64 0, .int .i64 0, .int .i64 0, .int .i64 0, .int .i64 0, .int .i64 0, .int .i64 0, .int .i64 0, .int .i64 0, .int .i64 0, .int .i64 0, .int .i64 0, .int .i64 0, .int .i64 0, .int .i64 0, .int .i64 0, .int .i64 0, .int .i64 0, .int .i64 0, .int .i64 0, .int .i64 0, .int .i64 0] 80)) (b := w2.heap.size) (Nat.le_refl _) (arrV .i64 64 LG)) u1.lt
  obtain ⟨W4, hW4⟩ : ∃ x : World, x = (w2.alloc (.cells #[.int .i64 0, .int .i64 0, .int .i64 0, .int .i64 0, .int .i64 0, .int .i64 0, .int .i64 0, .int .i64 0, .int .i64 0, .int .i64 0, .int .i64 0, .int .i64 0, .int .i64 0, .int .i64 0, .int .i64 0, .int .i64 0, .int .i64 0, .int .i64 0, .int .i64 0, .int .i64 0, .int .i64 0, .int .i64 0, .int .i64 0, .int .i64 0, .int .i64 0, .int .i64 0, .int .i64 0, .int .i64 0, .int .i64 0, .int .i64 0, .int .i64 0, .int .i64 0, .int .i64 0, .int .i64 0, .int .i64 0, .int .i64 0, .int .i64 0, .int .i64 0, .int .i64 0, .int .i64 0, .int .i64 0, .int .i64 0, .int .i64 0, .int .i64 0, .int .i64 0, .int .i64 0, .int .i64 0, .int .i64 0, .int .i64 0, .int .i64 0, .int .i64 0, .int .i64 0, .int .i64 0, .int .i64 0, .int .i64 0, .int .i64 0, .int .i64 0, .int .i64 0, .int .i64 0, .int .i64 0, .int .i64 0, .int .i64 0, .int .i64 0, .int .i64 0] 80)).setRow w2.heap.size (arrV .i64 64 LG) := ⟨_, rfl⟩
  rw [← hW4] at g4 c4 b4 k4 u4
  have hz4 : W4.heap.size = w2.heap.size + 1 := by rw [hW4]; simp
  clear b3 c3 k2 u1 q1 q2
  have hPs := prnW_size f b n cap
  have hP1 := prnW_one f b n cap
  have l4 := c4.lt
  have n0 : (W4.alloc (.cells Tryd.zeroCells88 88)).heap[w2.heap.size + 1]? = some (.cells Tryd.zeroCells88 88 (0, 0)) := by rw [← hz4]; exact heap_alloc_last W4 _
  have n1 := setRow_heap (W4.alloc (.cells Tryd.zeroCells88 88)) (w2.heap.size + 1) Tryd.zeroCells88 (prnW f b n cap) 88 (0, 0) n0
  have g5 := (g4.alloc (.cells Tryd.zeroCells88 88)).rowOther (b' := w2.heap.size + 1) (by omega) (prnW f b n cap)
  have b5 := (b4.alloc (.cells Tryd.zeroCells88 88)).rowOther (b' := w2.heap.size + 1) (by have := b4.lt; omega) (prnW f b n cap)
  have k5 := below_setRow (k4.alloc k4.size (.cells Tryd.zeroCells88 88)) (b := w2.heap.size + 1) (by have := k4.size; omega) (prnW f b n cap)
  have u5 := u4.below (below_setRow ((Below.refl W4.heap.size W4).alloc (Nat.le_refl _) (.cells Tryd.zeroCells88 88)) (b := w2.heap.size + 1) (by omega) (prnW f b n cap)) u4.lt
  obtain ⟨W5, hW5⟩ : ∃ x : World, x = (W4.alloc (.cells Tryd.zeroCells88 88)).setRow (w2.heap.size + 1) (prnW f b n cap) := ⟨_, rfl⟩
  rw [← hW5] at n1 g5 b5 k5 u5
  clear k4 u4 b4 g4
  have B5 := Lib.hid b5; clear b5
  have K5 := Lib.hid k5; clear k5
  have U5 := Lib.hid u5; clear u5
  go_wp2_with (first | (refine wpList_store_arr a4 _ _ _ rfl rfl rfl rfl sizeI64 ?_; rw [← hW4]; clear hW4 a4) | (refine wpList_load_arr c4 31 (.tmp 3) rfl rfl rfl Tryd.underlying31 sizeNeg ?_) | (refine wpList_build_prn (f := f) (b := b) (n := n) (cap := cap) (.tmp 30) (.tmp 31) rfl rfl rfl rfl ?_) | (refine wpList_store_row rfl 88 (.tmp 10) (.tmp 32) rfl (w2.heap.size + 1) (prnW f b n cap) rfl rfl 88 Tryd.zeroCells88 n0 (by rw [hPs]; exact sizePrn) (by rw [hPs]; rfl) hP1 ?_; rw [← hW5]; clear hW5 n0) | (refine wpList_load_row rfl 88 (.tmp 10) rfl (w2.heap.size + 1) rfl 88 (prnW f b n cap) (0, 0) _ n1 Tryd.underlying88 rfl (by rw [hPs]; exact sizePrn) ?_) | (refine wpList_load_arr g5 80 (.tmp 8) rfl rfl rfl Tryd.underlying80 sizeI64 ?_))
  refine (Hex.out _ U5.out).mono ?_; rintro e w6 ⟨rfl, hb6⟩
  have b6 := B5.out.below hb6 B5.out.lt
  have k6 := K5.out.trans (hb6.mono K5.out.size)
  clear n1 g5 hb6 c4
  go_wp2_with (refine wpList_store_arr b6 28 (.tmp 6) (.tmp 35) rfl rfl rfl rfl sizePrint ?_)
  refine bodyPost_ret (v := .tuple #[.agg (arrV .i16 64 G), .nilIface]) ?_ rfl ⟨_, .ok, rfl, below_setRow k6 (b := w.heap.size + 1) (by omega) _⟩
  exact resultsRowTmpP rfl _ _ _ _ _ _ _ rfl (b6.setRow .i16 G) Tryd.underlying28 rfl (by rw [arrV_size]; exact sizePrint) _ rfl
end Go.Proofs.YtnlcjbobfhmnmaaDoor

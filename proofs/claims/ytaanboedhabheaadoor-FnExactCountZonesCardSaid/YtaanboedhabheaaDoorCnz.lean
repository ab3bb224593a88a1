/-
  Cells in zones and off the scale: what both sides return, for every scene and placement. Condition of the program's: its variables hold their own errors.
-/
import Derived.Test.YtaanboedhabheaaDoorZon
import Derived.Deep.MidRow
namespace Go.Proofs.YtaanboedhabheaaDoor
open Go.RowKit

def osL (f : Nat → Int) (r z : Int) : Nat := if bC f r z = 0 then maskN (lowP (zF f r z)) 24 else 0
def osH (f : Nat → Int) (r z : Int) : Nat := if bC f r z = 0 then maskN (hiP (zF f r z)) 24 else 0
def czV (f : Nat → Int) (r z : Int) : Nat → Int := fun j => if bC f r z = 0 then czN (zF f r z) 24 j else 0
theorem os_0 {f : Nat → Int} {r z : Int} (h : bC f r z = 0) : osL f r z = maskN (lowP (zF f r z)) 24 ∧ osH f r z = maskN (hiP (zF f r z)) 24 ∧ czV f r z = czN (zF f r z) 24 := by
  refine ⟨if_pos h, if_pos h, ?_⟩
  unfold czV; funext j; rw [if_pos h]
theorem os_1 {f : Nat → Int} {r z : Int} (h : bC f r z = 1) : osL f r z = 0 ∧ osH f r z = 0 ∧ czV f r z = fun _ => 0 := by
  have h' : ¬ bC f r z = 0 := by omega
  refine ⟨if_neg h', if_neg h', ?_⟩
  unfold czV; funext j; rw [if_neg h']
theorem osL_lt (f : Nat → Int) (r z : Int) : osL f r z < 4294967296 := by
  have := maskN_lt24 (lowP (zF f r z)) 24 (by omega)
  unfold osL; split <;> omega
theorem osH_lt (f : Nat → Int) (r z : Int) : osH f r z < 4294967296 := by
  have := maskN_lt24 (hiP (zF f r z)) 24 (by omega)
  unfold osH; split <;> omega

theorem zeroArr11 : #[.int .i64 0, .int .i64 0, .int .i64 0, .int .i64 0, .int .i64 0, .int .i64 0, .int .i64 0, .int .i64 0, .int .i64 0, .int .i64 0, .int .i64 0] = arrV .i64 11 fun _ => 0 := by kernel_rfl

theorem sizeA11 : (Tryd.prog.info? 44).map (·.size) = some 11 := by kernel_rfl

theorem HasArr.zero11 (w : World) (T : TypeId) {b : Nat} (hb : b = w.heap.size) : HasArr (w.alloc (.cells #[.int .i64 0, .int .i64 0, .int .i64 0, .int .i64 0, .int .i64 0, .int .i64 0, .int .i64 0, .int .i64 0, .int .i64 0, .int .i64 0, .int .i64 0] T)) b T .i64 11 fun _ => 0 := by
  subst hb; rw [zeroArr11]; exact HasArr.new w T .i64 11 _
theorem wpList_store_z11 {P : Program} {ops : Array Oper} {rest : List Oper} {o : Oper} {a : Act} {w : World} {Q : Exit → Act → World → Prop} {b : Nat} {T : TypeId} {κ : IntKind} {f : Nat → Int}
    (h : HasArr w b T κ 11 f) (ty : TypeId) (x y : Operand) (hgd : o.guard = none) (ho : o.op = .store ty x y) (hx : a.eval x = .pointer (some ⟨b, 0, none⟩)) (hy : a.eval y = .agg #[.int .i64 0, .int .i64 0, .int .i64 0, .int .i64 0, .int .i64 0, .int .i64 0, .int .i64 0, .int .i64 0, .int .i64 0, .int .i64 0, .int .i64 0]) (hi : (P.info? ty).map (·.size) = some 11)
    (hK : wpList P ops Q rest (a.put o.dst undef) (w.setRow b (arrV .i64 11 fun _ => 0))) : wpList P ops Q (o :: rest) a w :=
  wpList_store_arr (g := fun _ => 0) h ty x y hgd ho hx (hy.trans (by rw [zeroArr11])) hi hK
theorem run_load_zgc {P : Program} {ρ : Operand → Value} {o : Oper} {w : World} {g : Nat} {T : TypeId} {c : Nat → Int} {l h : Nat} {e : TypeId} (H : ZgAt w g T c l h) (ty : TypeId) (x : Operand) (ho : o.op = .load ty x) (hx : ρ x = .pointer (some ⟨g, 0, none⟩))
    (hu : P.underlying ty = some (.array 11 e)) (hi : (P.info? ty).map (·.size) = some 11) : (execOp ρ o).run P w = .ok (.value (.agg (arrV .i64 11 c))) w := by
  have hr : w.rangeAt g 0 (arrV .i64 11 c).toList := fun j v hv => by
    have hj : j < 11 := by
      rcases Nat.lt_or_ge j 11 with h1 | h1
      · exact h1
      · rw [List.getElem?_eq_none (by simp [arrV_size]; omega)] at hv; cases hv
    have h2 := arrV_get (κ := .i64) (f := c) hj
    rw [← Array.getElem?_toList, hv] at h2
    rw [Option.some.inj h2, Nat.zero_add]
    exact H.cellc hj
  have h3 := run_loadAt_mid (P := P) w g 0 ty (arrV .i64 11 c).toList (.array 11 e) hr hu rfl (by rw [Array.length_toList, arrV_size]; exact hi)
  unfold execOp
  simp only [ho, hx, Sem.run_bind, h3, Result.andThen_ok, Sem.run_pure]
theorem wpQuiet_load_zgc {P : Program} {ops : Array Oper} {C : World → Prop} {Q : Act → Prop} {a : Act} {o : Oper} {rest : List Oper} {g : Nat} {T : TypeId} {c : Nat → Int} {l h : Nat} {e : TypeId}
    (H : ∀ W, C W → ZgAt W g T c l h) (ty : TypeId) (x : Operand) (hgd : o.guard = none) (ho : o.op = .load ty x) (hx : a.eval x = .pointer (some ⟨g, 0, none⟩)) (hu : P.underlying ty = some (.array 11 e)) (hi : (P.info? ty).map (·.size) = some 11)
    (hK : wpQuiet P ops C Q rest (a.put o.dst (.agg (arrV .i64 11 c)))) : wpQuiet P ops C Q (o :: rest) a :=
  BigFrame.wpQuiet_want (by simp [Region.wanted, hgd]) fun _ hK' => ⟨_, fun W hW => by unfold Oper.quietAt; rw [run_load_zgc (H W hW) ty x ho hx hu hi]; exact ⟨rfl, rfl⟩, hK' _ hK⟩
theorem resultsRowTmp3 {P : Program} {fn : Func} {p q q2 q3 : Tmp} {ty : TypeId} (h : fn.results = #[.cell p ty, .tmp q, .tmp q2, .tmp q3]) (tmps : Array Value) (w : World) (g : Nat) (t : TypeId) (cs : Array Value) (fr : Nat × Nat) (d : TypeDesc)
    (hp : tmps.getD p undef = .pointer (some ⟨g, 0, none⟩)) (hg : w.heap[g]? = some (.cells cs t fr))
    (hu : P.underlying ty = some d) (hd : (match d with | .struct _ | .array _ _ => true | _ => false) = true) (hi : (P.info? ty).map (·.size) = some cs.size) (v v2 v3 : Value) (hq : tmps.getD q undef = v) (hq2 : tmps.getD q2 undef = v2) (hq3 : tmps.getD q3 undef = v3) :
    (results fn tmps).run P w = .ok (.tuple #[.agg cs, v, v2, v3]) w := by
  have hp' : tmps[p]?.getD undef = .pointer (some ⟨g, 0, none⟩) := by simpa using hp
  have hq' : tmps[q]?.getD undef = v := by simpa using hq
  have hq2' : tmps[q2]?.getD undef = v2 := by simpa using hq2
  have hq3' : tmps[q3]?.getD undef = v3 := by simpa using hq3
  simp [results, h, hp', hq', hq2', hq3', asAddr, run_loadVar_row w g t ty cs fr d hg hu hd hi]

set_option maxRecDepth 100000 in
set_option maxHeartbeats 2000000 in
theorem specOffScale_any (f : Nat → Int) (hf : S8 f) (r z : Int) (hr : -128 ≤ r) (hr' : r ≤ 127) (hz : -128 ≤ z) (hz' : z ≤ 127) (w : World) :
    Calls Tryd.prog 31 #[.agg (arrV .i8 24 f), plcV r z] w fun e w' => e = .returned (.tuple #[.int .u32 ((osL f r z : Nat) : Int), .int .u32 ((osH f r z : Nat) : Int), .int .i64 (bC f r z)]) ∧ Below w.heap.size w w' := by
  have s0 := (HasArr.new w 26 .i8 24 f).alloc (.cells #[.int .i8 r, .int .i8 z] 37)
  have p0 := PlAt.new (w.alloc (.cells (arrV .i8 24 f) 26)) (g := w.heap.size + 1) (by simp) 37 r z
  have k0 : Below w.heap.size w ((w.alloc (.cells (arrV .i8 24 f) 26)).alloc (.cells #[.int .i8 r, .int .i8 z] 37)) := (((Below.refl _ _).alloc (Nat.le_refl _) _).alloc (by simp) _)
  have hq := fun W h => l06Both_any w.heap.size 26 f hf r z hr hr' hz hz' W h
  have q0 := p0.1
  have q1 := p0.2
  rcases b_or (f := f) (r := r) (z := z) with ⟨hC, hv, hp⟩ | hC
  · rw [hC] at hq
    rw [hC, (os_0 hC).1, (os_0 hC).2.1]
    have ho := fun W h => l06Off_any w.heap.size 26 f r z hv hp W h
    generalize maskN (lowP (zF f r z)) 24 = M1 at *
    generalize maskN (hiP (zF f r z)) 24 = M2 at *
    have Hq := Lib.hid hq; have Ho := Lib.hid ho; clear hq ho hC hv hp hf
    have S0 := Lib.hid s0; have P0 := Lib.hid p0; have K0 := Lib.hid k0; clear s0 p0 k0
    go_enter Tryd.func31, Tryd.ntmps31
    go_wp2_with fail
    refine (Hq.out _ S0.out).mono ?_; rintro e w1 ⟨rfl, hb1⟩
    have S1 := Lib.hid (S0.out.below hb1 S0.out.lt)
    have P1 := P0.out.below hb1 P0.out.lt
    have k1 := K0.out.trans (hb1.mono K0.out.size)
    clear q0 q1 S0 P0 K0 hb1
    have q0 := P1.1
    have q1 := P1.2
    go_wp2_with fail
    refine (Ho.out _ S1.out).mono ?_; rintro e w2 ⟨rfl, hb2⟩
    go_wp2_with fail
    go_ret3
    exact ⟨rfl, k1.trans (hb2.mono k1.size)⟩
  · rw [hC] at hq
    rw [hC, (os_1 hC).1, (os_1 hC).2.1]
    have Hq := Lib.hid hq; clear hq hC hf
    have S0 := Lib.hid s0; have K0 := Lib.hid k0; clear s0 p0 k0
    go_enter Tryd.func31, Tryd.ntmps31
    go_wp2_with fail
    refine (Hq.out _ S0.out).mono ?_; rintro e w1 ⟨rfl, hb1⟩
    go_wp2_with fail
    go_ret3
    exact ⟨rfl, K0.out.trans (hb1.mono K0.out.size)⟩

set_option maxRecDepth 100000 in
set_option maxHeartbeats 2000000 in
theorem zoningBy_any (s : Ers) (f : Nat → Int) (r z : Int) (hr : -128 ≤ r) (hr' : r ≤ 127) (hz : -128 ≤ z) (hz' : z ≤ 127) (w : World) (hE : ErrEnv s w) :
    Calls Tryd.prog 63 #[.agg (arrV .i8 24 f), plcV r z] w (CodedP s (.agg (zgV (czV f r z) (osL f r z) (osH f r z))) (bC f r z) w.heap.size w) := by
  have s0 := ((HasArr.new w 26 .i8 24 f).alloc (.cells #[.int .i8 r, .int .i8 z] 37)).alloc (.cells #[.int .i64 0, .int .i64 0, .int .i64 0, .int .i64 0, .int .i64 0, .int .i64 0, .int .i64 0, .int .i64 0, .int .i64 0, .int .i64 0, .int .i64 0, .int .u32 0, .int .u32 0] 92)
  have p0 := (PlAt.new (w.alloc (.cells (arrV .i8 24 f) 26)) (g := w.heap.size + 1) (by simp) 37 r z).alloc (.cells #[.int .i64 0, .int .i64 0, .int .i64 0, .int .i64 0, .int .i64 0, .int .i64 0, .int .i64 0, .int .i64 0, .int .i64 0, .int .i64 0, .int .i64 0, .int .u32 0, .int .u32 0] 92)
  have r0 := ZgAt.zero ((w.alloc (.cells (arrV .i8 24 f) 26)).alloc (.cells #[.int .i8 r, .int .i8 z] 37)) 92 (g := w.heap.size + 1 + 1) (by simp)
  have k0 : Below w.heap.size w (((w.alloc (.cells (arrV .i8 24 f) 26)).alloc (.cells #[.int .i8 r, .int .i8 z] 37)).alloc (.cells #[.int .i64 0, .int .i64 0, .int .i64 0, .int .i64 0, .int .i64 0, .int .i64 0, .int .i64 0, .int .i64 0, .int .i64 0, .int .i64 0, .int .i64 0, .int .u32 0, .int .u32 0] 92)) := ((((Below.refl _ _).alloc (Nat.le_refl _) _).alloc (by simp) _).alloc (by simp; omega) _)
  have ho := fun W => ValidScene_any f W
  have hq := fun W => isPlacement_any r z hr hr' hz hz' W
  have HE := Lib.hid hE; clear hE
  rcases h1 : scnB f with _ | _
  · have hC := b_1a (r := r) (z := z) h1
    rw [hC, (os_1 hC).1, (os_1 hC).2.1, (os_1 hC).2.2]
    rw [h1] at ho
    have Ho := Lib.hid ho; clear ho hq h1 hC p0
    go_enter Tryd.func63, Tryd.ntmps63
    go_wp2_with (refine wpList_load_arr s0 _ _ rfl rfl rfl Tryd.underlying26 sizeScn ?_)
    refine (Ho.out _).mono ?_; rintro e w1 ⟨rfl, hb1⟩
    have rr := r0.below hb1 r0.lt
    have k1 := k0.trans (hb1.mono k0.size)
    have rr : ZgAt w1.drew (w.heap.size + 1 + 1) 92 (fun _ => 0) 0 0 := rr
    have ce := (HE.out.below k1 (Nat.le_refl _)).c_einvalid
    have hB := Lib.hid (below_setRow k1.drew (b := w.heap.size + 1 + 1) (by omega) (zgV (fun _ => 0) 0 0))
    have cg : (w1.drew.setRow (w.heap.size + 1 + 1) (zgV (fun _ => 0) 0 0)).cell? ⟨0, 0, none⟩ = some (errV s.einvalid) := (HE.out.below hB.out (Nat.le_refl _)).c_einvalid
    clear s0 r0 k0 hb1 k1
    go_wp2_with fail
    refine wp_region_any (by kernel_rfl) ?_
    refine wpAny_take (i := 0) (v := .agg #[.int .i64 0, .int .i64 0, .int .i64 0, .int .i64 0, .int .i64 0, .int .i64 0, .int .i64 0, .int .i64 0, .int .i64 0, .int .i64 0, .int .i64 0, .int .u32 0, .int .u32 0]) rfl (by kernel_rfl) (by kernel_rfl) (by kernel_rfl) (fun _ _ _ h => h) (Or.inl ⟨by rfl, by intro w; go_simp⟩) ?_
    change wpAny _ _ _ _ _ _ _ (World.drew _)
    refine wpAny_ready (rs := [1, 2]) (by kernel_rfl) (by simp) ?_
    refine AllReady.cons rfl (fun K hK => ?_) (AllReady.cons rfl (fun K hK => ?_) AllReady.nil)
    · go_simp
      refine hK _ _ ?_; clear hK K
      refine wpAny_ready (rs := [2]) (by kernel_rfl) (by simp) ?_
      refine AllReady.cons rfl (fun K hK => ?_) AllReady.nil
      refine step_store_zg0 rr rfl _ _ _ rfl rfl rfl sizeZg ?_
      refine hK _ _ ?_; clear hK K
      refine wpAny_ready (rs := [3]) (by kernel_rfl) (by simp) ?_
      refine AllReady.cons rfl (fun K hK => ?_) AllReady.nil
      go_simp
      refine hK _ _ ?_; clear hK K
      refine wpAny_done (by kernel_rfl) ?_ _
      go_wp2
      refine bodyPost_ret (v := .tuple #[.agg (zgV (fun _ => 0) 0 0), errV s.einvalid]) ?_ rfl ⟨_, .einvalid, rfl, hB.out⟩
      exact resultsRowTmp rfl _ _ _ _ _ _ _ rfl (rr.setRow (fun _ => 0) 0 0) Tryd.underlying92 rfl (by rw [zgV_size]; exact sizeZg) _ rfl
    · refine step_store_zg0 rr rfl _ _ _ rfl rfl rfl sizeZg ?_
      refine hK _ _ ?_; clear hK K
      refine wpAny_ready (rs := [1]) (by kernel_rfl) (by simp) ?_
      refine AllReady.cons rfl (fun K hK => ?_) AllReady.nil
      go_simp
      refine hK _ _ ?_; clear hK K
      refine wpAny_ready (rs := [3]) (by kernel_rfl) (by simp) ?_
      refine AllReady.cons rfl (fun K hK => ?_) AllReady.nil
      go_simp
      refine hK _ _ ?_; clear hK K
      refine wpAny_done (by kernel_rfl) ?_ _
      go_wp2
      refine bodyPost_ret (v := .tuple #[.agg (zgV (fun _ => 0) 0 0), errV s.einvalid]) ?_ rfl ⟨_, .einvalid, rfl, hB.out⟩
      exact resultsRowTmp rfl _ _ _ _ _ _ _ rfl (rr.setRow (fun _ => 0) 0 0) Tryd.underlying92 rfl (by rw [zgV_size]; exact sizeZg) _ rfl
  rw [h1] at ho
  have Ho := Lib.hid ho; clear ho
  rcases h2 : plcB r z with _ | _
  · have hC := b_1b (f := f) h2
    rw [hC, (os_1 hC).1, (os_1 hC).2.1, (os_1 hC).2.2]
    rw [h2] at hq
    have Hq := Lib.hid hq; clear hq h1 h2 hC
    go_enter Tryd.func63, Tryd.ntmps63
    go_wp2_with (refine wpList_load_arr s0 _ _ rfl rfl rfl Tryd.underlying26 sizeScn ?_)
    refine (Ho.out _).mono ?_; rintro e w1 ⟨rfl, hb1⟩
    have rr := r0.below hb1 r0.lt
    have k1 := k0.trans (hb1.mono k0.size)
    have q0 := (p0.below hb1 p0.lt).1
    have q1 := (p0.below hb1 p0.lt).2
    clear s0 p0 r0 k0 hb1
    go_wp2_with fail
    refine (Hq.out _).mono ?_; rintro e w2 ⟨rfl, hb2⟩
    have rr := rr.below hb2 rr.lt
    have k1 := k1.trans (hb2.mono k1.size)
    have rr : ZgAt w2.drew (w.heap.size + 1 + 1) 92 (fun _ => 0) 0 0 := rr
    have ce := (HE.out.below k1 (Nat.le_refl _)).c_einvalid
    have hB := Lib.hid (below_setRow k1.drew (b := w.heap.size + 1 + 1) (by omega) (zgV (fun _ => 0) 0 0))
    have cg : (w2.drew.setRow (w.heap.size + 1 + 1) (zgV (fun _ => 0) 0 0)).cell? ⟨0, 0, none⟩ = some (errV s.einvalid) := (HE.out.below hB.out (Nat.le_refl _)).c_einvalid
    clear hb2 k1 q0 q1
    go_wp2_with fail
    refine wp_region_any (by kernel_rfl) ?_
    refine wpAny_take (i := 0) (v := .agg #[.int .i64 0, .int .i64 0, .int .i64 0, .int .i64 0, .int .i64 0, .int .i64 0, .int .i64 0, .int .i64 0, .int .i64 0, .int .i64 0, .int .i64 0, .int .u32 0, .int .u32 0]) rfl (by kernel_rfl) (by kernel_rfl) (by kernel_rfl) (fun _ _ _ h => h) (Or.inl ⟨by rfl, by intro w; go_simp⟩) ?_
    change wpAny _ _ _ _ _ _ _ (World.drew _)
    refine wpAny_ready (rs := [1, 2]) (by kernel_rfl) (by simp) ?_
    refine AllReady.cons rfl (fun K hK => ?_) (AllReady.cons rfl (fun K hK => ?_) AllReady.nil)
    · go_simp
      refine hK _ _ ?_; clear hK K
      refine wpAny_ready (rs := [2]) (by kernel_rfl) (by simp) ?_
      refine AllReady.cons rfl (fun K hK => ?_) AllReady.nil
      refine step_store_zg0 rr rfl _ _ _ rfl rfl rfl sizeZg ?_
      refine hK _ _ ?_; clear hK K
      refine wpAny_ready (rs := [3]) (by kernel_rfl) (by simp) ?_
      refine AllReady.cons rfl (fun K hK => ?_) AllReady.nil
      go_simp
      refine hK _ _ ?_; clear hK K
      refine wpAny_done (by kernel_rfl) ?_ _
      go_wp2
      refine bodyPost_ret (v := .tuple #[.agg (zgV (fun _ => 0) 0 0), errV s.einvalid]) ?_ rfl ⟨_, .einvalid, rfl, hB.out⟩
      exact resultsRowTmp rfl _ _ _ _ _ _ _ rfl (rr.setRow (fun _ => 0) 0 0) Tryd.underlying92 rfl (by rw [zgV_size]; exact sizeZg) _ rfl
    · refine step_store_zg0 rr rfl _ _ _ rfl rfl rfl sizeZg ?_
      refine hK _ _ ?_; clear hK K
      refine wpAny_ready (rs := [1]) (by kernel_rfl) (by simp) ?_
      refine AllReady.cons rfl (fun K hK => ?_) AllReady.nil
      go_simp
      refine hK _ _ ?_; clear hK K
      refine wpAny_ready (rs := [3]) (by kernel_rfl) (by simp) ?_
      refine AllReady.cons rfl (fun K hK => ?_) AllReady.nil
      go_simp
      refine hK _ _ ?_; clear hK K
      refine wpAny_done (by kernel_rfl) ?_ _
      go_wp2
      refine bodyPost_ret (v := .tuple #[.agg (zgV (fun _ => 0) 0 0), errV s.einvalid]) ?_ rfl ⟨_, .einvalid, rfl, hB.out⟩
      exact resultsRowTmp rfl _ _ _ _ _ _ _ rfl (rr.setRow (fun _ => 0) 0 0) Tryd.underlying92 rfl (by rw [zgV_size]; exact sizeZg) _ rfl
  · have hC := b_0 h1 h2
    rw [hC, (os_0 hC).1, (os_0 hC).2.1, (os_0 hC).2.2]
    rw [h2] at hq
    have hzd := fun W => zoned_any f r z h1 h2 W
    have hzg := fun W => zoning_any (zF f r z) (fun k hk => by have := zF_bd h1 h2 hk; omega) W
    generalize maskN (lowP (zF f r z)) 24 = M1 at *
    generalize maskN (hiP (zF f r z)) 24 = M2 at *
    generalize czN (zF f r z) 24 = Cs at *
    generalize zF f r z = Zs at *
    have Hq := Lib.hid hq; have Hzd := Lib.hid hzd; have Hzg := Lib.hid hzg; clear hq hzd hzg h1 h2 hC
    go_enter Tryd.func63, Tryd.ntmps63
    go_wp2_with (refine wpList_load_arr s0 _ _ rfl rfl rfl Tryd.underlying26 sizeScn ?_)
    refine (Ho.out _).mono ?_; rintro e w1 ⟨rfl, hb1⟩
    have s1 := s0.below hb1 s0.lt
    have rr := r0.below hb1 r0.lt
    have k1 := k0.trans (hb1.mono k0.size)
    have P1 := Lib.hid (p0.below hb1 p0.lt)
    have q0 := P1.out.1
    have q1 := P1.out.2
    clear s0 p0 r0 k0 hb1
    go_wp2_with fail
    refine (Hq.out _).mono ?_; rintro e w2 ⟨rfl, hb2⟩
    have s1 := s1.below hb2 s1.lt
    have rr := rr.below hb2 rr.lt
    have k1 := k1.trans (hb2.mono k1.size)
    have P2 := Lib.hid (P1.out.below hb2 P1.out.lt)
    clear q0 q1 hb2
    have q0 := P2.out.1
    have q1 := P2.out.2
    go_wp2_with (refine wpList_load_arr s1 _ _ rfl rfl rfl Tryd.underlying26 sizeScn ?_)
    refine (Hzd.out _).mono ?_; rintro e w3 ⟨rfl, hb3⟩
    have rr := rr.below hb3 rr.lt
    have k1 := k1.trans (hb3.mono k1.size)
    clear s1 q0 q1 hb3
    go_wp2_with fail
    refine (Hzg.out _).mono ?_; rintro e w4 ⟨rfl, hb4⟩
    have rr := rr.below hb4 rr.lt
    have k1 := k1.trans (hb4.mono k1.size)
    clear hb4
    go_wp2_with (refine wpList_store_zg rr _ _ _ rfl rfl rfl rfl sizeZg ?_)
    refine bodyPost_ret (v := .tuple #[.agg (zgV Cs M1 M2), .nilIface]) ?_ rfl ⟨_, .ok, rfl, below_setRow k1 (by omega) _⟩
    exact resultsRowTmp rfl _ _ _ _ _ _ _ rfl (rr.setRow Cs M1 M2) Tryd.underlying92 rfl (by rw [zgV_size]; exact sizeZg) _ rfl

set_option maxRecDepth 100000 in
set_option maxHeartbeats 2000000 in
theorem OffScale_any (s : Ers) (f : Nat → Int) (_hf : S8 f) (r z : Int) (hr : -128 ≤ r) (hr' : r ≤ 127) (hz : -128 ≤ z) (hz' : z ≤ 127) (w : World) (hE : ErrEnv s w) :
    Calls Tryd.prog 32 #[.agg (arrV .i8 24 f), plcV r z] w fun e w' => e = .returned (.tuple #[.int .u32 ((osL f r z : Nat) : Int), .int .u32 ((osH f r z : Nat) : Int), .int .i64 (bC f r z)]) ∧ Below w.heap.size w w' := by
  have s0 := (HasArr.new w 26 .i8 24 f).alloc (.cells #[.int .i8 r, .int .i8 z] 37)
  have p0 := PlAt.new (w.alloc (.cells (arrV .i8 24 f) 26)) (g := w.heap.size + 1) (by simp) 37 r z
  have k0 : Below w.heap.size w ((w.alloc (.cells (arrV .i8 24 f) 26)).alloc (.cells #[.int .i8 r, .int .i8 z] 37)) := (((Below.refl _ _).alloc (Nat.le_refl _) _).alloc (by simp) _)
  have hk := fun W h => zoningBy_any s f r z hr hr' hz hz' W h
  generalize osL f r z = M1 at *
  generalize osH f r z = M2 at *
  generalize czV f r z = Cs at *
  generalize bC f r z = C at *
  have Hk := Lib.hid hk; clear hk
  have HE := Lib.hid hE; clear hE
  have K0 := Lib.hid k0; clear k0
  have q0 := p0.1
  have q1 := p0.2
  clear p0
  go_enter Tryd.func32, Tryd.ntmps32
  go_wp2_with (refine wpList_load_arr s0 _ _ rfl rfl rfl Tryd.underlying26 sizeScn ?_)
  refine (Hk.out _ (HE.out.below K0.out (Nat.le_refl _))).mono ?_; rintro e w1 ⟨v, hv, rfl, hb1⟩
  have k1 := K0.out.trans (hb1.mono K0.out.size)
  have z1 := ZgAt.zero w1 92 (g := w1.heap.size) rfl
  have z2 := z1.setRow Cs M1 M2
  have k2 := below_setRow (k1.alloc k1.size (.cells #[.int .i64 0, .int .i64 0, .int .i64 0, .int .i64 0, .int .i64 0, .int .i64 0, .int .i64 0, .int .i64 0, .int .i64 0, .int .i64 0, .int .i64 0, .int .u32 0, .int .u32 0] 92)) (b := w1.heap.size) k1.size (zgV Cs M1 M2)
  have cl := z2.celll
  have ch := z2.cellh
  have hcd := codeOf_any hv _ (HE.out.below k2 (Nat.le_refl _))
  have HV := Lib.hid hv; clear hv
  have K2 := Lib.hid k2; clear k2 hcd z2
  clear s0 hb1 q0 q1 k1
  go_wp2_with (refine wpList_store_zg z1 _ _ _ rfl rfl rfl rfl sizeZg ?_)
  clear z1
  generalize (w1.alloc (.cells #[.int .i64 0, .int .i64 0, .int .i64 0, .int .i64 0, .int .i64 0, .int .i64 0, .int .i64 0, .int .i64 0, .int .i64 0, .int .i64 0, .int .i64 0, .int .u32 0, .int .u32 0] 92)).setRow w1.heap.size (zgV Cs M1 M2) = W at *
  go_quiet ((go_at_call 65; exact (codeOf_any HV.out _ ((HE.out.below K2.out (Nat.le_refl _)).drewN _)).mono fun e w' ⟨he, hw⟩ => ⟨he, _, hw.symm⟩))
  go_wp2
  go_ret3
  exact ⟨rfl, below_drewP K2.out _⟩

set_option maxRecDepth 100000 in
set_option maxHeartbeats 2000000 in
theorem specCountZones_any (f : Nat → Int) (hf : S8 f) (r z : Int) (hr : -128 ≤ r) (hr' : r ≤ 127) (hz : -128 ≤ z) (hz' : z ≤ 127) (w : World) :
    Calls Tryd.prog 28 #[.agg (arrV .i8 24 f), plcV r z] w fun e w' => e = .returned (.tuple #[.agg (arrV .i64 11 (czV f r z)), .int .i64 ((cntF 32 (osL f r z) : Nat) : Int), .int .i64 ((cntF 32 (osH f r z) : Nat) : Int), .int .i64 (bC f r z)]) ∧ Below w.heap.size w w' := by
  have s0 := ((HasArr.new w 26 .i8 24 f).alloc (.cells #[.int .i8 r, .int .i8 z] 37)).alloc (.cells #[.int .i64 0, .int .i64 0, .int .i64 0, .int .i64 0, .int .i64 0, .int .i64 0, .int .i64 0, .int .i64 0, .int .i64 0, .int .i64 0, .int .i64 0] 44)
  have p0 := (PlAt.new (w.alloc (.cells (arrV .i8 24 f) 26)) (g := w.heap.size + 1) (by simp) 37 r z).alloc (.cells #[.int .i64 0, .int .i64 0, .int .i64 0, .int .i64 0, .int .i64 0, .int .i64 0, .int .i64 0, .int .i64 0, .int .i64 0, .int .i64 0, .int .i64 0] 44)
  have r0 := HasArr.zero11 ((w.alloc (.cells (arrV .i8 24 f) 26)).alloc (.cells #[.int .i8 r, .int .i8 z] 37)) 44 (b := w.heap.size + 1 + 1) (by simp)
  have k0 : Below w.heap.size w (((w.alloc (.cells (arrV .i8 24 f) 26)).alloc (.cells #[.int .i8 r, .int .i8 z] 37)).alloc (.cells #[.int .i64 0, .int .i64 0, .int .i64 0, .int .i64 0, .int .i64 0, .int .i64 0, .int .i64 0, .int .i64 0, .int .i64 0, .int .i64 0, .int .i64 0] 44)) := ((((Below.refl _ _).alloc (Nat.le_refl _) _).alloc (by simp) _).alloc (by simp; omega) _)
  have o1 := HasArr.zero11 (((w.alloc (.cells (arrV .i8 24 f) 26)).alloc (.cells #[.int .i8 r, .int .i8 z] 37)).alloc (.cells #[.int .i64 0, .int .i64 0, .int .i64 0, .int .i64 0, .int .i64 0, .int .i64 0, .int .i64 0, .int .i64 0, .int .i64 0, .int .i64 0, .int .i64 0] 44)) 44 (b := w.heap.size + 1 + 1 + 1) (by simp)
  have K0 := Lib.hid (And.intro ((s0.alloc (.cells #[.int .i64 0, .int .i64 0, .int .i64 0, .int .i64 0, .int .i64 0, .int .i64 0, .int .i64 0, .int .i64 0, .int .i64 0, .int .i64 0, .int .i64 0] 44)).rowOther (b' := w.heap.size + 1 + 1 + 1) (by omega) (arrV .i64 11 fun _ => 0)) (And.intro ((p0.alloc (.cells #[.int .i64 0, .int .i64 0, .int .i64 0, .int .i64 0, .int .i64 0, .int .i64 0, .int .i64 0, .int .i64 0, .int .i64 0, .int .i64 0, .int .i64 0] 44)).row (b := w.heap.size + 1 + 1 + 1) (by omega) (arrV .i64 11 fun _ => 0)) (And.intro ((r0.alloc (.cells #[.int .i64 0, .int .i64 0, .int .i64 0, .int .i64 0, .int .i64 0, .int .i64 0, .int .i64 0, .int .i64 0, .int .i64 0, .int .i64 0, .int .i64 0] 44)).rowOther (b' := w.heap.size + 1 + 1 + 1) (by omega) (arrV .i64 11 fun _ => 0)) (And.intro (o1.setRow .i64 fun _ => 0) (below_setRow (k0.alloc k0.size (.cells #[.int .i64 0, .int .i64 0, .int .i64 0, .int .i64 0, .int .i64 0, .int .i64 0, .int .i64 0, .int .i64 0, .int .i64 0, .int .i64 0, .int .i64 0] 44)) (b := w.heap.size + 1 + 1 + 1) (by omega) (arrV .i64 11 fun _ => 0))))))
  clear s0 p0 r0 k0
  have hq := fun W h => l06Both_any w.heap.size 26 f hf r z hr hr' hz hz' W h
  have q0 := K0.out.2.1.1
  have q1 := K0.out.2.1.2
  rcases b_or (f := f) (r := r) (z := z) with ⟨hC, hv, hp⟩ | hC
  · rw [hC] at hq
    rw [hC, (os_0 hC).1, (os_0 hC).2.1, (os_0 hC).2.2]
    have b := plcB_bd hp
    have hzn : ∀ k, k < 24 → ∀ W, Calls Tryd.prog 56 #[plcV r z, .int .i64 (f k)] W fun e w' => e = .returned (.int .i64 (zF f r z k)) ∧ Below W.heap.size W w' :=
      fun k (hk : k < 24) W => l06Zone_any r z (f k) b.1.1 b.1.2 b.2.1 b.2.2 (scnB_bd hv hk).1 (scnB_bd hv hk).2 W
    have hb := fun k (hk : k < 24) => scnB_bd hv hk
    have hzb := fun k (hk : k < 24) => zF_bd hv hp hk
    have ho := fun W h => l06Off_any w.heap.size 26 f r z hv hp W h
    have sz1 := fun W => l06Size_any (maskN (lowP (zF f r z)) 24) (by have := maskN_lt24 (lowP (zF f r z)) 24 (by omega); omega) W
    have sz2 := fun W => l06Size_any (maskN (hiP (zF f r z)) 24) (by have := maskN_lt24 (hiP (zF f r z)) 24 (by omega); omega) W
    have Hq := Lib.hid hq
    have Hz := Lib.hid hzn
    have Hb := Lib.hid hb
    have Hzb := Lib.hid hzb
    have Ho := Lib.hid ho
    have Sz1 := Lib.hid sz1
    have Sz2 := Lib.hid sz2
    clear hq hzn hb hzb hf hC hv hp ho sz1 sz2
    generalize zF f r z = Zs at *
    go_enter Tryd.func28, Tryd.ntmps28
    go_wp2_with (refine wpList_store_z11 o1 _ _ _ rfl rfl rfl rfl sizeA11 ?_)
    clear q0 q1
    refine (Hq.out _ K0.out.1).mono ?_; rintro e w1 ⟨rfl, hb1⟩
    have K1 := Lib.hid (And.intro (K0.out.1.below hb1 K0.out.1.lt) (And.intro (K0.out.2.1.below hb1 K0.out.2.1.lt) (And.intro (K0.out.2.2.1.below hb1 K0.out.2.2.1.lt) (And.intro (K0.out.2.2.2.1.below hb1 K0.out.2.2.2.1.lt) (K0.out.2.2.2.2.trans (hb1.mono K0.out.2.2.2.2.size))))))
    clear K0 hb1 o1
    go_wp2_with fail
    go_loopw [10] (fun i wr => ∃ k : Nat, k ≤ 24 ∧ i = .int .i64 (k : Int) ∧ HasArr wr w.heap.size 26 .i8 24 f ∧ PlAt wr (w.heap.size + 1) r z ∧ HasArr wr (w.heap.size + 1 + 1) 44 .i64 11 (fun _ => 0) ∧ HasArr wr (w.heap.size + 1 + 1 + 1) 44 .i64 11 (czN Zs k) ∧ Below w.heap.size w wr) (fun i _ => 24 - (intOf i).toNat)
    case atStart => exact ⟨0, by omega, rfl, K1.out.1, K1.out.2.1, K1.out.2.2.1, K1.out.2.2.2.1.congr (fun j _ => rfl), K1.out.2.2.2.2⟩
    case round =>
      obtain ⟨k, hk, rfl, h1, h2, h3, h4, hB⟩ := hrel
      clear K1
      by_cases hkn : k < 24
      · have q := Hz.out k hkn
        have bX := Hb.out k hkn
        have bZ := Hzb.out k hkn
        have w0 : (0 : Int) ≤ (k : Int) := by omega
        have w1 : (k : Int) < 24 := by omega
        have c1 := h1.cell hkn
        have p0 := h2.1
        have p1 := h2.2
        have hof := fun (h : Zs k < 0 ∨ 11 ≤ Zs k) j (hj : j < 11) => czN_off h hj
        have hon := fun (n : Nat) (h : Zs k = (n : Int)) j => czN_on h j
        have hin := fun W => l00In_any (Zs k) 0 10 W
        have Hof := Lib.hid hof; have Hon := Lib.hid hon; clear hof hon
        generalize f k = X at *
        have e1 : IntKind.i64.wrap X = X := IntWalk.i64_in _ (by omega)
        have Q := Lib.hid q; clear q
        have K := Lib.hid (And.intro h1 (And.intro h2 (And.intro h3 (And.intro h4 hB)))); clear h1 h2 h3 h4 hB
        rcases hi : inB (Zs k) 0 10 with _ | _
        all_goals
          rw [hi] at hin
          have Hin := Lib.hid hin; clear hin
          have Hi := Lib.hid hi; clear hi
          go_wp2_with fail
          refine wp_region_quietD (Below wr.heap.size wr) (by kernel_rfl) (by kernel_rfl) (below_drew1 _) ?_
          have n0 := below_nonempty wr
          have uc := fun (x : WIn (Below wr.heap.size wr)) => inCell c1 x
          have u0 := fun (x : WIn (Below wr.heap.size wr)) => inCell p0 x
          have u1 := fun (x : WIn (Below wr.heap.size wr)) => inCell p1 x
          repeat (go_big_quiet_step ((go_at_call 56; exact inCall _ (Q.out _))))
          refine wpQuiet_nil ?_
          rintro _ ⟨⟨w2, hb2⟩, rfl⟩
          have L := Lib.hid (And.intro (K.out.1.below hb2 K.out.1.lt) (And.intro (K.out.2.1.below hb2 K.out.2.1.lt) (And.intro (K.out.2.2.1.below hb2 K.out.2.2.1.lt) (And.intro (K.out.2.2.2.1.below hb2 K.out.2.2.2.1.lt) (K.out.2.2.2.2.trans (Below.mono hb2 K.out.2.2.2.2.size))))))
          clear K hb2 n0 uc u0 u1 c1 p0 p1 e1
        · go_wp2_with fail
          refine (Hin.out _).mono ?_; rintro e w3 ⟨rfl, rfl⟩
          go_wp2_with fail
          go_roundw
          case rel => exact ⟨k + 1, by omega, by go_num, L.out.1, L.out.2.1, L.out.2.2.1, L.out.2.2.2.1.congr (fun j hj => (Hof.out (by have := inB_false.1 Hi.out; omega) j hj).symm), L.out.2.2.2.2⟩
          case measure => simp [intOf]; omega
        · have bi := inB_true.1 Hi.out
          obtain ⟨n, hn⟩ := Int.eq_ofNat_of_zero_le bi.1
          have hnl : n < 11 := by omega
          have HN := Lib.hid (Hon.out n hn)
          have cb := czN_bd Zs k n
          have cc := L.out.2.2.2.1.cell hnl
          have cf := L.out.2.2.2.1.free n
          rw [hn] at Hin bi
          generalize czN Zs k n = C at *
          generalize hZk : Zs k = Z at *
          subst hn
          clear hZk
          have w2' : (n : Int) < 11 := by omega
          go_wp2_with fail
          refine (Hin.out _).mono ?_; rintro e w3 ⟨rfl, rfl⟩
          go_wp2_with fail
          go_roundw
          case rel => exact ⟨k + 1, by omega, by go_num, L.out.1.other (a := ⟨w.heap.size + 1 + 1 + 1, n, none⟩) (by simp; omega) _, L.out.2.1.other (p := ⟨w.heap.size + 1 + 1 + 1, n, none⟩) (by first | (simp; done) | (simp; omega)) _, L.out.2.2.1.other (a := ⟨w.heap.size + 1 + 1 + 1, n, none⟩) (by simp) _, (L.out.2.2.2.1.set n (C + 1)).congr (fun j _ => HN.out j), L.out.2.2.2.2.setCell (p := ⟨w.heap.size + 1 + 1 + 1, n, none⟩) (by simp; omega) _⟩
          case measure => simp [intOf]; omega
      · obtain rfl : k = 24 := by omega
        have q0 := h2.1
        have q1 := h2.2
        have H1 := Lib.hid h1; have H3 := Lib.hid h3; have H4 := Lib.hid h4; have HB := Lib.hid hB; clear h1 h2 h3 h4 hB
        go_wp2_with fail
        refine (Ho.out _ H1.out).mono ?_; rintro e w2 ⟨rfl, hb2⟩
        have h3 := H3.out.below hb2 H3.out.lt
        have h4 := H4.out.below hb2 H4.out.lt
        have k2 := HB.out.trans (hb2.mono HB.out.size)
        clear q0 q1 hb2
        go_wp2_with fail
        refine wp_region_quiet_tail 5 (fun w' => ∃ q, w' = w2.drewN q) (by kernel_rfl) (by kernel_rfl) ⟨1, rfl⟩ ?_
        simp only [List.take_succ_cons, List.take_zero, List.drop_succ_cons, List.drop_zero]
        refine wpQuiet_load_arr (fun W hW => by obtain ⟨q, rfl⟩ := hW; exact h4.drewN q) 44 (.tmp 8) rfl rfl rfl Tryd.underlying44 sizeA11 ?_
        go_frame
        quiet_step (fail)
        quiet_step ((go_at_call 62; exact (Sz1.out _).mono fun e w' ⟨he, hw⟩ => ⟨he, _, hw.symm⟩))
        quiet_step (fail)
        quiet_step ((go_at_call 62; exact (Sz2.out _).mono fun e w' ⟨he, hw⟩ => ⟨he, _, hw.symm⟩))
        refine wpQuiet_nil ?_
        rintro _ ⟨q, rfl⟩
        go_wp2_with (refine wpList_store_arr (h3.drewN q) _ _ _ rfl rfl rfl rfl sizeA11 ?_)
        refine bodyPost_ret (v := .tuple #[.agg (arrV .i64 11 (czN Zs 24)), .int .i64 ((cntF 32 (maskN (lowP Zs) 24) : Nat) : Int), .int .i64 ((cntF 32 (maskN (hiP Zs) 24) : Nat) : Int), .int .i64 0]) ?_ rfl ⟨rfl, below_setRow (below_drewP k2 q) (by omega) _⟩
        exact resultsRowTmp3 rfl _ _ _ _ _ _ _ rfl ((h3.drewN q).setRow .i64 (czN Zs 24)) Tryd.underlying44 rfl (by rw [arrV_size]; exact sizeA11) _ _ _ rfl rfl rfl
  · rw [hC] at hq
    rw [hC, (os_1 hC).1, (os_1 hC).2.1, (os_1 hC).2.2, cntF_0]
    have Hq := Lib.hid hq; clear hq hC hf
    go_enter Tryd.func28, Tryd.ntmps28
    go_wp2_with (refine wpList_store_z11 o1 _ _ _ rfl rfl rfl rfl sizeA11 ?_)
    clear q0 q1
    refine (Hq.out _ K0.out.1).mono ?_; rintro e w1 ⟨rfl, hb1⟩
    have r1 := K0.out.2.2.1.below hb1 K0.out.2.2.1.lt
    have o2 := K0.out.2.2.2.1.below hb1 K0.out.2.2.2.1.lt
    have k1 := K0.out.2.2.2.2.trans (hb1.mono K0.out.2.2.2.2.size)
    clear K0 hb1 o1
    go_wp2_with (first | (refine wpList_load_arr o2 _ _ rfl rfl rfl Tryd.underlying44 sizeA11 ?_) | (refine wpList_store_arr r1 _ _ _ rfl rfl rfl rfl sizeA11 ?_))
    refine bodyPost_ret (v := .tuple #[.agg (arrV .i64 11 fun _ => 0), .int .i64 0, .int .i64 0, .int .i64 1]) ?_ rfl ⟨rfl, below_setRow k1 (by omega) _⟩
    exact resultsRowTmp3 rfl _ _ _ _ _ _ _ rfl (r1.setRow .i64 fun _ => 0) Tryd.underlying44 rfl (by rw [arrV_size]; exact sizeA11) _ _ _ rfl rfl rfl

set_option maxRecDepth 100000 in
set_option maxHeartbeats 2000000 in
theorem CountZones_any (s : Ers) (f : Nat → Int) (_hf : S8 f) (r z : Int) (hr : -128 ≤ r) (hr' : r ≤ 127) (hz : -128 ≤ z) (hz' : z ≤ 127) (w : World) (hE : ErrEnv s w) :
    Calls Tryd.prog 29 #[.agg (arrV .i8 24 f), plcV r z] w fun e w' => e = .returned (.tuple #[.agg (arrV .i64 11 (czV f r z)), .int .i64 ((cntF 32 (osL f r z) : Nat) : Int), .int .i64 ((cntF 32 (osH f r z) : Nat) : Int), .int .i64 (bC f r z)]) ∧ Below w.heap.size w w' := by
  have s0 := ((HasArr.new w 26 .i8 24 f).alloc (.cells #[.int .i8 r, .int .i8 z] 37)).alloc (.cells #[.int .i64 0, .int .i64 0, .int .i64 0, .int .i64 0, .int .i64 0, .int .i64 0, .int .i64 0, .int .i64 0, .int .i64 0, .int .i64 0, .int .i64 0] 44)
  have p0 := (PlAt.new (w.alloc (.cells (arrV .i8 24 f) 26)) (g := w.heap.size + 1) (by simp) 37 r z).alloc (.cells #[.int .i64 0, .int .i64 0, .int .i64 0, .int .i64 0, .int .i64 0, .int .i64 0, .int .i64 0, .int .i64 0, .int .i64 0, .int .i64 0, .int .i64 0] 44)
  have r0 := HasArr.zero11 ((w.alloc (.cells (arrV .i8 24 f) 26)).alloc (.cells #[.int .i8 r, .int .i8 z] 37)) 44 (b := w.heap.size + 1 + 1) (by simp)
  have k0 : Below w.heap.size w (((w.alloc (.cells (arrV .i8 24 f) 26)).alloc (.cells #[.int .i8 r, .int .i8 z] 37)).alloc (.cells #[.int .i64 0, .int .i64 0, .int .i64 0, .int .i64 0, .int .i64 0, .int .i64 0, .int .i64 0, .int .i64 0, .int .i64 0, .int .i64 0, .int .i64 0] 44)) := ((((Below.refl _ _).alloc (Nat.le_refl _) _).alloc (by simp) _).alloc (by simp; omega) _)
  have hk := fun W h => zoningBy_any s f r z hr hr' hz hz' W h
  have cn1 := fun W => countF_any (osL f r z) (osL_lt f r z) W
  have cn2 := fun W => countF_any (osH f r z) (osH_lt f r z) W
  generalize osL f r z = M1 at *
  generalize osH f r z = M2 at *
  generalize czV f r z = Cs at *
  generalize bC f r z = C at *
  have Hk := Lib.hid hk; clear hk
  have Cn1 := Lib.hid cn1; have Cn2 := Lib.hid cn2; clear cn1 cn2
  have HE := Lib.hid hE; clear hE
  have K0 := Lib.hid k0; clear k0
  have q0 := p0.1
  have q1 := p0.2
  clear p0
  go_enter Tryd.func29, Tryd.ntmps29
  go_wp2_with (refine wpList_load_arr s0 _ _ rfl rfl rfl Tryd.underlying26 sizeScn ?_)
  refine (Hk.out _ (HE.out.below K0.out (Nat.le_refl _))).mono ?_; rintro e w1 ⟨v, hv, rfl, hb1⟩
  have k1 := K0.out.trans (hb1.mono K0.out.size)
  have r1 := r0.below hb1 r0.lt
  have z1 := ZgAt.zero w1 92 (g := w1.heap.size) rfl
  have z2 := z1.setRow Cs M1 M2
  have k2 := below_setRow (k1.alloc k1.size (.cells #[.int .i64 0, .int .i64 0, .int .i64 0, .int .i64 0, .int .i64 0, .int .i64 0, .int .i64 0, .int .i64 0, .int .i64 0, .int .i64 0, .int .i64 0, .int .u32 0, .int .u32 0] 92)) (b := w1.heap.size) k1.size (zgV Cs M1 M2)
  have r2 := (r1.alloc (.cells #[.int .i64 0, .int .i64 0, .int .i64 0, .int .i64 0, .int .i64 0, .int .i64 0, .int .i64 0, .int .i64 0, .int .i64 0, .int .i64 0, .int .i64 0, .int .u32 0, .int .u32 0] 92)).rowOther (b' := w1.heap.size) (by have := r1.lt; omega) (zgV Cs M1 M2)
  have HV := Lib.hid hv; clear hv
  have K2 := Lib.hid k2; clear k2
  clear s0 hb1 q0 q1 k1 r0 r1
  go_wp2_with (refine wpList_store_zg z1 _ _ _ rfl rfl rfl rfl sizeZg ?_)
  clear z1
  generalize (w1.alloc (.cells #[.int .i64 0, .int .i64 0, .int .i64 0, .int .i64 0, .int .i64 0, .int .i64 0, .int .i64 0, .int .i64 0, .int .i64 0, .int .i64 0, .int .i64 0, .int .u32 0, .int .u32 0] 92)).setRow w1.heap.size (zgV Cs M1 M2) = W at *
  have Z2 := Lib.hid z2; clear z2
  have R2 := Lib.hid r2; clear r2
  have HE2 := Lib.hid (HE.out.below K2.out (Nat.le_refl _)); clear HE
  have cl := Z2.out.celll
  have ch := Z2.out.cellh
  refine wp_region_quiet_tail 10 (fun w' => ∃ x : WIn (Below W.heap.size W), w' = x.w) (by kernel_rfl) (by kernel_rfl) ⟨⟨_, below_drew1 _⟩, rfl⟩ ?_
  simp only [List.take_succ_cons, List.take_zero, List.drop_succ_cons, List.drop_zero]
  have n0 := below_nonempty W
  have u0 := fun (x : WIn (Below W.heap.size W)) => inCell cl x
  have u1 := fun (x : WIn (Below W.heap.size W)) => inCell ch x
  have hcd := Lib.hid (fun (x : WIn (Below W.heap.size W)) => codeOf_any HV.out x.w (HE2.out.below x.ok (Nat.le_refl _)))
  quiet_step (fail)
  refine wpQuiet_load_zgc (fun V hW => by obtain ⟨x, rfl⟩ := hW; exact Z2.out.below x.ok Z2.out.lt) 44 (.tmp 16) rfl rfl rfl Tryd.underlying44 sizeA11 ?_
  go_frame
  quiet_step (fail)
  quiet_step (fail)
  quiet_step ((go_at_call 64; exact inCall _ (Cn1.out _)))
  quiet_step (fail)
  quiet_step (fail)
  quiet_step ((go_at_call 64; exact inCall _ (Cn2.out _)))
  quiet_step (fail)
  quiet_step ((go_at_call 65; exact inCallS _ (hcd.out _)))
  refine wpQuiet_nil ?_
  rintro _ ⟨⟨w5, hb5⟩, rfl⟩
  have r3 := R2.out.below hb5 R2.out.lt
  have k5 := K2.out.trans (Below.mono hb5 K2.out.size)
  clear hb5 u0 u1 n0 cl ch
  go_wp2_with (refine wpList_store_arr r3 _ _ _ rfl rfl rfl rfl sizeA11 ?_)
  refine bodyPost_ret (v := .tuple #[.agg (arrV .i64 11 Cs), .int .i64 ((cntF 32 M1 : Nat) : Int), .int .i64 ((cntF 32 M2 : Nat) : Int), .int .i64 C]) ?_ rfl ⟨rfl, below_setRow k5 (by omega) _⟩
  exact resultsRowTmp3 rfl _ _ _ _ _ _ _ rfl (r3.setRow .i64 Cs) Tryd.underlying44 rfl (by rw [arrV_size]; exact sizeA11) _ _ _ rfl rfl rfl

set_option maxRecDepth 100000 in
set_option maxHeartbeats 1000000 in
theorem eqInt64A11_same (V : Nat → Int) (w : World) :
    Calls Tryd.prog 30 #[.agg (arrV .i64 11 V), .agg (arrV .i64 11 V)] w fun e w' => e = .returned (.bool true) ∧ Below w.heap.size w w' := by
  have a1 := (HasArr.new w 44 .i64 11 V).alloc (.cells (arrV .i64 11 V) 44)
  have a2 : HasArr ((w.alloc (.cells (arrV .i64 11 V) 44)).alloc (.cells (arrV .i64 11 V) 44)) (w.heap.size + 1) 44 .i64 11 V := by
    have h := HasArr.new (w.alloc (.cells (arrV .i64 11 V) 44)) 44 .i64 11 V
    simpa using h
  have k0 := ((Below.refl w.heap.size w).alloc (Nat.le_refl _) (.cells (arrV .i64 11 V) 44)).alloc (by simp) (.cells (arrV .i64 11 V) 44)
  have K0 := Lib.hid (And.intro a1 (And.intro a2 k0)); clear a1 a2 k0
  go_enter Tryd.func30, Tryd.ntmps30
  go_wp2_with fail
  go_loopw [5] (fun i wr => ∃ k : Nat, k ≤ 11 ∧ i = .int .i64 (k : Int) ∧ HasArr wr w.heap.size 44 .i64 11 V ∧ HasArr wr (w.heap.size + 1) 44 .i64 11 V ∧ Below w.heap.size w wr) (fun i _ => 11 - (intOf i).toNat)
  case atStart => exact ⟨0, by omega, rfl, K0.out⟩
  case round =>
    obtain ⟨k, hk, rfl, h1, h2, hB⟩ := hrel
    clear K0
    by_cases hkn : k < 11
    · have c1 := h1.cell hkn
      have c2 := h2.cell hkn
      have w0 : (0 : Int) ≤ (k : Int) := by omega
      have w1 : (k : Int) < 11 := by omega
      have K := Lib.hid (And.intro h1 (And.intro h2 hB)); clear h1 h2 hB
      generalize V k = X at *
      go_wp2_with fail
      go_quiet (fail)
      go_wp2
      go_roundw
      case rel => exact ⟨k + 1, by omega, by go_num, K.out.1.drewN _, K.out.2.1.drewN _, below_drewP K.out.2.2 _⟩
      case measure => simp [intOf]; omega
    · obtain rfl : k = 11 := by omega
      go_wp2_with fail
      go_ret
      exact ⟨rfl, hB⟩
end Go.Proofs.YtaanboedhabheaaDoor

/-
  The light of each cell: what the program's functions return. Condition: at most 1048576 steps; its variables hold their own errors and its table of times.
-/
import Derived.Test.YtnlcjbobfhmnmaaDoorLightS2
import Derived.Test.YtnlcjbobfhmnmaaDoorShoX
import Derived.Test.YtnlcjbobfhmnmaaDoorArrTools
import Derived.Lib.MinMax
namespace Go.Proofs.YtnlcjbobfhmnmaaDoor
open Go.RowKit

theorem step_store_zI {P : Program} {ops : Array Oper} {o : Oper} {a : Act} {w : World} {K : Act → World → Prop} {Q : Exit → Act → World → Prop} {E : Prop} {b : Nat} {T : TypeId} {κ : IntKind} {f : Nat → Int}
    (h : HasArr w b T κ 64 f) (hg : o.guard = none) (ty : TypeId) (x y : Operand) (ho : o.op = .store ty x y) (hx : a.eval x = .pointer (some ⟨b, 0, none⟩)) (hy : a.eval y = .agg #[.int .i64 0, .int .i64 0, .int .i64 0, .int .i64 0, .int .i64 0, .int .i64 0, .int .i64 0, .int .i64 0, .int .i64 0, .int .i64 0, .int .i64 0, .int .i64 0, .int .i64 0, .int .i64 0, .int .i64 0, .int .i64 0, .int .i64 0, .int .i64 0, .int .i64 0, .int .i64 0, .int .i64 0, .int .i64 0, .int .i64 0, .int .i64 0, .int .i64 0, .int .i64 0, .int .i64 0, .int .i64 0, .int .i64 0, .int .i64 0, .int .i64 0, .int .i64 0, .int .i64 0, .int .i64 0, .int .i64 0, .int .i64 0, .int .i64 0, .int .i64 0, .int .i64 0, .int .i64 0, .int .i64 0, .int .i64 0, .int .i64 0, .int .i64 0, .int .i64 0, .int .i64 0, .int .i64 0, .int .i64 0, .int .i64 0, .int .i64 0, .int .i64 0, .int .i64 0, .int .i64 0, .int .i64 0, .int .i64 0, .int .i64 0, .int .i64 0, .int .i64 0, .int .i64 0, .int .i64 0, .int .i64 0, .int .i64 0, .int .i64 0, .int .i64 0]) (hi : (P.info? ty).map (·.size) = some 64)
    (hK : K (a.put o.dst undef) (w.setRow b (arrV .i64 64 fun _ => 0))) : if Region.wanted o (yielded ops a.tmps) = true then Oper.wp P o a w K Q else E :=
  step_store_arr (g := fun _ => 0) h hg ty x y ho hx (hy.trans (by rw [zeroArrI])) hi hK

set_option maxHeartbeats 1000000 in
theorem hasCell_any (M c : Nat) (hM : M < 18446744073709551616) (hc : c < 64) (w : World) : Calls Tryd.prog 118 #[.int .u64 (M : Int), .int .i64 (c : Int)] w fun e w' => e = .returned (.bool (M.testBit c)) ∧ w = w' := by
  have hdl : M / 2 ^ c < 18446744073709551616 := Nat.lt_of_le_of_lt (Nat.div_le_self _ _) hM
  rcases hb : M.testBit c with _ | _
  · have hc2 : M / 2 ^ c % 2 = 0 := by
      rw [Nat.testBit_eq_decide_div_mod_eq] at hb
      have := of_decide_eq_false hb; omega
    have Hc := Lib.hid hc2; clear hc2 hb
    go_enter Tryd.func118, Tryd.ntmps118
    go_wp2_with (first | (refine wpList_yield rfl (run_shrM (κ := .i64) (m := M) (k := c) rfl rfl rfl hc) ?_) | (refine wpList_yield rfl (run_and1c (m := M / 2 ^ c) (c := 0) rfl rfl rfl hdl Hc.out) ?_))
    go_ret
    exact ⟨rfl, rfl⟩
  · have hc2 : M / 2 ^ c % 2 = 1 := by
      rw [Nat.testBit_eq_decide_div_mod_eq] at hb
      exact of_decide_eq_true hb
    have Hc := Lib.hid hc2; clear hc2 hb
    go_enter Tryd.func118, Tryd.ntmps118
    go_wp2_with (first | (refine wpList_yield rfl (run_shrM (κ := .i64) (m := M) (k := c) rfl rfl rfl hc) ?_) | (refine wpList_yield rfl (run_and1c (m := M / 2 ^ c) (c := 1) rfl rfl rfl hdl Hc.out) ?_))
    go_ret
    exact ⟨rfl, rfl⟩

set_option maxHeartbeats 1000000 in
theorem idleTimeOn_any (c : Int) (w : World) : Calls Tryd.prog 116 #[.agg #[], .int .i64 c] w fun e w' => e = .returned (.int .i64 0) ∧ Below w.heap.size w w' := by
  go_enter Tryd.func116, Tryd.ntmps116
  go_wp2_with fail
  go_ret
  exact ⟨rfl, (Below.refl _ _).alloc (Nat.le_refl _) _⟩

set_option maxHeartbeats 1000000 in
theorem expTimeOn_any (M c : Nat) (t : Int) (hM : M < 18446744073709551616) (hc : c < 64) (h0 : 0 ≤ t) (h1 : t ≤ 36) (w : World) (hT : TimEnv w) :
    Calls Tryd.prog 117 #[.agg #[.int .u64 (M : Int), .int .i8 t], .int .i64 (c : Int)] w fun e w' => e = .returned (.int .i64 (if M.testBit c = true then tm t else 0)) ∧ Below w.heap.size w w' := by
  have k0 := (Below.refl w.heap.size w).alloc (Nat.le_refl _) (.cells #[.int .u64 (M : Int), .int .i8 t] 137)
  have hT1 := hT.below k0 (Nat.le_refl _)
  have hh := fun W => hasCell_any M c hM hc W
  have ht := fun W h => timeAt_any t h0 (by omega) W h
  have HT1 := Lib.hid hT1; clear hT1 hT
  rcases hb : M.testBit c with _ | _
  · rw [hb] at hh
    have Hh := Lib.hid hh; clear hh ht
    rw [if_neg (by decide)]
    go_enter Tryd.func117, Tryd.ntmps117
    go_wp2_with fail
    refine (Hh.out _).mono ?_; rintro e w1 ⟨rfl, rfl⟩
    go_wp2_with fail
    go_ret
    exact ⟨rfl, k0⟩
  · rw [hb] at hh
    have Hh := Lib.hid hh; clear hh
    rw [if_pos rfl]
    generalize tm t = V at *
    have Ht := Lib.hid ht; clear ht
    go_enter Tryd.func117, Tryd.ntmps117
    go_wp2_with fail
    refine (Hh.out _).mono ?_; rintro e w1 ⟨rfl, rfl⟩
    go_wp2_with fail
    refine (Ht.out _ HT1.out).mono ?_; rintro e w1 ⟨rfl, rfl⟩
    go_wp2_with fail
    go_ret
    exact ⟨rfl, k0⟩

theorem inv_i (x i : Value) (w : World) : (invoke (.fn (.method "loop.example/g01301/impl.timeOn") #[]) #[.iface 135 x, i]).run Tryd.prog w = .ok (.enter 116 #[x, i]) w := by kernel_rfl
theorem inv_e (x i : Value) (w : World) : (invoke (.fn (.method "loop.example/g01301/impl.timeOn") #[]) #[.iface 137 x, i]).run Tryd.prog w = .ok (.enter 117 #[x, i]) w := by kernel_rfl
/-- The time of a cell in a step, by whichever method. -/
theorem timeOn_inv (m t : Int) (c : Nat) (hm : 0 ≤ m ∧ m ≤ 18446744073709551615) (h0 : 0 ≤ t) (h1 : t ≤ 36) (hc : c < 64) :
    ∃ F aa, (∀ w, (invoke (.fn (.method "loop.example/g01301/impl.timeOn") #[]) #[expV m t, .int .i64 (c : Int)]).run Tryd.prog w = .ok (.enter F aa) w) ∧
      ∀ W, TimEnv W → Calls Tryd.prog F aa W fun e w' => e = .returned (.int .i64 (if bitB m c = true then tm t else 0)) ∧ Below W.heap.size W w' := by
  unfold expV bitB
  by_cases h : m = 0
  · subst h
    rw [if_pos rfl]
    refine ⟨_, _, fun w => inv_i _ _ w, fun W _ => ?_⟩
    have e : (0 : Int).toNat.testBit c = false := by simp
    rw [e, if_neg (by decide)]
    exact idleTimeOn_any _ W
  · rw [if_neg h]
    refine ⟨_, _, fun w => inv_e _ _ w, fun W hW => ?_⟩
    have e : m = ((m.toNat : Nat) : Int) := by omega
    have h2 := expTimeOn_any m.toNat c t (by omega) hc h0 h1 W hW
    rw [← e] at h2
    exact h2

/-- The times, or none. -/
def timV (n : Nat) (fs es : Nat → Int) : Nat → Int := if stpB n es = true then addT fs es n else fun _ => 0
theorem tim_1 {n : Nat} {fs es : Nat → Int} (h : stpB n es = false) : timV n fs es = fun _ => 0 := by simp [timV, h]
theorem tim_0 {n : Nat} {fs es : Nat → Int} (h : stpB n es = true) : timV n fs es = addT fs es n := by simp [timV, h]
theorem mixT_add (fs es : Nat → Int) (k c j : Nat) : upd (mixT fs es k c) c (addT fs es k c + (if bitB (fs k) c = true then tm (es k) else 0)) j = mixT fs es k (c + 1) j := by
  rcases h : bitB (fs k) c with _ | _
  · rw [if_neg (by decide), Int.add_zero]
    refine Eq.trans ?_ (mixT_no h j)
    unfold upd
    split
    · rename_i e; subst e; rw [mixT_at]
    · rfl
  · rw [if_pos rfl]; exact mixT_yes h j

set_option maxRecDepth 100000 in
set_option maxHeartbeats 4000000 in
theorem timesOn_any (s : Ers) (b n cap : Nat) (fs es : Nat → Int) (hn : n ≤ 1048576) (hs : SmallS n fs es) (w : World) (hr : StRow w b n fs es) (hE : ErrEnv s w) (hT : TimEnv w) :
    Calls Tryd.prog 58 #[.slice (some ⟨b, 0, none⟩) n cap] w fun e w' => ∃ v, e = .returned (.tuple #[.agg (arrV .i64 64 (timV n fs es)), v]) ∧ IsCode s v (mirC n es) ∧ Below w.heap.size w w' := by
  have a0 := HasArr.zeroI w rfl
  have k0 := (Below.refl w.heap.size w).alloc (Nat.le_refl _) (.cells #[.int .i64 0, .int .i64 0, .int .i64 0, .int .i64 0, .int .i64 0, .int .i64 0, .int .i64 0, .int .i64 0, .int .i64 0, .int .i64 0, .int .i64 0, .int .i64 0, .int .i64 0, .int .i64 0, .int .i64 0, .int .i64 0, .int .i64 0, .int .i64 0, .int .i64 0, .int .i64 0, .int .i64 0, .int .i64 0, .int .i64 0, .int .i64 0, .int .i64 0, .int .i64 0, .int .i64 0, .int .i64 0, .int .i64 0, .int .i64 0, .int .i64 0, .int .i64 0, .int .i64 0, .int .i64 0, .int .i64 0, .int .i64 0, .int .i64 0, .int .i64 0, .int .i64 0, .int .i64 0, .int .i64 0, .int .i64 0, .int .i64 0, .int .i64 0, .int .i64 0, .int .i64 0, .int .i64 0, .int .i64 0, .int .i64 0, .int .i64 0, .int .i64 0, .int .i64 0, .int .i64 0, .int .i64 0, .int .i64 0, .int .i64 0, .int .i64 0, .int .i64 0, .int .i64 0, .int .i64 0, .int .i64 0, .int .i64 0, .int .i64 0, .int .i64 0] 80)
  have hrk := hr.below k0 hr.lt
  have hk := fun W => ValidSteps_any b n cap fs es hn hs W
  rcases h1 : stpB n es with _ | _
  · rw [mir_1 h1, tim_1 h1]
    rw [h1] at hk
    have Hk := Lib.hid hk; clear hk h1 hT
    go_enter Tryd.func58, Tryd.ntmps58
    go_wp2_with fail
    refine (Hk.out _ hrk).mono ?_; rintro e w1 ⟨rfl, hb1⟩
    have b2 := a0.below hb1 a0.lt
    have k1 := k0.trans (hb1.mono k0.size)
    have ce := (hE.below k1 (Nat.le_refl _)).c_einvalid
    have hB := Lib.hid (below_setRow k1.drew (b := w.heap.size) (by omega) (arrV .i64 64 fun _ => 0))
    have cg : (w1.drew.setRow w.heap.size (arrV .i64 64 fun _ => 0)).cell? ⟨0, 0, none⟩ = some (errV s.einvalid) := (hE.below hB.out (Nat.le_refl _)).c_einvalid
    clear a0 k0 hb1 k1
    go_wp2_with fail
    refine wp_region_any (by kernel_rfl) ?_
    refine wpAny_take (i := 0) (v := .agg #[.int .i64 0, .int .i64 0, .int .i64 0, .int .i64 0, .int .i64 0, .int .i64 0, .int .i64 0, .int .i64 0, .int .i64 0, .int .i64 0, .int .i64 0, .int .i64 0, .int .i64 0, .int .i64 0, .int .i64 0, .int .i64 0, .int .i64 0, .int .i64 0, .int .i64 0, .int .i64 0, .int .i64 0, .int .i64 0, .int .i64 0, .int .i64 0, .int .i64 0, .int .i64 0, .int .i64 0, .int .i64 0, .int .i64 0, .int .i64 0, .int .i64 0, .int .i64 0, .int .i64 0, .int .i64 0, .int .i64 0, .int .i64 0, .int .i64 0, .int .i64 0, .int .i64 0, .int .i64 0, .int .i64 0, .int .i64 0, .int .i64 0, .int .i64 0, .int .i64 0, .int .i64 0, .int .i64 0, .int .i64 0, .int .i64 0, .int .i64 0, .int .i64 0, .int .i64 0, .int .i64 0, .int .i64 0, .int .i64 0, .int .i64 0, .int .i64 0, .int .i64 0, .int .i64 0, .int .i64 0, .int .i64 0, .int .i64 0, .int .i64 0, .int .i64 0]) rfl (by kernel_rfl) (by kernel_rfl) (by kernel_rfl) (fun _ _ _ h => h) (Or.inl ⟨by rfl, by intro w; go_simp⟩) ?_
    change wpAny _ _ _ _ _ _ _ (World.drew _)
    refine wpAny_ready (rs := [1, 2]) (by kernel_rfl) (by simp) ?_
    refine AllReady.cons rfl (fun K hK => ?_) (AllReady.cons rfl (fun K hK => ?_) AllReady.nil)
    · go_simp
      refine hK _ _ ?_; clear hK K
      refine wpAny_ready (rs := [2]) (by kernel_rfl) (by simp) ?_
      refine AllReady.cons rfl (fun K hK => ?_) AllReady.nil
      refine step_store_zI b2.drew rfl _ _ _ rfl rfl rfl sizeI64 ?_
      refine hK _ _ ?_; clear hK K
      refine wpAny_ready (rs := [3]) (by kernel_rfl) (by simp) ?_
      refine AllReady.cons rfl (fun K hK => ?_) AllReady.nil
      go_simp
      refine hK _ _ ?_; clear hK K
      refine wpAny_done (by kernel_rfl) ?_ _
      go_wp2
      refine bodyPost_ret (v := .tuple #[.agg (arrV .i64 64 (fun _ => 0)), errV s.einvalid]) ?_ rfl ⟨_, rfl, .einvalid, hB.out⟩
      exact results_row_tmp rfl _ _ _ _ _ _ _ rfl (b2.drew.setRow .i64 fun _ => 0) Tryd.underlying80 rfl (by rw [arrV_size]; exact sizeI64) _ rfl
    · refine step_store_zI b2.drew rfl _ _ _ rfl rfl rfl sizeI64 ?_
      refine hK _ _ ?_; clear hK K
      refine wpAny_ready (rs := [1]) (by kernel_rfl) (by simp) ?_
      refine AllReady.cons rfl (fun K hK => ?_) AllReady.nil
      go_simp
      refine hK _ _ ?_; clear hK K
      refine wpAny_ready (rs := [3]) (by kernel_rfl) (by simp) ?_
      refine AllReady.cons rfl (fun K hK => ?_) AllReady.nil
      go_simp
      refine hK _ _ ?_; clear hK K
      refine wpAny_done (by kernel_rfl) ?_ _
      go_wp2
      refine bodyPost_ret (v := .tuple #[.agg (arrV .i64 64 (fun _ => 0)), errV s.einvalid]) ?_ rfl ⟨_, rfl, .einvalid, hB.out⟩
      exact results_row_tmp rfl _ _ _ _ _ _ _ rfl (b2.drew.setRow .i64 fun _ => 0) Tryd.underlying80 rfl (by rw [arrV_size]; exact sizeI64) _ rfl
  · rw [mir_0 h1, tim_0 h1]
    rw [h1] at hk
    have Hl := Lib.hid (stpB_lit h1)
    have Hbd := Lib.hid (addT_bd (fs := fs) (stpB_lit h1))
    have Hk := Lib.hid hk; clear hk h1 hE
    have Hs := Lib.hid hs; clear hs
    have HT := Lib.hid hT; clear hT
    have hex := fun m t W => exposureOf_any m t W
    have Hex := Lib.hid hex; clear hex
    go_enter Tryd.func58, Tryd.ntmps58
    go_wp2_with fail
    refine (Hk.out _ hrk).mono ?_; rintro e w1 ⟨rfl, hb1⟩
    have b0 := a0.below hb1 a0.lt
    have k1 := k0.trans (hb1.mono k0.size)
    have z1 : w.heap.size < w1.heap.size := b0.lt
    have a1 := HasArr.zeroI w1 (b := w1.heap.size) rfl
    have b1 := (a1.setRow .i64 fun _ => 0).congr (g := addT fs es 0) (fun j _ => rfl)
    have b2 := (b0.alloc (.cells #[.int .i64 0, .int .i64 0, .int .i64 0, .int .i64 0, .int .i64 0, .int .i64 0, .int .i64 0, .int .i64 0, .int .i64 0, .int .i64 0, .int .i64 0, .int .i64 0, .int .i64 0, .int .i64 0, .int .i64 0, .int .i64 0, .int .i64 0, .int .i64 0, .int .i64 0, .int .i64 0, .int .i64 0, .int .i64 0, .int .i64 0, .int .i64 0, .int .i64 0, .int .i64 0, .int .i64 0, .int .i64 0, .int .i64 0, .int .i64 0, .int .i64 0, .int .i64 0, .int .i64 0, .int .i64 0, .int .i64 0, .int .i64 0, .int .i64 0, .int .i64 0, .int .i64 0, .int .i64 0, .int .i64 0, .int .i64 0, .int .i64 0, .int .i64 0, .int .i64 0, .int .i64 0, .int .i64 0, .int .i64 0, .int .i64 0, .int .i64 0, .int .i64 0, .int .i64 0, .int .i64 0, .int .i64 0, .int .i64 0, .int .i64 0, .int .i64 0, .int .i64 0, .int .i64 0, .int .i64 0, .int .i64 0, .int .i64 0, .int .i64 0, .int .i64 0] 80)).rowOther (b' := w1.heap.size) (by omega) (arrV .i64 64 fun _ => 0)
    have k2 := below_setRow (k1.alloc k1.size (.cells #[.int .i64 0, .int .i64 0, .int .i64 0, .int .i64 0, .int .i64 0, .int .i64 0, .int .i64 0, .int .i64 0, .int .i64 0, .int .i64 0, .int .i64 0, .int .i64 0, .int .i64 0, .int .i64 0, .int .i64 0, .int .i64 0, .int .i64 0, .int .i64 0, .int .i64 0, .int .i64 0, .int .i64 0, .int .i64 0, .int .i64 0, .int .i64 0, .int .i64 0, .int .i64 0, .int .i64 0, .int .i64 0, .int .i64 0, .int .i64 0, .int .i64 0, .int .i64 0, .int .i64 0, .int .i64 0, .int .i64 0, .int .i64 0, .int .i64 0, .int .i64 0, .int .i64 0, .int .i64 0, .int .i64 0, .int .i64 0, .int .i64 0, .int .i64 0, .int .i64 0, .int .i64 0, .int .i64 0, .int .i64 0, .int .i64 0, .int .i64 0, .int .i64 0, .int .i64 0, .int .i64 0, .int .i64 0, .int .i64 0, .int .i64 0, .int .i64 0, .int .i64 0, .int .i64 0, .int .i64 0, .int .i64 0, .int .i64 0, .int .i64 0, .int .i64 0] 80)) (b := w1.heap.size) k1.size (arrV .i64 64 fun _ => 0)
    have K0 := Lib.hid (And.intro b2 (And.intro b1 k2))
    clear a0 k0 hrk hb1 b0 k1 b1 b2 k2
    go_wp2_with (refine wpList_store_zI a1 _ _ _ rfl rfl rfl rfl sizeI64 ?_)
    clear a1
    go_loopw [17] (fun i wr => ∃ k : Nat, k ≤ n ∧ i = .int .i64 (k : Int) ∧ HasArr wr w.heap.size 80 .i64 64 (fun _ => 0) ∧ HasArr wr w1.heap.size 80 .i64 64 (addT fs es k) ∧ Below w.heap.size w wr) (fun i _ => n - (intOf i).toNat)
    case atStart => exact ⟨0, Nat.zero_le _, rfl, K0.out⟩
    case round =>
      obtain ⟨k, hk, rfl, h0, h1, hB⟩ := hrel
      obtain ⟨wo, rfl⟩ : ∃ wo : World, wo = wr := ⟨_, rfl⟩
      clear K0
      by_cases hkn : k < n
      · have w3 : (k : Int) < n := by omega
        have hrk := hr.below hB hr.lt
        have c0 := hrk.cell0 hkn
        have c1 := hrk.cell1 hkn
        clear hrk
        have hsm := (Hs.out k hkn).1
        have hle := inB_true.1 (Hl.out k hkn)
        have htm := tm_bd (es k) hle.1 (by omega)
        have hadd := fun c j => mixT_add fs es k c j
        have hbk := fun c => Hbd.out k c hk
        have hka := (Below.refl wo.heap.size wo).alloc (Nat.le_refl _) (.cells #[.int .u64 (fs k), .int .i8 (es k)] 60)
        have hinv := fun c hc => timeOn_inv (fs k) (es k) c hsm hle.1 hle.2 hc
        have hx := Hex.out (fs k) (es k)
        have K1 := Lib.hid (And.intro (h0.below hka h0.lt) (And.intro ((h1.below hka h1.lt).congr (fun j _ => mixT_0 fs es k j)) (hB.alloc hB.size (.cells #[.int .u64 (fs k), .int .i8 (es k)] 60))))
        have Hinv := Lib.hid hinv; clear hinv
        have Hadd := Lib.hid hadd; clear hadd
        have Hbk := Lib.hid hbk; clear hbk
        have Hx := Lib.hid hx; clear hx h0 h1 hB hka Hex
        generalize expV (fs k) (es k) = XV at *
        generalize fs k = m at *
        generalize es k = t at *
        go_wp2_with fail
        refine (Hx.out _).mono ?_; rintro e w2 ⟨rfl, hb2⟩
        have K2 := Lib.hid (And.intro (K1.out.1.below hb2 K1.out.1.lt) (And.intro (K1.out.2.1.below hb2 K1.out.2.1.lt) (K1.out.2.2.trans (hb2.mono K1.out.2.2.size))))
        clear K1 hb2 c0 c1 Hx
        go_wp2_with fail
        go_loopw [23] (fun i wr => ∃ c : Nat, c ≤ 64 ∧ i = .int .i64 (c : Int) ∧ HasArr wr w.heap.size 80 .i64 64 (fun _ => 0) ∧ HasArr wr w1.heap.size 80 .i64 64 (mixT fs es k c) ∧ Below w.heap.size w wr) (fun i _ => 64 - (intOf i).toNat)
        case atStart => exact ⟨0, by omega, rfl, K2.out⟩
        case round =>
          obtain ⟨c, hc, rfl, h0, h1, hB⟩ := hrel
          clear K2
          by_cases hcn : c < 64
          · have w4 : (c : Int) < 64 := by omega
            obtain ⟨FF, aa, hiv, hcl⟩ := Hinv.out c hcn
            have hcell := h1.cell hcn
            rw [mixT_at] at hcell
            have hbc := Hbk.out c
            have hst := fun (W : World) (h : HasArr W w1.heap.size 80 .i64 64 (mixT fs es k c)) => (h.set c (addT fs es k c + (if bitB m c = true then tm t else 0))).congr (fun j _ => Hadd.out c j)
            have hV : 0 ≤ (if bitB m c = true then tm t else 0) ∧ (if bitB m c = true then tm t else 0) ≤ 5160960 := by split <;> omega
            generalize addT fs es k c = A at *
            generalize (if bitB m c = true then tm t else 0) = V at *
            have hlo : (-9223372036854775808 : Int) ≤ A + V := by omega
            have hhi : A + V ≤ 9223372036854775807 := by omega
            have Hst := Lib.hid hst; clear hst
            have HR0 := Lib.hid h0; clear h0
            have HR1 := Lib.hid h1; clear h1
            have HB := Lib.hid hB; clear hB
            have Hcl := Lib.hid (fun (x : WIn (Below wr.heap.size wr)) => hcl x.w (HT.out.below (HB.out.trans (x.ok.mono HB.out.size)) (Nat.le_refl _))); clear hcl
            go_wp2_with fail
            refine wp_region_quiet_tail 8 (fun w' => ∃ x : WIn (Below wr.heap.size wr), w' = x.w) (by kernel_rfl) (by kernel_rfl) ⟨⟨_, below_drew1 _⟩, rfl⟩ ?_
            simp only [List.take_succ_cons, List.take_zero, List.drop_succ_cons, List.drop_zero]
            have n0 := below_nonempty wr
            have f0 := inCell hcell
            go_big_quiet_step (fail)
            go_big_quiet_step (fail)
            go_big_quiet_step (fail)
            go_big_quiet_step (fail)
            go_big_quiet_step (fail)
            refine BigFrame.wpQuiet_want (by rfl) fun K hK => ⟨.int .i64 V, fun W hW => ?_, hK _ ?_⟩
            · obtain ⟨x, rfl⟩ := hW
              go_simp
              erw [hiv x.w]
              exact ⟨rfl, inCall x (Hcl.out x)⟩
            quiet_step (fail)
            quiet_step (fail)
            refine wpQuiet_nil ?_
            rintro w2 ⟨⟨w3, hb2⟩, rfl⟩
            have g0 := HR0.out.below hb2 HR0.out.lt
            have g1 := HR1.out.below hb2 HR1.out.lt
            have gB := HB.out.trans (hb2.mono HB.out.size)
            have d0 := g1.cell hcn
            have e0 := g1.free c
            have K := Lib.hid (And.intro (g0.other (a := ⟨w1.heap.size, c, none⟩) (by simp; omega) (.int .i64 (A + V))) (And.intro (Hst.out _ g1) (gB.setCell (p := ⟨w1.heap.size, c, none⟩) (by simp; omega) (.int .i64 (A + V)))))
            clear g0 g1 gB f0 n0 hcell
            go_wp2_with fail
            go_roundw
            case rel => exact ⟨c + 1, by omega, by go_num, K.out⟩
            case measure => simp [intOf]; omega
          · obtain rfl : c = 64 := by omega
            have K := Lib.hid (And.intro h0 (And.intro (h1.congr (fun j hj => mixT_64 hj)) hB))
            clear h0 h1 hB
            go_wp2_with fail
            go_roundw
            case rel => exact ⟨k + 1, by omega, by go_num, K.out⟩
            case measure => simp [intOf]; omega
      · obtain rfl : k = n := by omega
        have hB' := below_setRow hB (b := w.heap.size) (by omega) (arrV .i64 64 (addT fs es k))
        go_wp2_with (first | (refine wpList_load_arr h1 _ _ rfl rfl rfl Tryd.underlying80 sizeI64 ?_) | (refine wpList_store_arr h0 _ _ _ rfl rfl rfl rfl sizeI64 ?_))
        refine bodyPost_ret (v := .tuple #[.agg (arrV .i64 64 (addT fs es k)), .nilIface]) ?_ rfl ⟨_, rfl, .ok, hB'⟩
        exact results_row_tmp rfl _ _ _ _ _ _ _ rfl (h0.setRow .i64 (addT fs es k)) Tryd.underlying80 rfl (by rw [arrV_size]; exact sizeI64) _ rfl
end Go.Proofs.YtnlcjbobfhmnmaaDoor

namespace Go.Proofs.YtnlcjbobfhmnmaaDoor
open Go.RowKit

theorem thin_min (x : Int) (h0 : 0 ≤ x) : thin (min x 100000000) = thin x := by
  by_cases h : x ≤ 100000000
  · rw [Int.min_eq_left h]
  · rw [Int.min_eq_right (by omega)]
    have h1 : thin 100000000 = 36 := thin_eq 36 100000000 (by omega) (by omega) (.inr (by rw [tm_36]; omega)) (.inl rfl)
    have h2 : thin x = 36 := thin_eq 36 x (by omega) (by omega) (.inr (by rw [tm_36]; omega)) (.inl rfl)
    rw [h1, h2]

set_option maxHeartbeats 1000000 in
theorem lightIn_any (s : Ers) (x : Int) (h0 : 0 ≤ x) (hx : x ≤ 9223372036854775807) (w : World) (hT : TimEnv w) (hE : ErrEnv s w) :
    Calls Tryd.prog 59 #[.int .i64 x] w fun e w' => e = .returned (.int .i64 (thin x)) ∧ Below w.heap.size w w' := by
  have hm : milB (min x 100000000) = true := milB_true.2 (by omega)
  have ht := thirdsIn_any s (min x 100000000) w hT hE
  have hb := thin_bd (min x 100000000)
  have hmn := thin_min x h0
  by_cases hn : thin (min x 100000000) < 0
  · have hv : thin x = -1 := by omega
    obtain ⟨e1, e2⟩ := thinR_none hm ((thin_none _).1 (by omega))
    rw [e1, e2] at ht
    rw [hv]
    have Ht := Lib.hid ht; clear ht hm hb hmn hn hv e1 e2 hT hE
    go_enter Tryd.func59, Tryd.ntmps59
    go_wp2_with fail
    refine Ht.out.mono ?_; rintro e w1 ⟨v, hv, rfl, hb1⟩
    cases hv
    go_wp2_with fail
    go_ret
    exact ⟨rfl, hb1⟩
  · obtain ⟨e1, e2⟩ := thinR_in hm (show 0 ≤ thin (min x 100000000) by omega) rfl
    rw [e1, e2] at ht
    rw [← hmn]
    have Ht := Lib.hid ht; clear ht hm hb hmn hn e1 e2 hT hE
    generalize hX : thin (min x 100000000) = X at *
    clear hX
    go_enter Tryd.func59, Tryd.ntmps59
    go_wp2_with fail
    refine Ht.out.mono ?_; rintro e w1 ⟨v, hv, rfl, hb1⟩
    cases hv
    go_wp2_with fail
    go_ret
    exact ⟨rfl, hb1⟩

set_option maxRecDepth 100000 in
set_option maxHeartbeats 4000000 in
theorem lightOn_any (s : Ers) (b n cap : Nat) (fs es : Nat → Int) (hn : n ≤ 1048576) (hs : SmallS n fs es) (w : World) (hr : StRow w b n fs es) (hE : ErrEnv s w) (hT : TimEnv w) :
    Calls Tryd.prog 42 #[.slice (some ⟨b, 0, none⟩) n cap] w fun e w' => ∃ v, e = .returned (.tuple #[.agg (arrV .i64 64 (lgtV n fs es)), v]) ∧ IsCode s v (mirC n es) ∧ Below w.heap.size w w' := by
  have a0 := HasArr.zeroI w rfl
  have k0 := (Below.refl w.heap.size w).alloc (Nat.le_refl _) (.cells #[.int .i64 0, .int .i64 0, .int .i64 0, .int .i64 0, .int .i64 0, .int .i64 0, .int .i64 0, .int .i64 0, .int .i64 0, .int .i64 0, .int .i64 0, .int .i64 0, .int .i64 0, .int .i64 0, .int .i64 0, .int .i64 0, .int .i64 0, .int .i64 0, .int .i64 0, .int .i64 0, .int .i64 0, .int .i64 0, .int .i64 0, .int .i64 0, .int .i64 0, .int .i64 0, .int .i64 0, .int .i64 0, .int .i64 0, .int .i64 0, .int .i64 0, .int .i64 0, .int .i64 0, .int .i64 0, .int .i64 0, .int .i64 0, .int .i64 0, .int .i64 0, .int .i64 0, .int .i64 0, .int .i64 0, .int .i64 0, .int .i64 0, .int .i64 0, .int .i64 0, .int .i64 0, .int .i64 0, .int .i64 0, .int .i64 0, .int .i64 0, .int .i64 0, .int .i64 0, .int .i64 0, .int .i64 0, .int .i64 0, .int .i64 0, .int .i64 0, .int .i64 0, .int .i64 0, .int .i64 0, .int .i64 0, .int .i64 0, .int .i64 0, .int .i64 0] 80)
  have ht := timesOn_any s b n cap fs es hn hs _ (hr.below k0 hr.lt) (hE.below k0 (Nat.le_refl _)) (hT.below k0 (Nat.le_refl _))
  rcases h1 : stpB n es with _ | _
  · rw [mir_1 h1, lgt_1 h1]
    rw [mir_1 h1, tim_1 h1] at ht
    have Ht := Lib.hid ht; clear ht h1 hE hT
    go_enter Tryd.func42, Tryd.ntmps42
    go_wp2_with fail
    refine Ht.out.mono ?_; rintro e w1 ⟨v, rfl, hv, hb1⟩
    have b0 := a0.below hb1 a0.lt
    have k1 := k0.trans (hb1.mono k0.size)
    have z1 : w.heap.size < w1.heap.size := b0.lt
    have a1 := HasArr.zeroI w1 (b := w1.heap.size) rfl
    have b1 := (b0.alloc (.cells #[.int .i64 0, .int .i64 0, .int .i64 0, .int .i64 0, .int .i64 0, .int .i64 0, .int .i64 0, .int .i64 0, .int .i64 0, .int .i64 0, .int .i64 0, .int .i64 0, .int .i64 0, .int .i64 0, .int .i64 0, .int .i64 0, .int .i64 0, .int .i64 0, .int .i64 0, .int .i64 0, .int .i64 0, .int .i64 0, .int .i64 0, .int .i64 0, .int .i64 0, .int .i64 0, .int .i64 0, .int .i64 0, .int .i64 0, .int .i64 0, .int .i64 0, .int .i64 0, .int .i64 0, .int .i64 0, .int .i64 0, .int .i64 0, .int .i64 0, .int .i64 0, .int .i64 0, .int .i64 0, .int .i64 0, .int .i64 0, .int .i64 0, .int .i64 0, .int .i64 0, .int .i64 0, .int .i64 0, .int .i64 0, .int .i64 0, .int .i64 0, .int .i64 0, .int .i64 0, .int .i64 0, .int .i64 0, .int .i64 0, .int .i64 0, .int .i64 0, .int .i64 0, .int .i64 0, .int .i64 0, .int .i64 0, .int .i64 0, .int .i64 0, .int .i64 0] 80)).rowOther (b' := w1.heap.size) (by omega) (arrV .i64 64 fun _ => 0)
    have kk := below_setRow (k1.alloc k1.size (.cells #[.int .i64 0, .int .i64 0, .int .i64 0, .int .i64 0, .int .i64 0, .int .i64 0, .int .i64 0, .int .i64 0, .int .i64 0, .int .i64 0, .int .i64 0, .int .i64 0, .int .i64 0, .int .i64 0, .int .i64 0, .int .i64 0, .int .i64 0, .int .i64 0, .int .i64 0, .int .i64 0, .int .i64 0, .int .i64 0, .int .i64 0, .int .i64 0, .int .i64 0, .int .i64 0, .int .i64 0, .int .i64 0, .int .i64 0, .int .i64 0, .int .i64 0, .int .i64 0, .int .i64 0, .int .i64 0, .int .i64 0, .int .i64 0, .int .i64 0, .int .i64 0, .int .i64 0, .int .i64 0, .int .i64 0, .int .i64 0, .int .i64 0, .int .i64 0, .int .i64 0, .int .i64 0, .int .i64 0, .int .i64 0, .int .i64 0, .int .i64 0, .int .i64 0, .int .i64 0, .int .i64 0, .int .i64 0, .int .i64 0, .int .i64 0, .int .i64 0, .int .i64 0, .int .i64 0, .int .i64 0, .int .i64 0, .int .i64 0, .int .i64 0, .int .i64 0] 80)) (b := w1.heap.size) k1.size (arrV .i64 64 fun _ => 0)
    clear a0 k0 hb1 b0 k1
    cases hv
    go_wp2_with (first | (refine wpList_store_arr a1 _ _ _ rfl rfl rfl rfl sizeI64 ?_) | (refine wpList_store_zI b1 _ _ _ rfl rfl rfl rfl sizeI64 ?_))
    refine bodyPost_ret (v := .tuple #[.agg (arrV .i64 64 (fun _ => 0)), errV s.einvalid]) ?_ rfl ⟨_, rfl, .einvalid, below_setRow kk (by omega) _⟩
    exact results_row_tmp rfl _ _ _ _ _ _ _ rfl (b1.setRow .i64 fun _ => 0) Tryd.underlying80 rfl (by rw [arrV_size]; exact sizeI64) _ rfl
  · rw [mir_0 h1, lgt_0 h1]
    rw [mir_0 h1, tim_0 h1] at ht
    have hbd := fun c => addT_bd (fs := fs) (stpB_lit h1) n c (Nat.le_refl _)
    have Hbd := Lib.hid hbd; clear hbd
    have Ht := Lib.hid ht; clear ht h1
    have HE := Lib.hid hE; clear hE
    have HT := Lib.hid hT; clear hT
    generalize addT fs es n = F at *
    have hsz1 : (Tryd.prog.info? 2).map (·.size) = some 1 := by kernel_rfl
    have hix := fun k (hk : k < 64) W => run_index_arr (P := Tryd.prog) (κ' := .i64) (κ := .i64) F Tryd.underlying80 Tryd.underlying2 hsz1 hk W
    have Hix := Lib.hid hix; clear hix hsz1
    have hli := fun x h0 h1 W h2 h3 => lightIn_any s x h0 h1 W h2 h3
    have Hli := Lib.hid hli; clear hli
    go_enter Tryd.func42, Tryd.ntmps42
    go_wp2_with fail
    refine Ht.out.mono ?_; rintro e w1 ⟨v, rfl, hv, hb1⟩
    cases hv
    have b0 := a0.below hb1 a0.lt
    have k1 := k0.trans (hb1.mono k0.size)
    have z1 : w.heap.size < w1.heap.size := b0.lt
    have a1 := HasArr.zeroI w1 (b := w1.heap.size) rfl
    have b1 := (b0.alloc (.cells #[.int .i64 0, .int .i64 0, .int .i64 0, .int .i64 0, .int .i64 0, .int .i64 0, .int .i64 0, .int .i64 0, .int .i64 0, .int .i64 0, .int .i64 0, .int .i64 0, .int .i64 0, .int .i64 0, .int .i64 0, .int .i64 0, .int .i64 0, .int .i64 0, .int .i64 0, .int .i64 0, .int .i64 0, .int .i64 0, .int .i64 0, .int .i64 0, .int .i64 0, .int .i64 0, .int .i64 0, .int .i64 0, .int .i64 0, .int .i64 0, .int .i64 0, .int .i64 0, .int .i64 0, .int .i64 0, .int .i64 0, .int .i64 0, .int .i64 0, .int .i64 0, .int .i64 0, .int .i64 0, .int .i64 0, .int .i64 0, .int .i64 0, .int .i64 0, .int .i64 0, .int .i64 0, .int .i64 0, .int .i64 0, .int .i64 0, .int .i64 0, .int .i64 0, .int .i64 0, .int .i64 0, .int .i64 0, .int .i64 0, .int .i64 0, .int .i64 0, .int .i64 0, .int .i64 0, .int .i64 0, .int .i64 0, .int .i64 0, .int .i64 0, .int .i64 0] 80)).rowOther (b' := w1.heap.size) (by omega) (arrV .i64 64 F)
    have b4 := a1.setRow .i64 F
    have kk := below_setRow (k1.alloc k1.size (.cells #[.int .i64 0, .int .i64 0, .int .i64 0, .int .i64 0, .int .i64 0, .int .i64 0, .int .i64 0, .int .i64 0, .int .i64 0, .int .i64 0, .int .i64 0, .int .i64 0, .int .i64 0, .int .i64 0, .int .i64 0, .int .i64 0, .int .i64 0, .int .i64 0, .int .i64 0, .int .i64 0, .int .i64 0, .int .i64 0, .int .i64 0, .int .i64 0, .int .i64 0, .int .i64 0, .int .i64 0, .int .i64 0, .int .i64 0, .int .i64 0, .int .i64 0, .int .i64 0, .int .i64 0, .int .i64 0, .int .i64 0, .int .i64 0, .int .i64 0, .int .i64 0, .int .i64 0, .int .i64 0, .int .i64 0, .int .i64 0, .int .i64 0, .int .i64 0, .int .i64 0, .int .i64 0, .int .i64 0, .int .i64 0, .int .i64 0, .int .i64 0, .int .i64 0, .int .i64 0, .int .i64 0, .int .i64 0, .int .i64 0, .int .i64 0, .int .i64 0, .int .i64 0, .int .i64 0, .int .i64 0, .int .i64 0, .int .i64 0, .int .i64 0, .int .i64 0] 80)) (b := w1.heap.size) k1.size (arrV .i64 64 F)
    have a6 := HasArr.zeroI ((w1.alloc (.cells #[.int .i64 0, .int .i64 0, .int .i64 0, .int .i64 0, .int .i64 0, .int .i64 0, .int .i64 0, .int .i64 0, .int .i64 0, .int .i64 0, .int .i64 0, .int .i64 0, .int .i64 0, .int .i64 0, .int .i64 0, .int .i64 0, .int .i64 0, .int .i64 0, .int .i64 0, .int .i64 0, .int .i64 0, .int .i64 0, .int .i64 0, .int .i64 0, .int .i64 0, .int .i64 0, .int .i64 0, .int .i64 0, .int .i64 0, .int .i64 0, .int .i64 0, .int .i64 0, .int .i64 0, .int .i64 0, .int .i64 0, .int .i64 0, .int .i64 0, .int .i64 0, .int .i64 0, .int .i64 0, .int .i64 0, .int .i64 0, .int .i64 0, .int .i64 0, .int .i64 0, .int .i64 0, .int .i64 0, .int .i64 0, .int .i64 0, .int .i64 0, .int .i64 0, .int .i64 0, .int .i64 0, .int .i64 0, .int .i64 0, .int .i64 0, .int .i64 0, .int .i64 0, .int .i64 0, .int .i64 0, .int .i64 0, .int .i64 0, .int .i64 0, .int .i64 0] 80)).setRow w1.heap.size (arrV .i64 64 F)) (b := w1.heap.size + 1) (by simp)
    have c2 := (b1.alloc (.cells #[.int .i64 0, .int .i64 0, .int .i64 0, .int .i64 0, .int .i64 0, .int .i64 0, .int .i64 0, .int .i64 0, .int .i64 0, .int .i64 0, .int .i64 0, .int .i64 0, .int .i64 0, .int .i64 0, .int .i64 0, .int .i64 0, .int .i64 0, .int .i64 0, .int .i64 0, .int .i64 0, .int .i64 0, .int .i64 0, .int .i64 0, .int .i64 0, .int .i64 0, .int .i64 0, .int .i64 0, .int .i64 0, .int .i64 0, .int .i64 0, .int .i64 0, .int .i64 0, .int .i64 0, .int .i64 0, .int .i64 0, .int .i64 0, .int .i64 0, .int .i64 0, .int .i64 0, .int .i64 0, .int .i64 0, .int .i64 0, .int .i64 0, .int .i64 0, .int .i64 0, .int .i64 0, .int .i64 0, .int .i64 0, .int .i64 0, .int .i64 0, .int .i64 0, .int .i64 0, .int .i64 0, .int .i64 0, .int .i64 0, .int .i64 0, .int .i64 0, .int .i64 0, .int .i64 0, .int .i64 0, .int .i64 0, .int .i64 0, .int .i64 0, .int .i64 0] 80)).rowOther (b' := w1.heap.size + 1) (by omega) (arrV .i64 64 fun _ => 0)
    have c4 := (b4.alloc (.cells #[.int .i64 0, .int .i64 0, .int .i64 0, .int .i64 0, .int .i64 0, .int .i64 0, .int .i64 0, .int .i64 0, .int .i64 0, .int .i64 0, .int .i64 0, .int .i64 0, .int .i64 0, .int .i64 0, .int .i64 0, .int .i64 0, .int .i64 0, .int .i64 0, .int .i64 0, .int .i64 0, .int .i64 0, .int .i64 0, .int .i64 0, .int .i64 0, .int .i64 0, .int .i64 0, .int .i64 0, .int .i64 0, .int .i64 0, .int .i64 0, .int .i64 0, .int .i64 0, .int .i64 0, .int .i64 0, .int .i64 0, .int .i64 0, .int .i64 0, .int .i64 0, .int .i64 0, .int .i64 0, .int .i64 0, .int .i64 0, .int .i64 0, .int .i64 0, .int .i64 0, .int .i64 0, .int .i64 0, .int .i64 0, .int .i64 0, .int .i64 0, .int .i64 0, .int .i64 0, .int .i64 0, .int .i64 0, .int .i64 0, .int .i64 0, .int .i64 0, .int .i64 0, .int .i64 0, .int .i64 0, .int .i64 0, .int .i64 0, .int .i64 0, .int .i64 0] 80)).rowOther (b' := w1.heap.size + 1) (by omega) (arrV .i64 64 fun _ => 0)
    have c6 := (a6.setRow .i64 fun _ => 0).congr (fun j _ => mixG_0 (fun _ => 0) (fun c => thin (F c)) j)
    have kz : w.heap.size ≤ ((w1.alloc (.cells #[.int .i64 0, .int .i64 0, .int .i64 0, .int .i64 0, .int .i64 0, .int .i64 0, .int .i64 0, .int .i64 0, .int .i64 0, .int .i64 0, .int .i64 0, .int .i64 0, .int .i64 0, .int .i64 0, .int .i64 0, .int .i64 0, .int .i64 0, .int .i64 0, .int .i64 0, .int .i64 0, .int .i64 0, .int .i64 0, .int .i64 0, .int .i64 0, .int .i64 0, .int .i64 0, .int .i64 0, .int .i64 0, .int .i64 0, .int .i64 0, .int .i64 0, .int .i64 0, .int .i64 0, .int .i64 0, .int .i64 0, .int .i64 0, .int .i64 0, .int .i64 0, .int .i64 0, .int .i64 0, .int .i64 0, .int .i64 0, .int .i64 0, .int .i64 0, .int .i64 0, .int .i64 0, .int .i64 0, .int .i64 0, .int .i64 0, .int .i64 0, .int .i64 0, .int .i64 0, .int .i64 0, .int .i64 0, .int .i64 0, .int .i64 0, .int .i64 0, .int .i64 0, .int .i64 0, .int .i64 0, .int .i64 0, .int .i64 0, .int .i64 0, .int .i64 0] 80)).setRow w1.heap.size (arrV .i64 64 F)).heap.size := by simp; omega
    have k6 := below_setRow (kk.alloc kz (.cells #[.int .i64 0, .int .i64 0, .int .i64 0, .int .i64 0, .int .i64 0, .int .i64 0, .int .i64 0, .int .i64 0, .int .i64 0, .int .i64 0, .int .i64 0, .int .i64 0, .int .i64 0, .int .i64 0, .int .i64 0, .int .i64 0, .int .i64 0, .int .i64 0, .int .i64 0, .int .i64 0, .int .i64 0, .int .i64 0, .int .i64 0, .int .i64 0, .int .i64 0, .int .i64 0, .int .i64 0, .int .i64 0, .int .i64 0, .int .i64 0, .int .i64 0, .int .i64 0, .int .i64 0, .int .i64 0, .int .i64 0, .int .i64 0, .int .i64 0, .int .i64 0, .int .i64 0, .int .i64 0, .int .i64 0, .int .i64 0, .int .i64 0, .int .i64 0, .int .i64 0, .int .i64 0, .int .i64 0, .int .i64 0, .int .i64 0, .int .i64 0, .int .i64 0, .int .i64 0, .int .i64 0, .int .i64 0, .int .i64 0, .int .i64 0, .int .i64 0, .int .i64 0, .int .i64 0, .int .i64 0, .int .i64 0, .int .i64 0, .int .i64 0, .int .i64 0] 80)) (b := w1.heap.size + 1) (by omega) (arrV .i64 64 fun _ => 0)
    have K0 := Lib.hid (And.intro c2 (And.intro c6 k6))
    clear a0 k0 hb1 b0 k1 b1 b4 kk c2 c6 k6 kz
    go_wp2_with (first | (refine wpList_store_arr a1 _ _ _ rfl rfl rfl rfl sizeI64 ?_) | (refine wpList_store_zI a6 _ _ _ rfl rfl rfl rfl sizeI64 ?_) | (refine wpList_load_arr c4 _ _ rfl rfl rfl Tryd.underlying80 sizeI64 ?_))
    clear a1 a6 c4
    go_loopw [20] (fun i wr => ∃ c : Nat, c ≤ 64 ∧ i = .int .i64 (c : Int) ∧ HasArr wr w.heap.size 80 .i64 64 (fun _ => 0) ∧ HasArr wr (w1.heap.size + 1) 80 .i64 64 (mixG (fun _ => 0) (fun c => thin (F c)) c) ∧ Below w.heap.size w wr) (fun i _ => 64 - (intOf i).toNat)
    case atStart => exact ⟨0, by omega, rfl, K0.out⟩
    case round =>
      obtain ⟨c, hc, rfl, h0, h1, hB⟩ := hrel
      clear K0
      by_cases hcn : c < 64
      · have w4 : (c : Int) < 64 := by omega
        have ix := Hix.out c hcn wr
        have hbc := Hbd.out c
        have hst := fun (W : World) (h : HasArr W (w1.heap.size + 1) 80 .i64 64 (mixG (fun _ => 0) (fun c => thin (F c)) c)) => (h.set c (thin (F c))).congr (fun j _ => mixG_step (fun _ => 0) (fun c => thin (F c)) c j)
        have hin := Hli.out (F c) hbc.1 (by omega) wr (HT.out.below hB (Nat.le_refl _)) (HE.out.below hB (Nat.le_refl _))
        generalize thin (F c) = X at *
        generalize F c = Y at *
        have Hst := Lib.hid hst; clear hst
        have Hin := Lib.hid hin; clear hin
        have HR0 := Lib.hid h0; clear h0
        have HR1 := Lib.hid h1; clear h1
        have HB := Lib.hid hB; clear hB
        go_wp2_with fail
        refine Hin.out.mono ?_; rintro e w2 ⟨rfl, hb2⟩
        have g0 := HR0.out.below hb2 HR0.out.lt
        have g1 := HR1.out.below hb2 HR1.out.lt
        have gB := HB.out.trans (hb2.mono HB.out.size)
        have d0 := g1.cell hcn
        have e0 := g1.free c
        have K := Lib.hid (And.intro (g0.other (a := ⟨w1.heap.size + 1, c, none⟩) (by simp; omega) (.int .i64 X)) (And.intro (Hst.out _ g1) (gB.setCell (p := ⟨w1.heap.size + 1, c, none⟩) (by simp; omega) (.int .i64 X))))
        clear g0 g1 gB
        go_wp2_with fail
        go_roundw
        case rel => exact ⟨c + 1, by omega, by go_num, K.out⟩
        case measure => simp [intOf]; omega
      · obtain rfl : c = 64 := by omega
        have h1 := h1.congr (g := fun c => thin (F c)) (fun j hj => mixG_64 hj)
        have hB' := below_setRow hB (b := w.heap.size) (by omega) (arrV .i64 64 fun c => thin (F c))
        go_wp2_with (first | (refine wpList_load_arr h1 _ _ rfl rfl rfl Tryd.underlying80 sizeI64 ?_) | (refine wpList_store_arr h0 _ _ _ rfl rfl rfl rfl sizeI64 ?_))
        refine bodyPost_ret (v := .tuple #[.agg (arrV .i64 64 fun c => thin (F c)), .nilIface]) ?_ rfl ⟨_, rfl, .ok, hB'⟩
        exact results_row_tmp rfl _ _ _ _ _ _ _ rfl (h0.setRow .i64 fun c => thin (F c)) Tryd.underlying80 rfl (by rw [arrV_size]; exact sizeI64) _ rfl

end Go.Proofs.YtnlcjbobfhmnmaaDoor

/-
  Means of fields: what both sides return, for every scene and field. Condition of the program's: its variables hold their own errors.
-/
import Derived.Test.YtmphmpddlgcofaaDoorScn
import Derived.Test.YtmphmpddlgcofaaDoorBit
import Derived.Test.YtmphmpddlgcofaaDoorPlcI
namespace Go.Proofs.YtmphmpddlgcofaaDoor
open Go.RowKit

/-- The sum of the first k numbers, each so often as told; how many these are. -/
def sumS (f c : Nat → Int) : Nat → Int
  | 0 => 0
  | k + 1 => sumS f c k + c k * f k
def cntS (c : Nat → Int) : Nat → Int
  | 0 => 0
  | k + 1 => cntS c k + c k
/-- The mean. -/
def mnV (f c : Nat → Int) : Int := sumS f c 24 / cntS c 24
theorem mul_bd {c x : Int} (hc : 0 ≤ c) (hc' : c ≤ 3) (hx : 0 ≤ x) (hx' : x ≤ 60) : 0 ≤ c * x ∧ c * x ≤ 180 := by
  have : c = 0 ∨ c = 1 ∨ c = 2 ∨ c = 3 := by omega
  rcases this with rfl | rfl | rfl | rfl <;> omega
/-- Numbers from 0 to 3. -/
def W3 (c : Nat → Int) : Prop := ∀ k, k < 24 → 0 ≤ c k ∧ c k ≤ 3
theorem sumS_bd {f c : Nat → Int} (hf : ∀ k, k < 24 → 0 ≤ f k ∧ f k ≤ 60) (hc : W3 c) : ∀ k, k ≤ 24 → 0 ≤ sumS f c k ∧ sumS f c k ≤ 180 * k
  | 0, _ => by simp [sumS]
  | k + 1, h => by
    have ih := sumS_bd hf hc k (by omega)
    have h1 := hf k (by omega)
    have h2 := hc k (by omega)
    have h3 := mul_bd h2.1 h2.2 h1.1 h1.2
    rw [sumS]; omega
theorem cntS_bd {c : Nat → Int} (hc : W3 c) : ∀ k, k ≤ 24 → 0 ≤ cntS c k ∧ cntS c k ≤ 3 * k
  | 0, _ => by simp [cntS]
  | k + 1, h => by
    have ih := cntS_bd hc k (by omega)
    have h2 := hc k (by omega)
    rw [cntS]; omega
theorem cntS_pos {c : Nat → Int} (hc : W3 c) {j : Nat} (hj : 1 ≤ c j) : ∀ k, j < k → k ≤ 24 → 1 ≤ cntS c k
  | 0, h, _ => by omega
  | k + 1, h, hk => by
    have h2 := hc k (by omega)
    have h3 := cntS_bd hc k (by omega)
    rw [cntS]
    by_cases e : j = k
    · subst e; omega
    · have := cntS_pos hc hj k (by omega) (by omega); omega
theorem bitS_W3 (M : Nat) : W3 (bitS M) := fun k _ => by unfold bitS; split <;> omega
theorem bitS_pos {M : Nat} (h0 : M ≠ 0) (h1 : M < 16777216) : 1 ≤ cntS (bitS M) 24 := by
  obtain ⟨j, hj⟩ := Nat.exists_testBit_of_ne_zero h0
  have hlt : j < 24 := by
    rcases Nat.lt_or_ge j 24 with h | h
    · exact h
    · rw [Nat.testBit_lt_two_pow (Nat.lt_of_lt_of_le h1 (Nat.le_trans (by decide : 16777216 ≤ 2 ^ 24) (Nat.pow_le_pow_right (by omega) h)))] at hj; cases hj
  exact cntS_pos (bitS_W3 M) (j := j) (by unfold bitS; rw [if_pos hj]; omega) 24 hlt (by omega)
theorem mnV_bd {f c : Nat → Int} (hf : ∀ k, k < 24 → 0 ≤ f k ∧ f k ≤ 60) (hc : W3 c) : 0 ≤ mnV f c ∧ mnV f c ≤ 4320 := by
  have h1 := sumS_bd hf hc 24 (by omega)
  have h2 := cntS_bd hc 24 (by omega)
  unfold mnV
  exact ⟨Int.ediv_nonneg h1.1 h2.1, Int.le_trans (Int.ediv_le_self _ h1.1) (by omega)⟩

theorem zeroArrL : #[.int .i64 0, .int .i64 0, .int .i64 0, .int .i64 0, .int .i64 0, .int .i64 0, .int .i64 0, .int .i64 0, .int .i64 0, .int .i64 0, .int .i64 0, .int .i64 0, .int .i64 0, .int .i64 0, .int .i64 0, .int .i64 0, .int .i64 0, .int .i64 0, .int .i64 0, .int .i64 0, .int .i64 0, .int .i64 0, .int .i64 0, .int .i64 0] = arrV .i64 24 fun _ => 0 := by kernel_rfl

theorem sizeCnt : (Tryd.prog.info? 165).map (·.size) = some 24 := by kernel_rfl

theorem HasArr.zeroL (w : World) (T : TypeId) {b : Nat} (hb : b = w.heap.size) : HasArr (w.alloc (.cells #[.int .i64 0, .int .i64 0, .int .i64 0, .int .i64 0, .int .i64 0, .int .i64 0, .int .i64 0, .int .i64 0, .int .i64 0, .int .i64 0, .int .i64 0, .int .i64 0, .int .i64 0, .int .i64 0, .int .i64 0, .int .i64 0, .int .i64 0, .int .i64 0, .int .i64 0, .int .i64 0, .int .i64 0, .int .i64 0, .int .i64 0, .int .i64 0] T)) b T .i64 24 fun _ => 0 := by
  subst hb; rw [zeroArrL]; exact HasArr.new w T .i64 24 _
theorem wpList_store_zL {P : Program} {ops : Array Oper} {rest : List Oper} {o : Oper} {a : Act} {w : World} {Q : Exit → Act → World → Prop} {b : Nat} {T : TypeId} {κ : IntKind} {f : Nat → Int}
    (h : HasArr w b T κ 24 f) (ty : TypeId) (x y : Operand) (hgd : o.guard = none) (ho : o.op = .store ty x y) (hx : a.eval x = .pointer (some ⟨b, 0, none⟩)) (hy : a.eval y = .agg #[.int .i64 0, .int .i64 0, .int .i64 0, .int .i64 0, .int .i64 0, .int .i64 0, .int .i64 0, .int .i64 0, .int .i64 0, .int .i64 0, .int .i64 0, .int .i64 0, .int .i64 0, .int .i64 0, .int .i64 0, .int .i64 0, .int .i64 0, .int .i64 0, .int .i64 0, .int .i64 0, .int .i64 0, .int .i64 0, .int .i64 0, .int .i64 0]) (hi : (P.info? ty).map (·.size) = some 24)
    (hK : wpList P ops Q rest (a.put o.dst undef) (w.setRow b (arrV .i64 24 fun _ => 0))) : wpList P ops Q (o :: rest) a w :=
  wpList_store_arr (g := fun _ => 0) h ty x y hgd ho hx (hy.trans (by rw [zeroArrL])) hi hK

set_option maxRecDepth 100000 in
set_option maxHeartbeats 1000000 in
theorem l06Counts_any (M : Nat) (hM : M < 4294967296) (w : World) :
    Calls Tryd.prog 115 #[.int .u32 (M : Int)] w fun e w' => e = .returned (.agg (arrV .i64 24 (bitS M))) ∧ Below w.heap.size w w' := by
  have a1 := HasArr.zeroL w 165 (b := w.heap.size) rfl
  have b1 := a1.alloc (.cells #[.int .i64 0, .int .i64 0, .int .i64 0, .int .i64 0, .int .i64 0, .int .i64 0, .int .i64 0, .int .i64 0, .int .i64 0, .int .i64 0, .int .i64 0, .int .i64 0, .int .i64 0, .int .i64 0, .int .i64 0, .int .i64 0, .int .i64 0, .int .i64 0, .int .i64 0, .int .i64 0, .int .i64 0, .int .i64 0, .int .i64 0, .int .i64 0] 165)
  have b2 := HasArr.zeroL (w.alloc (.cells #[.int .i64 0, .int .i64 0, .int .i64 0, .int .i64 0, .int .i64 0, .int .i64 0, .int .i64 0, .int .i64 0, .int .i64 0, .int .i64 0, .int .i64 0, .int .i64 0, .int .i64 0, .int .i64 0, .int .i64 0, .int .i64 0, .int .i64 0, .int .i64 0, .int .i64 0, .int .i64 0, .int .i64 0, .int .i64 0, .int .i64 0, .int .i64 0] 165)) 165 (b := w.heap.size + 1) (by simp)
  have k2 := ((Below.refl w.heap.size w).alloc (Nat.le_refl _) (.cells #[.int .i64 0, .int .i64 0, .int .i64 0, .int .i64 0, .int .i64 0, .int .i64 0, .int .i64 0, .int .i64 0, .int .i64 0, .int .i64 0, .int .i64 0, .int .i64 0, .int .i64 0, .int .i64 0, .int .i64 0, .int .i64 0, .int .i64 0, .int .i64 0, .int .i64 0, .int .i64 0, .int .i64 0, .int .i64 0, .int .i64 0, .int .i64 0] 165)).alloc (by simp) (.cells #[.int .i64 0, .int .i64 0, .int .i64 0, .int .i64 0, .int .i64 0, .int .i64 0, .int .i64 0, .int .i64 0, .int .i64 0, .int .i64 0, .int .i64 0, .int .i64 0, .int .i64 0, .int .i64 0, .int .i64 0, .int .i64 0, .int .i64 0, .int .i64 0, .int .i64 0, .int .i64 0, .int .i64 0, .int .i64 0, .int .i64 0, .int .i64 0] 165)
  have K0 := Lib.hid (And.intro (b1.rowOther (b' := w.heap.size + 1) (by omega) (arrV .i64 24 fun _ => 0)) (And.intro ((b2.setRow .i64 fun _ => 0).congr (fun j _ => mixFN_0 (bitS M) (fun _ => 0) j)) (below_setRow k2 (b := w.heap.size + 1) (by omega) (arrV .i64 24 fun _ => 0))))
  clear a1 b1 k2
  go_enter Tryd.func115, Tryd.ntmps115
  go_wp2_with (refine wpList_store_zL b2 _ _ _ rfl rfl rfl rfl sizeCnt ?_)
  clear b2
  go_loopw [4] (fun i wr => ∃ k : Nat, k ≤ 24 ∧ i = .int .i64 k ∧ HasArr wr w.heap.size 165 .i64 24 (fun _ => 0) ∧ HasArr wr (w.heap.size + 1) 165 .i64 24 (mixFN (bitS M) (fun _ => 0) k) ∧ Below w.heap.size w wr) (fun i _ => 24 - (intOf i).toNat)
  case atStart => exact ⟨0, by omega, rfl, K0.out⟩
  case round =>
    obtain ⟨k, hk, rfl, h1, h2, hB⟩ := hrel
    clear K0
    by_cases hkn : k < 24
    · have hq : ((M / 2 ^ k : Nat) : Int) % 2 = bitS M k := by
        have h := bit_div M k
        unfold bitS
        split
        · rename_i hb; rw [if_pos hb] at h; omega
        · rename_i hb; rw [if_neg hb] at h; omega
      have hs : ∀ j, upd (mixFN (bitS M) (fun _ => 0) k) k (((M / 2 ^ k : Nat) : Int) % 2) j = mixFN (bitS M) (fun _ => 0) (k + 1) j := fun j => by rw [hq]; exact mixFN_step _ _ k j
      have c2 := h2.cell hkn
      have f2 := h2.free k
      have hk32 : k < 32 := by omega
      have run := fun (P : Program) (ρ : Operand → Value) (o : Oper) (W : World) (T T2 : TypeId) (x y : Operand) ho hx hy => run_shr32 (P := P) (ρ := ρ) (o := o) (w := W) (T := T) (T2 := T2) (x := x) (y := y) (κ := .u64) (m := M) (k := k) ho hx hy hk32
      have hlt : M / 2 ^ k < 4294967296 := Nat.lt_of_le_of_lt (Nat.div_le_self _ _) hM
      clear hq
      generalize M / 2 ^ k = q at *
      have k2 := (h2.set k ((q : Int) % 2)).congr (fun j _ => hs j)
      have k1 := h1.other (a := ⟨w.heap.size + 1, k, none⟩) (by simp) (.int .i64 ((q : Int) % 2))
      have kB := hB.setCell (p := ⟨w.heap.size + 1, k, none⟩) (by simp) (.int .i64 ((q : Int) % 2))
      have K := Lib.hid (And.intro k1 (And.intro k2 kB))
      have Run := Lib.hid run
      clear k1 k2 kB h1 h2 hB hs run
      go_wp2_with (refine wpList_yield rfl (Run.out _ _ _ _ _ _ _ _ rfl rfl rfl) ?_)
      go_roundw
      case rel => exact ⟨k + 1, by omega, by go_num, K.out⟩
      case measure => simp [intOf]; omega
    · obtain rfl : k = 24 := by omega
      have h2 := h2.congr (g := bitS M) (fun j hj => mixFN_n _ _ hj)
      have h1' := h1.setRow .i64 (bitS M)
      have hB' := below_setRow hB (b := w.heap.size) (by omega) (arrV .i64 24 (bitS M))
      go_wp2_with (first | (refine wpList_load_arr h2 _ _ rfl rfl rfl Tryd.underlying165 sizeCnt ?_) | (refine wpList_store_arr h1 _ _ _ rfl rfl rfl rfl sizeCnt ?_))
      refine bodyPost_ret (v := .agg (arrV .i64 24 (bitS M))) ?_ rfl ⟨rfl, hB'⟩
      exact results_cell_row rfl _ _ _ _ _ _ _ rfl h1' Tryd.underlying165 rfl (by rw [arrV_size]; exact sizeCnt)

set_option maxRecDepth 100000 in
set_option maxHeartbeats 1000000 in
theorem l06Mean_any (b1 b2 : Nat) (T1 T2 : TypeId) (f c : Nat → Int) (hf : ∀ k, k < 24 → 0 ≤ f k ∧ f k ≤ 60) (hc : W3 c) (hp : 1 ≤ cntS c 24) (w : World) (h1 : HasArr w b1 T1 .i8 24 f) (h2 : HasArr w b2 T2 .i64 24 c) :
    Calls Tryd.prog 116 #[.pointer (some ⟨b1, 0, none⟩), .pointer (some ⟨b2, 0, none⟩)] w fun e w' => e = .returned (.int .i64 (mnV f c)) ∧ Below w.heap.size w w' := by
  have Hf := Lib.hid hf; clear hf
  have Hc := Lib.hid hc; clear hc
  have K0 := Lib.hid (And.intro h1 (And.intro h2 (Below.refl w.heap.size w)))
  have hmn : mnV f c = sumS f c 24 / cntS c 24 := rfl
  have Hmn := Lib.hid hmn; clear hmn
  have Hp := Lib.hid hp; clear hp h1 h2
  go_enter Tryd.func116, Tryd.ntmps116
  go_wp2_with fail
  go_loopw [5, 6, 7] (fun s n i wr => ∃ k : Nat, k ≤ 24 ∧ i = .int .i64 k ∧ s = .int .i64 (sumS f c k) ∧ n = .int .i64 (cntS c k) ∧ HasArr wr b1 T1 .i8 24 f ∧ HasArr wr b2 T2 .i64 24 c ∧ Below w.heap.size w wr) (fun _ _ i _ => 24 - (intOf i).toNat)
  case atStart => exact ⟨0, by omega, rfl, rfl, rfl, K0.out⟩
  case round =>
    obtain ⟨k, hk, rfl, rfl, rfl, h1, h2, hB⟩ := hrel
    clear K0
    by_cases hkn : k < 24
    · have bs := sumS_bd Hf.out Hc.out k hk
      have bn := cntS_bd Hc.out k hk
      have bf := Hf.out k hkn
      have bc := Hc.out k hkn
      have bm := mul_bd bc.1 bc.2 bf.1 bf.2
      have c1 := h1.cell hkn
      have c2 := h2.cell hkn
      have w1 : (k : Int) < 24 := by omega
      have w0 : (0 : Int) ≤ (k : Int) := by omega
      have HS := Lib.hid (show sumS f c (k + 1) = sumS f c k + c k * f k from rfl)
      have HN := Lib.hid (show cntS c (k + 1) = cntS c k + c k from rfl)
      have K := Lib.hid (And.intro h1 (And.intro h2 hB)); clear h1 h2 hB
      generalize sumS f c k = S at *
      generalize cntS c k = N at *
      generalize f k = X at *
      generalize c k = C at *
      generalize hPp : C * X = Pp at *
      have e0 : IntKind.i64.wrap (C * X) = Pp := by rw [hPp]; exact IntWalk.i64_in _ (by omega)
      have e1 : IntKind.i64.wrap (S + Pp) = S + Pp := IntWalk.i64_in _ (by omega)
      have HP := Lib.hid hPp; clear hPp
      go_wp2_with fail
      go_quiet (fail)
      clear e0 e1
      go_wp2_with fail
      go_roundw
      case rel => exact ⟨k + 1, by omega, by go_num, by rw [HS.out], by rw [HN.out], K.out.1.drewN _, K.out.2.1.drewN _, below_drewP K.out.2.2 _⟩
      case measure => simp [intOf]; omega
    · obtain rfl : k = 24 := by omega
      have bs := sumS_bd Hf.out Hc.out 24 (by omega)
      have bn := Hp.out
      have hm := Hmn.out
      generalize sumS f c 24 = S at *
      generalize cntS c 24 = N at *
      have HM := Lib.hid hm; clear hm
      go_wp2_with fail
      go_ret
      exact ⟨ret_int HM.out.symm, hB⟩

set_option maxRecDepth 100000 in
set_option maxHeartbeats 1000000 in
theorem meanF_any (M : Nat) (hM : M < 16777216) (hM0 : M ≠ 0) (f : Nat → Int) (hf : ∀ k, k < 24 → 0 ≤ f k ∧ f k ≤ 60) (w : World) :
    Calls Tryd.prog 163 #[.agg (arrV .i8 24 f), .func (.func 164) #[.int .u32 (M : Int)] #[]] w fun e w' => e = .returned (.int .i64 (mnV f (bitS M))) ∧ Below w.heap.size w w' := by
  have hw := fun k (hk : k < 24) W => fieldWeight_any M k (by omega) hk W
  have hr := fun k (hk : k < 24) W => readingS_any f k hk (fun j hj => by have := hf j hj; omega) W
  have hc := bitS_W3 M
  have hp := bitS_pos hM0 hM
  have Hf := Lib.hid hf; clear hf
  have Hc := Lib.hid hc; clear hc
  have Hw := Lib.hid hw; clear hw
  have Hr := Lib.hid hr; clear hr
  have hmn : mnV f (bitS M) = sumS f (bitS M) 24 / cntS (bitS M) 24 := rfl
  have Hmn := Lib.hid hmn; clear hmn
  have Hp := Lib.hid hp; clear hp hM0
  have K0 := Lib.hid (And.intro (HasArr.new w 28 .i8 24 f) ((Below.refl w.heap.size w).alloc (Nat.le_refl _) (.cells (arrV .i8 24 f) 28)))
  generalize bitS M = c at *
  go_enter Tryd.func163, Tryd.ntmps163
  go_wp2_with fail
  go_loopw [5, 6, 8] (fun s n i wr => ∃ k : Nat, k ≤ 24 ∧ i = .int .i64 k ∧ s = .int .i64 (sumS f c k) ∧ n = .int .i64 (cntS c k) ∧ HasArr wr w.heap.size 28 .i8 24 f ∧ Below w.heap.size w wr) (fun _ _ i _ => 24 - (intOf i).toNat)
  case atStart => exact ⟨0, by omega, rfl, rfl, rfl, K0.out⟩
  case round =>
    obtain ⟨k, hk, rfl, rfl, rfl, h1, hB⟩ := hrel
    clear K0
    by_cases hkn : k < 24
    · have bs := sumS_bd Hf.out Hc.out k hk
      have bn := cntS_bd Hc.out k hk
      have bf := Hf.out k hkn
      have bc := Hc.out k hkn
      have bm := mul_bd bc.1 bc.2 bf.1 bf.2
      have hwk := fun W => Hw.out k hkn W
      have hrk := fun W => Hr.out k hkn W
      have HS := Lib.hid (show sumS f c (k + 1) = sumS f c k + c k * f k from rfl)
      have HN := Lib.hid (show cntS c (k + 1) = cntS c k + c k from rfl)
      have H1 := Lib.hid h1; clear h1
      have HB := Lib.hid hB; clear hB
      generalize sumS f c k = S at *
      generalize cntS c k = N at *
      generalize f k = X at *
      generalize c k = C at *
      generalize hPp : C * X = Pp at *
      have e0 : IntKind.i64.wrap (C * X) = Pp := by rw [hPp]; exact IntWalk.i64_in _ (by omega)
      have e1 : IntKind.i64.wrap (S + Pp) = S + Pp := IntWalk.i64_in _ (by omega)
      have HP := Lib.hid hPp; clear hPp
      have Hwk := Lib.hid hwk; clear hwk
      have Hrk := Lib.hid hrk; clear hrk
      go_wp2_with fail
      refine wp_region_quietD (Below wr.heap.size wr) (by kernel_rfl) (by kernel_rfl) (below_drew1 _) ?_
      have n0 := below_nonempty wr
      quiet_step (fail)
      quiet_step (fail)
      quiet_step (fail)
      quiet_step ((go_at_call 164; exact inCallS _ (Hwk.out _)))
      refine wpQuiet_load_arr (fun W hW => by obtain ⟨x, rfl⟩ := hW; exact H1.out.below x.ok H1.out.lt) 28 (.tmp 2) rfl rfl rfl Tryd.underlying28 sizeScn ?_
      quiet_step (fail)
      quiet_step ((go_at_call 148; exact inCall _ (Hrk.out _)))
      quiet_step (fail)
      quiet_step (fail)
      quiet_step (fail)
      refine wpQuiet_nil ?_
      rintro w2 ⟨⟨w3, hb2⟩, rfl⟩
      clear e0 e1
      have K := Lib.hid (And.intro (H1.out.below hb2 H1.out.lt) (HB.out.trans (Below.mono hb2 HB.out.size)))
      clear H1 HB hb2 n0
      go_wp2_with fail
      refine (Hwk.out _).mono ?_; rintro e w4 ⟨rfl, rfl⟩
      go_wp2_with fail
      go_roundw
      case rel => exact ⟨k + 1, by omega, by go_num, by rw [HS.out], by rw [HN.out], K.out⟩
      case measure => simp [intOf]; omega
    · obtain rfl : k = 24 := by omega
      have bs := sumS_bd Hf.out Hc.out 24 (by omega)
      have bn := Hp.out
      have hm := Hmn.out
      generalize sumS f c 24 = S at *
      generalize cntS c 24 = N at *
      have HM := Lib.hid hm; clear hm
      go_wp2_with fail
      go_ret
      exact ⟨ret_int HM.out.symm, hB⟩

/-- The code of a scene and a field. -/
def fmC (f : Nat → Int) (M : Nat) : Int := if scnB f = true then (if M < 16777216 then (if M = 0 then 4 else 0) else 2) else 1
def fmV (f : Nat → Int) (M : Nat) : Int := ifS (fmC f M) (mnV f (bitS M))
theorem fm_1 {f : Nat → Int} {M : Nat} (h : scnB f = false) : fmC f M = 1 := by simp [fmC, h]
theorem fm_2 {f : Nat → Int} {M : Nat} (h : scnB f = true) (h2 : ¬ M < 16777216) : fmC f M = 2 := by simp [fmC, h, h2]
theorem fm_4 {f : Nat → Int} {M : Nat} (h : scnB f = true) (h2 : M = 0) : fmC f M = 4 := by simp [fmC, h, h2]
theorem fm_0 {f : Nat → Int} {M : Nat} (h : scnB f = true) (h2 : M < 16777216) (h3 : M ≠ 0) : fmC f M = 0 := by simp [fmC, h, h2, h3]
theorem fm_or {f : Nat → Int} {M : Nat} : (fmC f M = 0 ∧ scnB f = true ∧ M < 16777216 ∧ M ≠ 0) ∨ (fmV f M = 0 ∧ (fmC f M = 1 ∨ fmC f M = 2 ∨ fmC f M = 4)) := by
  unfold fmV
  rcases h : scnB f with _ | _
  · right; rw [fm_1 h]; exact ⟨rfl, .inl rfl⟩
  · by_cases h2 : M < 16777216
    · by_cases h3 : M = 0
      · right; rw [fm_4 h h3]; exact ⟨rfl, .inr (.inr rfl)⟩
      · left; exact ⟨fm_0 h h2 h3, rfl, h2, h3⟩
    · right; rw [fm_2 h h2]; exact ⟨rfl, .inr (.inl rfl)⟩

set_option maxRecDepth 100000 in
set_option maxHeartbeats 1000000 in
theorem l06Field_any (b : Nat) (T : TypeId) (f : Nat → Int) (hf : S8 f) (M : Nat) (hM : M < 4294967296) (w : World) (h : HasArr w b T .i8 24 f) :
    Calls Tryd.prog 74 #[.pointer (some ⟨b, 0, none⟩), .int .u32 (M : Int)] w fun e w' => e = .returned (.tuple #[.int .i64 (fmV f M), .int .i64 (fmC f M)]) ∧ Below w.heap.size w w' := by
  have hok := l06Ok_any b T f hf w h
  unfold fmV
  have run := fun (P : Program) (ρ : Operand → Value) (o : Oper) (W : World) (T T2 : TypeId) (x y : Operand) ho hx hy => run_shr32 (P := P) (ρ := ρ) (o := o) (w := W) (T := T) (T2 := T2) (x := x) (y := y) (κ := .u64) (m := M) (k := 24) ho hx hy (by decide)
  have h24 : M / 2 ^ 24 = M / 16777216 := rfl
  rw [h24] at run
  have Run := Lib.hid run; clear run h24
  rcases hv : scnB f with _ | _
  · rw [fm_1 hv, ifS_1]
    rw [hv] at hok
    have Hok := Lib.hid hok; clear hok hv h hf Run
    go_enter Tryd.func74, Tryd.ntmps74
    go_wp2_with fail
    refine Hok.out.mono ?_; rintro e w1 ⟨rfl, rfl⟩
    go_wp2_with fail
    go_ret2
    exact ⟨rfl, Below.refl _ _⟩
  have hb := fun k hk => scnB_bd hv (k := k) hk
  by_cases h2 : M < 16777216
  · have h0 : (((M / 16777216 : Nat) : Int) != 0) = false := by
      have : M / 16777216 = 0 := by omega
      rw [this]; rfl
    by_cases h3 : M = 0
    · rw [fm_4 hv h3, ifS_4]
      rw [hv] at hok
      have h4 : ((M : Int) == 0) = true := by subst h3; rfl
      have Hok := Lib.hid hok; clear hok hv h hf hb h3
      go_enter Tryd.func74, Tryd.ntmps74
      go_wp2_with fail
      refine Hok.out.mono ?_; rintro e w1 ⟨rfl, rfl⟩
      go_wp2_with (refine wpList_yield rfl (Run.out _ _ _ _ _ _ _ _ rfl rfl rfl) ?_)
      go_ret2
      exact ⟨rfl, Below.refl _ _⟩
    · rw [fm_0 hv h2 h3, ifS_0]
      have h4 : ((M : Int) == 0) = false := by simpa using h3
      have hcn := fun W => l06Counts_any M hM W
      have hmn := fun b2 W g1 g2 => l06Mean_any b b2 T 165 f (bitS M) hb (bitS_W3 M) (bitS_pos h3 h2) W g1 g2
      rw [hv] at hok
      have Hok := Lib.hid hok
      have Hcn := Lib.hid hcn
      have Hmn := Lib.hid hmn
      clear hok hv hf hb h3 hcn hmn
      generalize mnV f (bitS M) = V at *
      generalize bitS M = c at *
      go_enter Tryd.func74, Tryd.ntmps74
      go_wp2_with fail
      refine Hok.out.mono ?_; rintro e w1 ⟨rfl, rfl⟩
      go_wp2_with (refine wpList_yield rfl (Run.out _ _ _ _ _ _ _ _ rfl rfl rfl) ?_)
      refine (Hcn.out _).mono ?_; rintro e w1 ⟨rfl, hb1⟩
      have a1 := (h.below hb1 h.lt)
      have z1 := HasArr.zeroL w1 165 (b := w1.heap.size) rfl
      have z2 := z1.setRow .i64 c
      have z3 := (a1.alloc (.cells #[.int .i64 0, .int .i64 0, .int .i64 0, .int .i64 0, .int .i64 0, .int .i64 0, .int .i64 0, .int .i64 0, .int .i64 0, .int .i64 0, .int .i64 0, .int .i64 0, .int .i64 0, .int .i64 0, .int .i64 0, .int .i64 0, .int .i64 0, .int .i64 0, .int .i64 0, .int .i64 0, .int .i64 0, .int .i64 0, .int .i64 0, .int .i64 0] 165)).rowOther (b' := w1.heap.size) (by have := a1.lt; omega) (arrV .i64 24 c)
      have k1 := below_setRow (hb1.alloc hb1.size (.cells #[.int .i64 0, .int .i64 0, .int .i64 0, .int .i64 0, .int .i64 0, .int .i64 0, .int .i64 0, .int .i64 0, .int .i64 0, .int .i64 0, .int .i64 0, .int .i64 0, .int .i64 0, .int .i64 0, .int .i64 0, .int .i64 0, .int .i64 0, .int .i64 0, .int .i64 0, .int .i64 0, .int .i64 0, .int .i64 0, .int .i64 0, .int .i64 0] 165)) (b := w1.heap.size) hb1.size (arrV .i64 24 c)
      have hm := Hmn.out _ _ z3 z2
      have HM := Lib.hid (And.intro hm k1)
      clear z2 z3 k1 hm a1 h hb1
      go_wp2_with (refine wpList_store_arr z1 _ _ _ rfl rfl rfl rfl sizeCnt ?_)
      refine HM.out.1.mono ?_; rintro e w2 ⟨rfl, hb2⟩
      go_wp2_with fail
      go_ret2
      exact ⟨rfl, HM.out.2.trans (hb2.mono HM.out.2.size)⟩
  · have h0 : (((M / 16777216 : Nat) : Int) != 0) = true := by
      have : ((M / 16777216 : Nat) : Int) ≠ 0 := by omega
      simpa using this
    rw [fm_2 hv h2, ifS_2]
    rw [hv] at hok
    have Hok := Lib.hid hok; clear hok hv h hf hb
    go_enter Tryd.func74, Tryd.ntmps74
    go_wp2_with fail
    refine Hok.out.mono ?_; rintro e w1 ⟨rfl, rfl⟩
    go_wp2_with (refine wpList_yield rfl (Run.out _ _ _ _ _ _ _ _ rfl rfl rfl) ?_)
    go_ret2
    exact ⟨rfl, Below.refl _ _⟩

set_option maxRecDepth 100000 in
set_option maxHeartbeats 1000000 in
theorem fieldMean_any (s : Ers) (f : Nat → Int) (M : Nat) (hM : M < 4294967296) (w : World) (hE : ErrEnv s w) :
    Calls Tryd.prog 145 #[.agg (arrV .i8 24 f), .int .u32 (M : Int)] w (CodedP s (.int .i64 (fmV f M)) (fmC f M) w.heap.size w) := by
  have a1 := HasArr.new w 28 .i8 24 f
  have k0 := (Below.refl w.heap.size w).alloc (Nat.le_refl _) (.cells (arrV .i8 24 f) 28)
  have hok := fun W => ValidScene_any f W
  have his := fun W => isOfScene_any M hM W
  have HE := Lib.hid hE; clear hE
  unfold fmV
  rcases hv : scnB f with _ | _
  · rw [fm_1 hv, ifS_1]
    rw [hv] at hok
    have Hok := Lib.hid hok; clear hok hv his
    go_enter Tryd.func145, Tryd.ntmps145
    go_wp2_with (refine wpList_load_arr a1 _ _ rfl rfl rfl Tryd.underlying28 sizeScn ?_)
    refine (Hok.out _).mono ?_; rintro e w1 ⟨rfl, hb1⟩
    have k1 := k0.trans (hb1.mono k0.size)
    have ce := (HE.out.below k1 (Nat.le_refl _)).c_einvalid
    clear a1 hb1 k0
    go_wp2_with fail
    go_quiet (fail)
    go_wp2
    go_ret2
    exact ⟨_, .einvalid, rfl, by (repeat (first | exact Below.refl _ _ | assumption | apply Below.drew | apply below_drewL | apply below_drewP | (refine Below.alloc ?_ (by first | omega | (simp; done) | (simp; omega)) _) | (refine Below.setCell ?_ (by first | omega | (simp; done) | (simp; omega)) _)))⟩
  have hb := fun k hk => scnB_bd hv (k := k) hk
  rw [hv] at hok
  have Hok := Lib.hid hok; clear hok
  by_cases h2 : M < 16777216
  · rw [decide_eq_true h2] at his
    have His := Lib.hid his; clear his
    by_cases h3 : M = 0
    · rw [fm_4 hv h3, ifS_4]
      have h4 : ((M : Int) == 0) = true := by subst h3; rfl
      clear hv hb h3
      go_enter Tryd.func145, Tryd.ntmps145
      go_wp2_with (refine wpList_load_arr a1 _ _ rfl rfl rfl Tryd.underlying28 sizeScn ?_)
      refine (Hok.out _).mono ?_; rintro e w1 ⟨rfl, hb1⟩
      have k1 := k0.trans (hb1.mono k0.size)
      clear a1 hb1 k0
      go_wp2_with fail
      refine (His.out _).mono ?_; rintro e w2 ⟨rfl, rfl⟩
      have ce := (HE.out.below k1 (Nat.le_refl _)).c_estate
      go_wp2_with fail
      go_quiet (fail)
      go_wp2
      go_ret2
      exact ⟨_, .estate, rfl, by (repeat (first | exact Below.refl _ _ | assumption | apply Below.drew | apply below_drewL | apply below_drewP | (refine Below.alloc ?_ (by first | omega | (simp; done) | (simp; omega)) _) | (refine Below.setCell ?_ (by first | omega | (simp; done) | (simp; omega)) _)))⟩
    · rw [fm_0 hv h2 h3, ifS_0]
      have h4 : ((M : Int) == 0) = false := by simpa using h3
      have hmn := fun W => meanF_any M h2 h3 f hb W
      generalize mnV f (bitS M) = V at *
      have Hmn := Lib.hid hmn; clear hmn hv hb h3
      go_enter Tryd.func145, Tryd.ntmps145
      go_wp2_with (refine wpList_load_arr a1 _ _ rfl rfl rfl Tryd.underlying28 sizeScn ?_)
      refine (Hok.out _).mono ?_; rintro e w1 ⟨rfl, hb1⟩
      have k1 := k0.trans (hb1.mono k0.size)
      have b1 := a1.below hb1 a1.lt
      clear a1 hb1 k0
      go_wp2_with fail
      refine (His.out _).mono ?_; rintro e w2 ⟨rfl, rfl⟩
      go_wp2_with (refine wpList_load_arr b1 _ _ rfl rfl rfl Tryd.underlying28 sizeScn ?_)
      refine (Hmn.out _).mono ?_; rintro e w3 ⟨rfl, hb3⟩
      go_wp2_with fail
      go_ret2
      exact ⟨_, .ok, rfl, k1.trans (hb3.mono k1.size)⟩
  · rw [fm_2 hv h2, ifS_2]
    rw [decide_eq_false h2] at his
    have His := Lib.hid his; clear his hv hb
    go_enter Tryd.func145, Tryd.ntmps145
    go_wp2_with (refine wpList_load_arr a1 _ _ rfl rfl rfl Tryd.underlying28 sizeScn ?_)
    refine (Hok.out _).mono ?_; rintro e w1 ⟨rfl, hb1⟩
    have k1 := k0.trans (hb1.mono k0.size)
    clear a1 hb1 k0
    go_wp2_with fail
    refine (His.out _).mono ?_; rintro e w2 ⟨rfl, rfl⟩
    have ce := (HE.out.below k1 (Nat.le_refl _)).c_erange
    go_wp2_with fail
    go_quiet (fail)
    go_wp2
    go_ret2
    exact ⟨_, .erange, rfl, by (repeat (first | exact Below.refl _ _ | assumption | apply Below.drew | apply below_drewL | apply below_drewP | (refine Below.alloc ?_ (by first | omega | (simp; done) | (simp; omega)) _) | (refine Below.setCell ?_ (by first | omega | (simp; done) | (simp; omega)) _)))⟩
end Go.Proofs.YtmphmpddlgcofaaDoor

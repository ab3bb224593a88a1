/-
  Means of fields: what both sides return, for every scene and field. Condition of the program's: its variables hold their own errors.
-/
import Derived.Test.YtaanboedhabheabScn
import Derived.Test.YtaanboedhabheabBit
namespace Go.Proofs.Ytaanboedhabheab
open Go.RowKit

/-- The sum of the first k numbers, each so often as told; how many these are. -/
def sumS (f c : Nat → Int) : Nat → Int
  | 0 => 0
  | k + 1 => sumS f c k + c k * f k
def cntS (c : Nat → Int) : Nat → Int
  | 0 => 0
  | k + 1 => cntS c k + c k
/-- The mean. -/
def mnV (f c : Nat → Int) : Int := sumS f c 24 / cntS c 24
theorem mul_bd {c x : Int} (hc : 0 ≤ c) (hc' : c ≤ 3) (hx : 0 ≤ x) (hx' : x ≤ 60) : 0 ≤ c * x ∧ c * x ≤ 180 := by
  have : c = 0 ∨ c = 1 ∨ c = 2 ∨ c = 3 := by omega
  rcases this with rfl | rfl | rfl | rfl <;> omega
/-- Numbers from 0 to 3. -/
def W3 (c : Nat → Int) : Prop := ∀ k, k < 24 → 0 ≤ c k ∧ c k ≤ 3
theorem sumS_bd {f c : Nat → Int} (hf : ∀ k, k < 24 → 0 ≤ f k ∧ f k ≤ 60) (hc : W3 c) : ∀ k, k ≤ 24 → 0 ≤ sumS f c k ∧ sumS f c k ≤ 180 * k
  | 0, _ => by simp [sumS]
  | k + 1, h => by
    have ih := sumS_bd hf hc k (by omega)
    have h1 := hf k (by omega)
    have h2 := hc k (by omega)
    have h3 := mul_bd h2.1 h2.2 h1.1 h1.2
    rw [sumS]; omega
theorem cntS_bd {c : Nat → Int} (hc : W3 c) : ∀ k, k ≤ 24 → 0 ≤ cntS c k ∧ cntS c k ≤ 3 * k
  | 0, _ => by simp [cntS]
  | k + 1, h => by
    have ih := cntS_bd hc k (by omega)
    have h2 := hc k (by omega)
    rw [cntS]; omega
theorem cntS_pos {c : Nat → Int} (hc : W3 c) {j : Nat} (hj : 1 ≤ c j) : ∀ k, j < k → k ≤ 24 → 1 ≤ cntS c k
  | 0, h, _ => by omega
  | k + 1, h, hk => by
    have h2 := hc k (by omega)
    have h3 := cntS_bd hc k (by omega)
    rw [cntS]
    by_cases e : j = k
    · subst e; omega
    · have := cntS_pos hc hj k (by omega) (by omega); omega
theorem bitS_W3 (M : Nat) : W3 (bitS M) := fun k _ => by unfold bitS; split <;> omega
theorem bitS_pos {M : Nat} (h0 : M ≠ 0) (h1 : M < 16777216) : 1 ≤ cntS (bitS M) 24 := by
  obtain ⟨j, hj⟩ := Nat.exists_testBit_of_ne_zero h0
  have hlt : j < 24 := by
    rcases Nat.lt_or_ge j 24 with h | h
    · exact h
    · rw [Nat.testBit_lt_two_pow (Nat.lt_of_lt_of_le h1 (Nat.le_trans (by decide : 16777216 ≤ 2 ^ 24) (Nat.pow_le_pow_right (by omega) h)))] at hj; cases hj
  exact cntS_pos (bitS_W3 M) (j := j) (by unfold bitS; rw [if_pos hj]; omega) 24 hlt (by omega)
theorem mnV_bd {f c : Nat → Int} (hf : ∀ k, k < 24 → 0 ≤ f k ∧ f k ≤ 60) (hc : W3 c) : 0 ≤ mnV f c ∧ mnV f c ≤ 4320 := by
  have h1 := sumS_bd hf hc 24 (by omega)
  have h2 := cntS_bd hc 24 (by omega)
  unfold mnV
  exact ⟨Int.ediv_nonneg h1.1 h2.1, Int.le_trans (Int.ediv_le_self _ h1.1) (by omega)⟩

theorem zeroArrL : #[.int .i64 0, .int .i64 0, .int .i64 0, .int .i64 0, .int .i64 0, .int .i64 0, .int .i64 0, .int .i64 0, .int .i64 0, .int .i64 0, .int .i64 0, .int .i64 0, .int .i64 0, .int .i64 0, .int .i64 0, .int .i64 0, .int .i64 0, .int .i64 0, .int .i64 0, .int .i64 0, .int .i64 0, .int .i64 0, .int .i64 0, .int .i64 0] = arrV .i64 24 fun _ => 0 := by kernel_rfl

theorem sizeCnt : (Try.prog.info? 40).map (·.size) = some 24 := by kernel_rfl

theorem HasArr.zeroL (w : World) (T : TypeId) {b : Nat} (hb : b = w.heap.size) : HasArr (w.alloc (.cells #[.int .i64 0, .int .i64 0, .int .i64 0, .int .i64 0, .int .i64 0, .int .i64 0, .int .i64 0, .int .i64 0, .int .i64 0, .int .i64 0, .int .i64 0, .int .i64 0, .int .i64 0, .int .i64 0, .int .i64 0, .int .i64 0, .int .i64 0, .int .i64 0, .int .i64 0, .int .i64 0, .int .i64 0, .int .i64 0, .int .i64 0, .int .i64 0] T)) b T .i64 24 fun _ => 0 := by
  subst hb; rw [zeroArrL]; exact HasArr.new w T .i64 24 _
theorem wpList_store_zL {P : Program} {ops : Array Oper} {rest : List Oper} {o : Oper} {a : Act} {w : World} {Q : Exit → Act → World → Prop} {b : Nat} {T : TypeId} {κ : IntKind} {f : Nat → Int}
    (h : HasArr w b T κ 24 f) (ty : TypeId) (x y : Operand) (hgd : o.guard = none) (ho : o.op = .store ty x y) (hx : a.eval x = .pointer (some ⟨b, 0, none⟩)) (hy : a.eval y = .agg #[.int .i64 0, .int .i64 0, .int .i64 0, .int .i64 0, .int .i64 0, .int .i64 0, .int .i64 0, .int .i64 0, .int .i64 0, .int .i64 0, .int .i64 0, .int .i64 0, .int .i64 0, .int .i64 0, .int .i64 0, .int .i64 0, .int .i64 0, .int .i64 0, .int .i64 0, .int .i64 0, .int .i64 0, .int .i64 0, .int .i64 0, .int .i64 0]) (hi : (P.info? ty).map (·.size) = some 24)
    (hK : wpList P ops Q rest (a.put o.dst undef) (w.setRow b (arrV .i64 24 fun _ => 0))) : wpList P ops Q (o :: rest) a w :=
  wpList_store_arr (g := fun _ => 0) h ty x y hgd ho hx (hy.trans (by rw [zeroArrL])) hi hK

set_option maxRecDepth 100000 in
set_option maxHeartbeats 1000000 in
theorem l06Mean_any (b1 b2 : Nat) (T1 T2 : TypeId) (f c : Nat → Int) (hf : ∀ k, k < 24 → 0 ≤ f k ∧ f k ≤ 60) (hc : W3 c) (hp : 1 ≤ cntS c 24) (w : World) (h1 : HasArr w b1 T1 .i8 24 f) (h2 : HasArr w b2 T2 .i64 24 c) :
    Calls Try.prog 22 #[.pointer (some ⟨b1, 0, none⟩), .pointer (some ⟨b2, 0, none⟩)] w fun e w' => e = .returned (.int .i64 (mnV f c)) ∧ Below w.heap.size w w' := by
  have Hf := Lib.hid hf; clear hf
  have Hc := Lib.hid hc; clear hc
  have K0 := Lib.hid (And.intro h1 (And.intro h2 (Below.refl w.heap.size w)))
  have hmn : mnV f c = sumS f c 24 / cntS c 24 := rfl
  have Hmn := Lib.hid hmn; clear hmn
  have Hp := Lib.hid hp; clear hp h1 h2
  go_enter Try.func22, Try.ntmps22
  go_wp2_with fail
  go_loopw [5, 6, 7] (fun s n i wr => ∃ k : Nat, k ≤ 24 ∧ i = .int .i64 k ∧ s = .int .i64 (sumS f c k) ∧ n = .int .i64 (cntS c k) ∧ HasArr wr b1 T1 .i8 24 f ∧ HasArr wr b2 T2 .i64 24 c ∧ Below w.heap.size w wr) (fun _ _ i _ => 24 - (intOf i).toNat)
  case atStart => exact ⟨0, by omega, rfl, rfl, rfl, K0.out⟩
  case round =>
    obtain ⟨k, hk, rfl, rfl, rfl, h1, h2, hB⟩ := hrel
    clear K0
    by_cases hkn : k < 24
    · have bs := sumS_bd Hf.out Hc.out k hk
      have bn := cntS_bd Hc.out k hk
      have bf := Hf.out k hkn
      have bc := Hc.out k hkn
      have bm := mul_bd bc.1 bc.2 bf.1 bf.2
      have c1 := h1.cell hkn
      have c2 := h2.cell hkn
      have w1 : (k : Int) < 24 := by omega
      have w0 : (0 : Int) ≤ (k : Int) := by omega
      have HS := Lib.hid (show sumS f c (k + 1) = sumS f c k + c k * f k from rfl)
      have HN := Lib.hid (show cntS c (k + 1) = cntS c k + c k from rfl)
      have K := Lib.hid (And.intro h1 (And.intro h2 hB)); clear h1 h2 hB
      generalize sumS f c k = S at *
      generalize cntS c k = N at *
      generalize f k = X at *
      generalize c k = C at *
      generalize hPp : C * X = Pp at *
      have e0 : IntKind.i64.wrap (C * X) = Pp := by rw [hPp]; exact IntWalk.i64_in _ (by omega)
      have e1 : IntKind.i64.wrap (S + Pp) = S + Pp := IntWalk.i64_in _ (by omega)
      have HP := Lib.hid hPp; clear hPp
      go_wp2_with fail
      go_quiet (fail)
      clear e0 e1
      go_wp2_with fail
      go_roundw
      case rel => exact ⟨k + 1, by omega, by go_num, by rw [HS.out], by rw [HN.out], K.out.1.drewN _, K.out.2.1.drewN _, below_drewP K.out.2.2 _⟩
      case measure => simp [intOf]; omega
    · obtain rfl : k = 24 := by omega
      have bs := sumS_bd Hf.out Hc.out 24 (by omega)
      have bn := Hp.out
      have hm := Hmn.out
      generalize sumS f c 24 = S at *
      generalize cntS c 24 = N at *
      have HM := Lib.hid hm; clear hm
      go_wp2_with fail
      go_ret
      exact ⟨ret_int HM.out.symm, hB⟩

/-- The code of a scene and a field. -/
def fmC (f : Nat → Int) (M : Nat) : Int := if scnB f = true then (if M < 16777216 then (if M = 0 then 4 else 0) else 2) else 1
def fmV (f : Nat → Int) (M : Nat) : Int := ifS (fmC f M) (mnV f (bitS M))
theorem fm_1 {f : Nat → Int} {M : Nat} (h : scnB f = false) : fmC f M = 1 := by simp [fmC, h]
theorem fm_2 {f : Nat → Int} {M : Nat} (h : scnB f = true) (h2 : ¬ M < 16777216) : fmC f M = 2 := by simp [fmC, h, h2]
theorem fm_4 {f : Nat → Int} {M : Nat} (h : scnB f = true) (h2 : M = 0) : fmC f M = 4 := by simp [fmC, h, h2]
theorem fm_0 {f : Nat → Int} {M : Nat} (h : scnB f = true) (h2 : M < 16777216) (h3 : M ≠ 0) : fmC f M = 0 := by simp [fmC, h, h2, h3]
theorem fm_or {f : Nat → Int} {M : Nat} : (fmC f M = 0 ∧ scnB f = true ∧ M < 16777216 ∧ M ≠ 0) ∨ (fmV f M = 0 ∧ (fmC f M = 1 ∨ fmC f M = 2 ∨ fmC f M = 4)) := by
  unfold fmV
  rcases h : scnB f with _ | _
  · right; rw [fm_1 h]; exact ⟨rfl, .inl rfl⟩
  · by_cases h2 : M < 16777216
    · by_cases h3 : M = 0
      · right; rw [fm_4 h h3]; exact ⟨rfl, .inr (.inr rfl)⟩
      · left; exact ⟨fm_0 h h2 h3, rfl, h2, h3⟩
    · right; rw [fm_2 h h2]; exact ⟨rfl, .inr (.inl rfl)⟩

end Go.Proofs.Ytaanboedhabheab

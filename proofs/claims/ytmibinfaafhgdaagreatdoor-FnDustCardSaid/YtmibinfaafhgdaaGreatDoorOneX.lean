/-
  How many cells a mask has, by the library's OnesCount64. Of whatever mask; no condition.
-/
import Derived.Test.YtmibinfaafhgdaaGreatDoorRsX
namespace Go.Proofs.YtmibinfaafhgdaaGreatDoor
open Go.RowKit

/-! ### PLAIN -/
/-- The bits of a number. -/
def cF : Nat → Nat → Nat
  | 0, _ => 0
  | n + 1, m => m % 2 + cF n (m / 2)
theorem cF_split : ∀ (a b m : Nat), cF (a + b) m = cF a (m % 2 ^ a) + cF b (m / 2 ^ a)
  | 0, b, m => by simp [cF]
  | a + 1, b, m => by
    rw [show a + 1 + b = (a + b) + 1 by omega]
    rw [cF, cF, cF_split a b (m / 2)]
    have h1 : m % 2 ^ (a + 1) % 2 = m % 2 := by rw [Nat.pow_succ]; exact Nat.mod_mod_of_dvd m ⟨2 ^ a, by rw [Nat.mul_comm]⟩
    have h2 : m % 2 ^ (a + 1) / 2 = m / 2 % 2 ^ a := by
      rw [show 2 ^ (a + 1) = 2 * 2 ^ a by rw [Nat.pow_succ, Nat.mul_comm], Nat.mod_mul_right_div_self]
    have h3 : m / 2 ^ (a + 1) = m / 2 / 2 ^ a := by rw [show 2 ^ (a + 1) = 2 * 2 ^ a by rw [Nat.pow_succ, Nat.mul_comm], Nat.div_div_eq_div_mul]
    rw [h1, h2, h3]
    omega
theorem cF_low (j m : Nat) : cF j (m % 2 ^ j) = cF j m := by
  have := cF_split j 0 m
  simp only [Nat.add_zero, cF] at this
  omega
theorem cntB_cF (a : BitVec 64) : ∀ j, cntB a j = cF j a.toNat
  | 0 => rfl
  | j + 1 => by
    have h := cF_split j 1 a.toNat
    rw [cF_low] at h
    have e0 : cntB a (j + 1) = cntB a j + if a.getLsbD j = true then 1 else 0 := rfl
    rw [h, ← cntB_cF a j, e0]
    have e : a.getLsbD j = decide (a.toNat / 2 ^ j % 2 = 1) := by
      show a.toNat.testBit j = _
      rw [Nat.testBit_eq_decide_div_mod_eq]
    rw [e]
    simp only [cF, Nat.add_zero, decide_eq_true_eq]
    split <;> omega
theorem cF_le : ∀ n m, cF n m ≤ n
  | 0, _ => Nat.le_refl _
  | n + 1, m => by have := cF_le n (m / 2); unfold cF; omega

def mk (c : Nat) : Nat → Nat
  | 0 => 0
  | n + 1 => c + 256 * mk c n
theorem and_split (u c M : Nat) (hc : c < 256) : u &&& (c + 256 * M) = ((u % 256) &&& c) + 256 * ((u / 256) &&& M) := by
  have h1 := Nat.and_mod_two_pow (a := u) (b := c + 256 * M) (n := 8)
  have h2 := Nat.and_div_two_pow (a := u) (b := c + 256 * M) (n := 8)
  simp only [show (2 ^ 8 : Nat) = 256 from rfl] at h1 h2
  rw [show (c + 256 * M) % 256 = c by omega] at h1
  rw [show (c + 256 * M) / 256 = M by omega] at h2
  rw [← h1, ← h2]
  generalize u &&& (c + 256 * M) = z
  omega
def s1 (n x : Nat) : Nat := (x / 2 &&& mk 85 n) + (x &&& mk 85 n)
def s2 (n x : Nat) : Nat := (x / 4 &&& mk 51 n) + (x &&& mk 51 n)
def s3 (n x : Nat) : Nat := (x / 16 + x) &&& mk 15 n
def p1 (y : Nat) : Nat := (y / 2 &&& 85) + (y &&& 85)
def p2 (y : Nat) : Nat := (y / 4 &&& 51) + (y &&& 51)
def p3 (y : Nat) : Nat := (y / 16 + y) &&& 15
theorem c1 : ∀ (y : Fin 256) (t : Fin 2), (y.val / 2 + 128 * t.val) &&& 85 = y.val / 2 &&& 85 := by decide +kernel
theorem c2 : ∀ (y : Fin 256) (t : Fin 4), (y.val / 4 + 64 * t.val) &&& 51 = y.val / 4 &&& 51 := by decide +kernel
theorem c3 : ∀ (y : Fin 256) (t : Fin 16), (y.val / 16 + 16 * t.val + y.val) &&& 15 = (y.val / 16 + y.val) &&& 15 := by decide +kernel
theorem c4 : ∀ y : Fin 256, p1 y.val < 256 ∧ p2 (p1 y.val) % 16 ≤ 4 ∧ p2 (p1 y.val) / 16 ≤ 4 ∧ p3 (p2 (p1 y.val)) = cF 8 y.val := by decide +kernel
theorem st1 (n y r : Nat) (hy : y < 256) : s1 (n + 1) (y + 256 * r) = p1 y + 256 * s1 n r := by
  unfold s1 p1
  show ((y + 256 * r) / 2 &&& (85 + 256 * mk 85 n)) + ((y + 256 * r) &&& (85 + 256 * mk 85 n)) = _
  rw [and_split _ _ _ (by omega), and_split _ _ _ (by omega)]
  rw [show (y + 256 * r) / 2 % 256 = y / 2 + 128 * (r % 2) by omega, show (y + 256 * r) / 2 / 256 = r / 2 by omega, show (y + 256 * r) % 256 = y by omega, show (y + 256 * r) / 256 = r by omega]
  have h := c1 ⟨y, hy⟩ ⟨r % 2, by omega⟩
  simp only at h
  rw [h]
  omega
theorem st2 (n y r : Nat) (hy : y < 256) : s2 (n + 1) (y + 256 * r) = p2 y + 256 * s2 n r := by
  unfold s2 p2
  show ((y + 256 * r) / 4 &&& (51 + 256 * mk 51 n)) + ((y + 256 * r) &&& (51 + 256 * mk 51 n)) = _
  rw [and_split _ _ _ (by omega), and_split _ _ _ (by omega)]
  rw [show (y + 256 * r) / 4 % 256 = y / 4 + 64 * (r % 4) by omega, show (y + 256 * r) / 4 / 256 = r / 4 by omega, show (y + 256 * r) % 256 = y by omega, show (y + 256 * r) / 256 = r by omega]
  have h := c2 ⟨y, hy⟩ ⟨r % 4, by omega⟩
  simp only at h
  rw [h]
  omega
theorem st3 (n y r : Nat) (h1 : y % 16 ≤ 4) (h2 : y / 16 ≤ 4) (h3 : r % 16 ≤ 4) : s3 (n + 1) (y + 256 * r) = p3 y + 256 * s3 n r := by
  unfold s3 p3
  show ((y + 256 * r) / 16 + (y + 256 * r)) &&& (15 + 256 * mk 15 n) = _
  rw [and_split _ _ _ (by omega)]
  rw [show ((y + 256 * r) / 16 + (y + 256 * r)) % 256 = y / 16 + 16 * (r % 16) + y by omega, show ((y + 256 * r) / 16 + (y + 256 * r)) / 256 = r / 16 + r by omega]
  have h := c3 ⟨y, by omega⟩ ⟨r % 16, by omega⟩
  simp only at h
  rw [h]
theorem s21_succ (n x : Nat) : s2 (n + 1) (s1 (n + 1) x) = p2 (p1 (x % 256)) + 256 * s2 n (s1 n (x / 256)) := by
  have hx : x % 256 < 256 := Nat.mod_lt _ (by omega)
  have h := st1 n (x % 256) (x / 256) hx
  rw [show x % 256 + 256 * (x / 256) = x by omega] at h
  rw [h]
  exact st2 n _ _ (c4 ⟨x % 256, hx⟩).1
theorem s21_low (n x : Nat) : s2 n (s1 n x) % 16 ≤ 4 := by
  cases n with
  | zero => simp [s2, mk]
  | succ n =>
    have hx : x % 256 < 256 := Nat.mod_lt _ (by omega)
    have h := (c4 ⟨x % 256, hx⟩).2.1
    simp only at h
    rw [s21_succ]; omega
theorem s21_le (n x : Nat) : s2 n (s1 n x) ≤ mk 68 n := by
  induction n generalizing x with
  | zero => simp [s2, mk]
  | succ n ih =>
    have hx : x % 256 < 256 := Nat.mod_lt _ (by omega)
    have h := (c4 ⟨x % 256, hx⟩).2
    have h2 := ih (x / 256)
    simp only at h
    rw [s21_succ]
    show _ ≤ 68 + 256 * mk 68 n
    omega
theorem s1_le (n x : Nat) : s1 n x ≤ mk 255 n := by
  induction n generalizing x with
  | zero => simp [s1, mk]
  | succ n ih =>
    have hx : x % 256 < 256 := Nat.mod_lt _ (by omega)
    have h := (c4 ⟨x % 256, hx⟩).1
    have h2 := ih (x / 256)
    simp only at h
    have h3 := st1 n (x % 256) (x / 256) hx
    rw [show x % 256 + 256 * (x / 256) = x by omega] at h3
    rw [h3]
    show _ ≤ 255 + 256 * mk 255 n
    omega
def sF (n x : Nat) : Nat := s3 n (s2 n (s1 n x))
theorem sF_succ (n x : Nat) : sF (n + 1) x = cF 8 (x % 256) + 256 * sF n (x / 256) := by
  have hx : x % 256 < 256 := Nat.mod_lt _ (by omega)
  have h := c4 ⟨x % 256, hx⟩
  simp only at h
  unfold sF
  rw [s21_succ, st3 _ _ _ h.2.1 h.2.2.1 (s21_low _ _), h.2.2.2]
theorem sF_0 (x : Nat) : sF 0 x = 0 := by simp [sF, s3, mk]
theorem cF_8 (n x : Nat) : cF (8 + n) x = cF 8 (x % 256) + cF n (x / 256) := cF_split 8 n x
theorem half_low (a b c d R : Nat) (ha : a ≤ 8) (hb : b ≤ 8) (hc : c ≤ 8) (hd : d ≤ 8) (y : Nat) (hy : y = a + 256 * b + 65536 * c + 16777216 * d + 4294967296 * R) :
    ∃ Z, y + y / 256 + (y + y / 256) / 65536 = (a + b + c + d) + 256 * Z := by
  have h1 : y / 256 = b + 256 * c + 65536 * d + 16777216 * R := by omega
  have h2 : (y + y / 256) / 65536 = (c + d) + 256 * d + 65536 * R + 256 * R := by omega
  rw [h2, h1, hy]
  exact ⟨b + 256 * c + 65536 * d + 16777216 * R + (c + 256 * d + 65536 * R) + d + 256 * R + R, by omega⟩
theorem half_high (L e f g h : Nat) (hL : L ≤ 134744072) (he : e ≤ 8) (hf : f ≤ 8) (hg : g ≤ 8) (hh : h ≤ 8) (y : Nat) (hy : y = L + 4294967296 * (e + 256 * f + 65536 * g + 16777216 * h)) :
    ∃ Z, (y + y / 256 + (y + y / 256) / 65536) / 4294967296 = (e + f + g + h) + 256 * Z := by
  obtain ⟨R, hR⟩ : ∃ R, R = e + 256 * f + 65536 * g + 16777216 * h := ⟨_, rfl⟩
  rw [← hR] at hy
  have q1 : R / 256 = f + 256 * g + 65536 * h := by omega
  have q2 : R / 65536 = g + 256 * h := by omega
  have q3 : R / 16777216 = h := by omega
  have h1 : y / 256 = L / 256 + 16777216 * R := by omega
  have h2 : (y + y / 256) / 65536 = (L + L / 256 + 16777216 * (R % 256)) / 65536 + 65536 * (R + R / 256) := by omega
  have h3 : (L + L / 256 + 16777216 * (R % 256)) / 65536 ≤ 70000 := by omega
  obtain ⟨K, hK⟩ : ∃ K, K = (L + L / 256 + 16777216 * (R % 256)) / 65536 := ⟨_, rfl⟩
  rw [← hK] at h2 h3
  have q4 : R / 256 / 65536 = h := by omega
  refine ⟨f + 256 * g + 65536 * h + (g + 256 * h) + h, ?_⟩
  rw [h2, h1, hy]
  have q5 : (R + R / 256) / 65536 = (g + 256 * h) + h := by omega
  have q6 : (R + R / 256) % 65536 = (e + f) + 256 * (f + g) := by omega
  omega
theorem tail_sum (a b c d e f g h : Nat) (ha : a ≤ 8) (hb : b ≤ 8) (hc : c ≤ 8) (hd : d ≤ 8) (he : e ≤ 8) (hf : f ≤ 8) (hg : g ≤ 8) (hh : h ≤ 8) (y : Nat)
    (hy : y = a + 256 * (b + 256 * (c + 256 * (d + 256 * (e + 256 * (f + 256 * (g + 256 * h))))))) :
    ∃ t1 t2 t3, t1 = y + y / 256 ∧ t2 = t1 + t1 / 65536 ∧ t3 = t2 + t2 / 4294967296 ∧ t1 < 9223372036854775808 ∧ t2 < 9223372036854775808 ∧ t3 < 9223372036854775808 ∧ t3 % 128 = a + b + c + d + e + f + g + h := by
  have hb0 : y < 1152921504606846976 := by omega
  obtain ⟨Z1, e1⟩ := half_low a b c d (e + 256 * f + 65536 * g + 16777216 * h) ha hb hc hd y (by omega)
  obtain ⟨Z2, e2⟩ := half_high (a + 256 * b + 65536 * c + 16777216 * d) e f g h (by omega) he hf hg hh y (by omega)
  clear hy
  have b1 : y + y / 256 < 2305843009213693952 := by omega
  refine ⟨_, _, _, rfl, rfl, rfl, by omega, by omega, by omega, ?_⟩
  rw [e2, e1]
  omega

/-! ### AS BIT VECTORS -/
def w1 (a : BitVec 64) : BitVec 64 := (a >>> 1 &&& 6148914691236517205#64) + (a &&& 6148914691236517205#64)
def w2 (a : BitVec 64) : BitVec 64 := (a >>> 2 &&& 3689348814741910323#64) + (a &&& 3689348814741910323#64)
def w3 (a : BitVec 64) : BitVec 64 := (a >>> 4 + a) &&& 1085102592571150095#64
def w4 (a : BitVec 64) : BitVec 64 := a + a >>> 8
def w5 (a : BitVec 64) : BitVec 64 := a + a >>> 16
def w6 (a : BitVec 64) : BitVec 64 := a + a >>> 32
theorem w1_nat (a : BitVec 64) : (w1 a).toNat = s1 8 a.toNat := by
  have h := s1_le 8 a.toNat
  have hm : mk 85 8 = 6148914691236517205 := by decide +kernel
  have hm2 : mk 255 8 = 18446744073709551615 := by decide +kernel
  unfold w1
  rw [BitVec.toNat_add, BitVec.toNat_and, BitVec.toNat_and, BitVec.toNat_ushiftRight, Nat.shiftRight_eq_div_pow]
  unfold s1 at h ⊢
  rw [hm, hm2] at h
  rw [hm, show (6148914691236517205#64 : BitVec 64).toNat = 6148914691236517205 from by decide +kernel, show (2 : Nat) ^ 1 = 2 from rfl]
  exact Nat.mod_eq_of_lt (by show _ < 18446744073709551616; omega)
theorem w2_nat (a : BitVec 64) (x : Nat) (ha : a.toNat = s1 8 x) : (w2 a).toNat = s2 8 (s1 8 x) := by
  have h := s21_le 8 x
  have hm : mk 51 8 = 3689348814741910323 := by decide +kernel
  have hm2 : mk 68 8 = 4919131752989213764 := by decide +kernel
  rw [hm2] at h
  unfold w2
  rw [BitVec.toNat_add, BitVec.toNat_and, BitVec.toNat_and, BitVec.toNat_ushiftRight, Nat.shiftRight_eq_div_pow, ha]
  generalize s1 8 x = q at *
  unfold s2 at h ⊢
  rw [hm] at h ⊢
  rw [show (3689348814741910323#64 : BitVec 64).toNat = 3689348814741910323 from by decide +kernel, show (2 : Nat) ^ 2 = 4 from rfl]
  exact Nat.mod_eq_of_lt (by show _ < 18446744073709551616; omega)
theorem w3_nat (a : BitVec 64) (x : Nat) (ha : a.toNat = s2 8 (s1 8 x)) : (w3 a).toNat = sF 8 x := by
  have h := s21_le 8 x
  have hm : mk 15 8 = 1085102592571150095 := by decide +kernel
  have hm2 : mk 68 8 = 4919131752989213764 := by decide +kernel
  rw [hm2] at h
  unfold w3
  rw [BitVec.toNat_and, BitVec.toNat_add, BitVec.toNat_ushiftRight, Nat.shiftRight_eq_div_pow, ha]
  unfold sF
  generalize s2 8 (s1 8 x) = q at *
  unfold s3
  rw [hm, Nat.mod_eq_of_lt (by show _ < 18446744073709551616; omega)]
  rfl
def onesB (a : BitVec 64) : BitVec 64 := w6 (w5 (w4 (w3 (w2 (w1 a)))))
theorem ones_nat (a : BitVec 64) : (onesB a).toNat < 9223372036854775808 ∧ (onesB a).toNat % 128 = cntB a 64 := by
  have e3 := w3_nat _ _ (w2_nat _ _ (w1_nat a))
  have hF : sF 8 a.toNat = cF 8 (a.toNat % 256) + 256 * (cF 8 (a.toNat / 256 % 256) + 256 * (cF 8 (a.toNat / 256 / 256 % 256) + 256 * (cF 8 (a.toNat / 256 / 256 / 256 % 256) + 256 * (cF 8 (a.toNat / 256 / 256 / 256 / 256 % 256) + 256 * (cF 8 (a.toNat / 256 / 256 / 256 / 256 / 256 % 256) + 256 * (cF 8 (a.toNat / 256 / 256 / 256 / 256 / 256 / 256 % 256) + 256 * (cF 8 (a.toNat / 256 / 256 / 256 / 256 / 256 / 256 / 256 % 256)))))))) := by rw [sF_succ, sF_succ, sF_succ, sF_succ, sF_succ, sF_succ, sF_succ, sF_succ, sF_0, Nat.mul_zero, Nat.add_zero]
  have hC : cF (8 + (8 + (8 + (8 + (8 + (8 + (8 + (8 + 0)))))))) a.toNat = cF 8 (a.toNat % 256) + (cF 8 (a.toNat / 256 % 256) + (cF 8 (a.toNat / 256 / 256 % 256) + (cF 8 (a.toNat / 256 / 256 / 256 % 256) + (cF 8 (a.toNat / 256 / 256 / 256 / 256 % 256) + (cF 8 (a.toNat / 256 / 256 / 256 / 256 / 256 % 256) + (cF 8 (a.toNat / 256 / 256 / 256 / 256 / 256 / 256 % 256) + (cF 8 (a.toNat / 256 / 256 / 256 / 256 / 256 / 256 / 256 % 256)))))))) := by
    rw [cF_8, cF_8, cF_8, cF_8, cF_8, cF_8, cF_8, cF_8]
    simp only [show ∀ z, cF 0 z = 0 from fun _ => rfl, Nat.add_zero]
  obtain ⟨t1, t2, t3, h1, h2, h3, b1, b2, b3, hs⟩ := tail_sum _ _ _ _ _ _ _ _ (cF_le _ _) (cF_le _ _) (cF_le _ _) (cF_le _ _) (cF_le _ _) (cF_le _ _) (cF_le _ _) (cF_le _ _) _ hF
  have e4 : (w4 (w3 (w2 (w1 a)))).toNat = t1 := by
    unfold w4
    rw [BitVec.toNat_add, BitVec.toNat_ushiftRight, Nat.shiftRight_eq_div_pow, e3, h1]
    exact Nat.mod_eq_of_lt (by show sF 8 a.toNat + sF 8 a.toNat / 256 < 18446744073709551616; omega)
  have e5 : (w5 (w4 (w3 (w2 (w1 a))))).toNat = t2 := by
    unfold w5
    rw [BitVec.toNat_add, BitVec.toNat_ushiftRight, Nat.shiftRight_eq_div_pow, e4, h2]
    exact Nat.mod_eq_of_lt (by show t1 + t1 / 65536 < 18446744073709551616; omega)
  have e6 : (onesB a).toNat = t3 := by
    unfold onesB w6
    rw [BitVec.toNat_add, BitVec.toNat_ushiftRight, Nat.shiftRight_eq_div_pow, e5, h3]
    exact Nat.mod_eq_of_lt (by show t2 + t2 / 4294967296 < 18446744073709551616; omega)
  rw [e6, cntB_cF, show cF 64 a.toNat = _ from hC, hs]
  refine ⟨b3, ?_⟩
  omega
end Go.Proofs.YtmibinfaafhgdaaGreatDoor

namespace Go.Proofs.YtmibinfaafhgdaaGreatDoor
open Go.RowKit

theorem run_add_bv {P : Program} {ρ : Operand → Value} {o : Oper} {w : World} {T T2 : TypeId} {x y : Operand} {a b : BitVec 64} (ho : o.op = .binOp .add T x y T2) (hx : ρ x = .int .u64 (bvI a)) (hy : ρ y = .int .u64 (bvI b)) :
    (execOp ρ o).run P w = .ok (.value (.int .u64 (bvI (a + b)))) w := by
  have hw : IntKind.u64.wrap (bvI a + bvI b) = bvI (a + b) := by
    unfold bvI
    rw [IntKind.wrap_u64, BitVec.toNat_add]; omega
  unfold execOp
  simp only [ho, hx, hy]
  simp [binOp, Op.intArith, eqGuard, hw]
theorem run_and127 {P : Program} {ρ : Operand → Value} {o : Oper} {w : World} {T T2 : TypeId} {x y : Operand} {m c : Nat} (ho : o.op = .binOp .and T x y T2) (hx : ρ x = .int .i64 (m : Int)) (hy : ρ y = .int .i64 127) (hm : m < 9223372036854775808) (hc : m % 128 = c) :
    (execOp ρ o).run P w = .ok (.value (.int .i64 (c : Int))) w := by
  have hb : (BitVec.ofNat 64 m &&& BitVec.ofNat 64 127).toNat = c := by
    rw [BitVec.toNat_and, BitVec.toNat_ofNat, BitVec.toNat_ofNat, Nat.mod_eq_of_lt (by omega), ← hc]
    exact Nat.and_two_pow_sub_one_eq_mod m 7
  have hw : IntKind.i64.wrap ((c : Nat) : Int) = ((c : Nat) : Int) := IntWalk.i64_in _ (by omega)
  unfold execOp
  simp only [ho, hx, hy]
  simp [binOp, Op.intBits, IntKind.bits, eqGuard]
  show IntKind.i64.wrap (((BitVec.ofNat 64 m &&& BitVec.ofNat 64 127).toNat : Nat) : Int) = _
  rw [hb, hw]

set_option maxRecDepth 100000 in
set_option maxHeartbeats 2000000 in
theorem OnesCount64_any (a : BitVec 64) (w : World) :
    Calls Tryz.prog 88 #[.int .u64 (bvI a)] w fun e w' => e = .returned (.int .i64 ((cntB a 64 : Nat) : Int)) ∧ w = w' := by
  obtain ⟨h1, h2⟩ := ones_nat a
  have e1 : IntKind.i64.wrap (bvI (w6 (w5 (w4 (w3 (w2 (w1 a))))))) = (((onesB a).toNat : Nat) : Int) := by
    show IntKind.i64.wrap (((onesB a).toNat : Nat) : Int) = _
    exact IntWalk.i64_in _ (by omega)
  have H := Lib.hid (And.intro h1 h2); clear h1 h2
  have H1 := Lib.hid (show (a >>> 1 &&& 6148914691236517205#64) + (a &&& 6148914691236517205#64) = w1 a from rfl)
  have H2 := Lib.hid (fun X : BitVec 64 => show (X >>> 2 &&& 3689348814741910323#64) + (X &&& 3689348814741910323#64) = w2 X from rfl)
  have H3 := Lib.hid (fun X : BitVec 64 => show (X >>> 4 + X) &&& 1085102592571150095#64 = w3 X from rfl)
  have H4 := Lib.hid (fun X : BitVec 64 => show X + X >>> 8 = w4 X from rfl)
  have H5 := Lib.hid (fun X : BitVec 64 => show X + X >>> 16 = w5 X from rfl)
  have H6 := Lib.hid (fun X : BitVec 64 => show X + X >>> 32 = w6 X from rfl)
  go_enter Tryz.func88, Tryz.ntmps88
  go_wp2_with (first
    | (refine wpList_yield rfl (run_shr_bv (κ := .u64) (k := 1) rfl rfl rfl (by decide)) ?_)
    | (refine wpList_yield rfl (run_shr_bv (κ := .u64) (k := 2) rfl rfl rfl (by decide)) ?_)
    | (refine wpList_yield rfl (run_shr_bv (κ := .u64) (k := 4) rfl rfl rfl (by decide)) ?_)
    | (refine wpList_yield rfl (run_shr_bv (κ := .u64) (k := 8) rfl rfl rfl (by decide)) ?_)
    | (refine wpList_yield rfl (run_shr_bv (κ := .u64) (k := 16) rfl rfl rfl (by decide)) ?_)
    | (refine wpList_yield rfl (run_shr_bv (κ := .u64) (k := 32) rfl rfl rfl (by decide)) ?_)
    | (refine wpList_yield rfl (run_and_bv (b := 6148914691236517205#64) rfl rfl rfl) ?_)
    | (refine wpList_yield rfl (run_and_bv (b := 3689348814741910323#64) rfl rfl rfl) ?_)
    | (refine wpList_yield rfl (run_and_bv (b := 1085102592571150095#64) rfl rfl rfl) ?_; rw [H3.out])
    | (refine wpList_yield rfl (run_add_bv rfl rfl rfl) ?_; first | rw [H1.out] | rw [H2.out] | rw [H4.out] | rw [H5.out] | rw [H6.out] | skip)
    | (refine wpList_yield rfl (run_and127 (m := (onesB a).toNat) rfl rfl rfl H.out.1 H.out.2) ?_))
  go_ret
  exact ⟨rfl, rfl⟩

set_option maxHeartbeats 1000000 in
theorem count_any (a : BitVec 64) (w : World) :
    Calls Tryz.prog 78 #[.int .u64 (bvI a)] w fun e w' => e = .returned (.int .i64 ((cntB a 64 : Nat) : Int)) ∧ w = w' := by
  have H := Lib.hid (OnesCount64_any a w)
  have hb := cntB_le a 64
  generalize cntB a 64 = C at *
  go_enter Tryz.func78, Tryz.ntmps78
  go_wp2_with (go_at_call 88; refine H.out.mono ?_; rintro e w2 ⟨rfl, rfl⟩)
  go_ret
  exact ⟨rfl, rfl⟩
end Go.Proofs.YtmibinfaafhgdaaGreatDoor

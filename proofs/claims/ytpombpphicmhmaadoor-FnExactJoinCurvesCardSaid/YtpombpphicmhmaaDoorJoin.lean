/-
  Two curves joined: plain arithmetic; what the program's and the reference's functions return. Condition: at most 1048576 points each; for the program: its variables hold their own errors.
-/
import Derived.Test.YtpombpphicmhmaaDoorConcat
import Derived.Test.YtpombpphicmhmaaDoorChanged
namespace Go.Proofs.YtpombpphicmhmaaDoor
open Go.RowKit

/-! ### HOW MANY POINTS LIE AHEAD -/
def seekN (xs : Nat → Int) (x : Int) : Nat → Nat → Nat
  | 0, k => k
  | m + 1, k => if xs k < x then seekN xs x m (k + 1) else k
theorem seekN_is (xs : Nat → Int) (x : Int) : ∀ m k, k ≤ seekN xs x m k ∧ seekN xs x m k ≤ k + m ∧ (∀ j, k ≤ j → j < seekN xs x m k → xs j < x) ∧ (seekN xs x m k < k + m → x ≤ xs (seekN xs x m k))
  | 0, k => ⟨Nat.le_refl _, Nat.le_refl _, fun j h h' => by simp only [seekN] at h'; omega, fun h => by simp only [seekN] at h; omega⟩
  | m + 1, k => by
    rw [seekN]
    by_cases h : xs k < x
    · rw [if_pos h]
      obtain ⟨h1, h2, h3, h4⟩ := seekN_is xs x m (k + 1)
      refine ⟨by omega, by omega, fun j hj hj' => ?_, fun h5 => h4 (by omega)⟩
      by_cases e : j = k
      · rw [e]; exact h
      · exact h3 j (by omega) hj'
    · rw [if_neg h]
      exact ⟨Nat.le_refl _, by omega, fun j h1 h2 => by omega, fun _ => by omega⟩
def aheadN (n : Nat) (xs : Nat → Int) (x : Int) : Nat := seekN xs x n 0
theorem ahead_is (n : Nat) (xs : Nat → Int) (x : Int) : aheadN n xs x ≤ n ∧ (∀ j, j < aheadN n xs x → xs j < x) ∧ (aheadN n xs x < n → x ≤ xs (aheadN n xs x)) := by
  obtain ⟨_, h2, h3, h4⟩ := seekN_is xs x n 0
  unfold aheadN
  exact ⟨by omega, fun j hj => h3 j (Nat.zero_le _) hj, fun h => h4 (by omega)⟩
theorem ahead_eq {n K : Nat} {xs : Nat → Int} {x : Int} (h1 : K ≤ n) (h2 : ∀ j, j < K → xs j < x) (h3 : K < n → x ≤ xs K) : aheadN n xs x = K := by
  obtain ⟨a1, a2, a3⟩ := ahead_is n xs x
  rcases Nat.lt_trichotomy (aheadN n xs x) K with h | h | h
  · have := h2 _ h
    have := a3 (by omega)
    omega
  · exact h
  · have := a2 _ h
    have := h3 (by omega)
    omega
theorem ahead_iff {n : Nat} {xs ys : Nat → Int} (c : Crv n xs ys) (x : Int) {j : Nat} (hj : j < n) : xs j < x ↔ j < aheadN n xs x := by
  obtain ⟨a1, a2, a3⟩ := ahead_is n xs x
  refine ⟨fun h => ?_, fun h => a2 j h⟩
  rcases Nat.lt_or_ge j (aheadN n xs x) with h1 | h1
  · exact h1
  · exfalso
    have h2 := a3 (by omega)
    rcases Nat.lt_or_eq_of_le h1 with h3 | h3
    · have := (c.mono (aheadN n xs x) j h3 hj).1
      omega
    · rw [h3] at h2; omega

/-- The points of two curves joined. -/
def jn (K M : Nat) (xs us : Nat → Int) (i : Nat) : Int := if i < K then xs i else us (M + (i - K))
theorem jn_lt {K M : Nat} {xs us : Nat → Int} {i : Nat} (h : i < K) : jn K M xs us i = xs i := if_pos h
theorem jn_ge {K M : Nat} {xs us : Nat → Int} (q : Nat) : jn K M xs us (K + q) = us (M + q) := by
  unfold jn
  rw [if_neg (by omega), show K + q - K = q by omega]
theorem listC_congr {fs es fs' es' : Nat → Int} : ∀ k : Nat, (∀ i, i < k → fs i = fs' i ∧ es i = es' i) → listCurve fs es k = listCurve fs' es' k
  | 0, _ => rfl
  | k + 1, h => by
    simp only [listCurve, listC_congr k (fun i hi => h i (by omega)), (h k (by omega)).1, (h k (by omega)).2]
theorem listC_append (F0 F1 : Nat → Int) (K : Nat) : ∀ q : Nat, listCurve F0 F1 (K + q) = listCurve F0 F1 K ++ listCurve (fun j => F0 (K + j)) (fun j => F1 (K + j)) q
  | 0 => by simp [listCurve]
  | q + 1 => by
    rw [← Nat.add_assoc]
    simp only [listCurve, listC_append F0 F1 K q, List.append_assoc]
theorem listC_join (K M q : Nat) (xs ys us vs : Nat → Int) : listCurve xs ys K ++ listCurve (fun j => us (M + j)) (fun j => vs (M + j)) q = listCurve (jn K M xs us) (jn K M ys vs) (K + q) := by
  rw [listC_append, listC_congr (fs := xs) (es := ys) (fs' := jn K M xs us) (es' := jn K M ys vs) K (fun i hi => ⟨(jn_lt hi).symm, (jn_lt hi).symm⟩),
    listC_congr (fs := fun j => us (M + j)) (es := fun j => vs (M + j)) (fs' := fun j => jn K M xs us (K + j)) (es' := fun j => jn K M ys vs (K + j)) q (fun i _ => ⟨(jn_ge i).symm, (jn_ge i).symm⟩)]
theorem jn_small {n m K M : Nat} {xs ys us vs : Nat → Int} (c : Crv n xs ys) (c' : Crv m us vs) (hK : K ≤ n) (hM : M ≤ m) : SmallP (K + (m - M)) (jn K M xs us) (jn K M ys vs) := fun j hj => by
  unfold jn
  by_cases h : j < K
  · rw [if_pos h, if_pos h]
    exact c.small (by omega)
  · rw [if_neg h, if_neg h]
    exact c'.small (by omega)
/-- The code of two curves joined. -/
def jnC (n : Nat) (xs ys : Nat → Int) (m : Nat) (us vs : Nat → Int) (x : Int) (N : Nat) (F0 F1 : Nat → Int) : Int :=
  if validC n xs ys = true then (if validC m us vs = true then (if inB x (-200) 200 = true then (if shapedB N F0 F1 = true then (if N ≤ 12 then 0 else 3) else 4) else 2) else 1) else 1
section
variable {n : Nat} {xs ys : Nat → Int} {m : Nat} {us vs : Nat → Int} {x : Int} {N : Nat} {F0 F1 : Nat → Int}
theorem jn_1 (h : validC n xs ys = false) : jnC n xs ys m us vs x N F0 F1 = 1 := by simp [jnC, h]
theorem jn_1' (h : validC n xs ys = true) (h2 : validC m us vs = false) : jnC n xs ys m us vs x N F0 F1 = 1 := by simp [jnC, h, h2]
theorem jn_2 (h : validC n xs ys = true) (h2 : validC m us vs = true) (h3 : inB x (-200) 200 = false) : jnC n xs ys m us vs x N F0 F1 = 2 := by simp [jnC, h, h2, h3]
theorem jn_4 (h : validC n xs ys = true) (h2 : validC m us vs = true) (h3 : inB x (-200) 200 = true) (h4 : shapedB N F0 F1 = false) : jnC n xs ys m us vs x N F0 F1 = 4 := by simp [jnC, h, h2, h3, h4]
theorem jn_3 (h : validC n xs ys = true) (h2 : validC m us vs = true) (h3 : inB x (-200) 200 = true) (h4 : shapedB N F0 F1 = true) (h5 : ¬ N ≤ 12) : jnC n xs ys m us vs x N F0 F1 = 3 := by simp [jnC, h, h2, h3, h4, h5]
theorem jn_0 (h : validC n xs ys = true) (h2 : validC m us vs = true) (h3 : inB x (-200) 200 = true) (h4 : shapedB N F0 F1 = true) (h5 : N ≤ 12) : jnC n xs ys m us vs x N F0 F1 = 0 := by simp [jnC, h, h2, h3, h4, h5]
end
theorem shaped_zero (F0 F1 : Nat → Int) : shapedB 0 F0 F1 = false := by simp [shapedB]
theorem own_zero {w : World} {base size n : Nat} {e : TypeId} {v : Value} {xs : List Value} (h : w.ownsRow base e size v n xs) (hn : n = 0) : ∃ A cap, v = .slice A 0 cap := by
  subst hn
  rcases h.2 with ⟨rfl, _⟩ | ⟨b, cap, cur, rfl, _⟩
  · exact ⟨_, _, rfl⟩
  · exact ⟨_, _, rfl⟩

/-! ### THE FUNCTIONS -/
theorem countAhead_any (b n cap : Nat) (xs ys : Nat → Int) (x : Int) (hn : n ≤ 1048576) (hs : SmallP n xs ys) (w : World) (hr : PtRow w b n xs ys) :
    Calls Tryd.prog 78 #[.slice (some ⟨b, 0, none⟩) n cap, .int .i64 x] w fun e w' => e = .returned (.int .i64 (aheadN n xs x)) ∧ w = w' := by
  go_enter Tryd.func78, Tryd.ntmps78
  go_wp2
  go_loop [5] (fun i => ∃ k : Nat, k ≤ n ∧ i = .int .i64 k ∧ ∀ j, j < k → xs j < x) (fun i => n - (intOf i).toNat)
  case atStart => exact ⟨0, Nat.zero_le _, rfl, fun j hj => by omega⟩
  case round =>
    obtain ⟨k, hk, rfl, hp⟩ := hrel
    have Hp := Lib.hid hp; clear hp
    by_cases hkn : k < n
    · have c0 := hr.cell0 hkn
      have hsk := (hs k hkn).1
      have w3 : (k : Int) < n := by omega
      by_cases hc : xs k < x
      · have Hc := Lib.hid hc
        go_wp2
        go_round
        case rel => exact ⟨k + 1, by omega, by go_num, fun j hj => by
          by_cases e : j = k
          · rw [e]; exact Hc.out
          · exact Hp.out j (by omega)⟩
        case measure => simp [intOf]; omega
      · have hd : decide (xs k < x) = false := decide_eq_false hc
        have he := ahead_eq (n := n) hk Hp.out (fun _ => by omega)
        have He := Lib.hid he; clear he
        go_wp2
        go_ret
        exact ⟨ret_int (by rw [He.out]), rfl⟩
    · have e : k = n := by omega
      subst e
      have he := ahead_eq (n := k) (Nat.le_refl _) Hp.out (fun h => by omega)
      have He := Lib.hid he; clear he
      go_wp2
      go_ret
      exact ⟨ret_int (by rw [He.out]), rfl⟩
theorem l02Shape_nil (A : Option Addr) (cap : Nat) (w : World) : Calls Tryd.prog 61 #[.slice A 0 cap] w fun e w' => e = .returned (.bool false) ∧ w = w' := by
  go_enter Tryd.func61, Tryd.ntmps61
  go_wp2
  refine wp_loop_rounds 1 ?_
  rw [rounds_succ]
  go_wp2
  go_ret
  exact ⟨rfl, rfl⟩
theorem isShaped_nil (A : Option Addr) (cap : Nat) (w : World) : Calls Tryd.prog 79 #[.slice A 0 cap] w fun e w' => e = .returned (.bool false) ∧ Below w.heap.size w w' := by
  have k0 := fun W => hasPoints_any A 0 cap W
  have K0 := Lib.hid k0; clear k0
  go_enter Tryd.func79, Tryd.ntmps79
  go_wp2_with fail
  refine wp_loop_rounds 1 ?_
  rw [rounds_succ]
  go_wp2_with fail
  refine (K0.out _).mono ?_; rintro e w1 ⟨rfl, rfl⟩
  go_wp2_with fail
  go_ret
  exact ⟨rfl, (Below.refl _ _).alloc (Nat.le_refl _) _⟩
theorem part_cut {w : World} {b n k q o : Nat} {xs ys : Nat → Int} (h : PtRow w b n xs ys) (hq : k + q ≤ n) (ho : 0 < q → o = k * 2) : Part w b o q (fun j => xs (k + j)) (fun j => ys (k + j)) := by
  rcases Nat.eq_zero_or_pos q with rfl | h0
  · exact Part.none w h.lt _ _ _
  · rw [ho h0]; exact Part.of_row h hq

set_option maxRecDepth 100000 in
set_option maxHeartbeats 2000000 in
theorem joinCurves_any (s : Ers) (b n cap : Nat) (xs ys : Nat → Int) (b' m cap' : Nat) (us vs : Nat → Int) (x : Int) (hn : n ≤ 1048576) (hm : m ≤ 1048576) (hs : SmallP n xs ys) (hs' : SmallP m us vs) (hc : n ≤ cap) (hc' : m ≤ cap')
    (w : World) (hr : PtRow w b n xs ys) (hr' : PtRow w b' m us vs) (hE : ErrEnv s w) :
    Calls Tryd.prog 62 #[.slice (some ⟨b, 0, none⟩) n cap, .slice (some ⟨b', 0, none⟩) m cap', .int .i64 x] w (CrvErr s (jnC n xs ys m us vs x (aheadN n xs x + (m - aheadN m us x)) (jn (aheadN n xs x) (aheadN m us x) xs us) (jn (aheadN n xs x) (aheadN m us x) ys vs)) (jn (aheadN n xs x) (aheadN m us x) xs us) (jn (aheadN n xs x) (aheadN m us x) ys vs) (aheadN n xs x + (m - aheadN m us x)) w) := by
  have hk := ValidCurve_any b n cap xs ys hn hs
  have hl := ValidCurve_any b' m cap' us vs hm hs'
  rcases h1 : validC n xs ys with _ | _
  · rw [jn_1 h1]
    rw [h1] at hk
    have Hk := Lib.hid hk; clear hk h1 hl
    go_enter Tryd.func62, Tryd.ntmps62
    go_wp2_with fail
    refine (Hk.out _ hr).mono ?_; rintro e w1 ⟨rfl, hb1⟩
    have ce := (hE.below hb1 (Nat.le_refl _)).c_einvalid
    go_wp2_with fail
    go_quiet (fail)
    go_wp2
    go_ret2
    exact ⟨_, _, rfl, .einvalid, mine_no (by decide), below_drewL hb1 _⟩
  rw [h1] at hk
  have Hk := Lib.hid hk; clear hk
  rcases h2 : validC m us vs with _ | _
  · rw [jn_1' h1 h2]
    rw [h2] at hl
    have Hl := Lib.hid hl; clear hl h1 h2
    go_enter Tryd.func62, Tryd.ntmps62
    go_wp2_with fail
    refine (Hk.out _ hr).mono ?_; rintro e w1 ⟨rfl, hb1⟩
    go_wp2_with fail
    refine (Hl.out _ (hr'.below hb1 hr'.lt)).mono ?_; rintro e w2 ⟨rfl, hb2⟩
    have k2 := hb1.trans (hb2.mono hb1.size)
    have ce := (hE.below k2 (Nat.le_refl _)).c_einvalid
    go_wp2_with fail
    go_quiet (fail)
    go_wp2
    go_ret2
    exact ⟨_, _, rfl, .einvalid, mine_no (by decide), below_drewL k2 _⟩
  rw [h2] at hl
  have Hl := Lib.hid hl; clear hl
  have hp := fun W => isPlace_any x W
  rcases h3 : inB x (-200) 200 with _ | _
  · rw [jn_2 h1 h2 h3]
    rw [h3] at hp
    have Hp := Lib.hid hp; clear hp h1 h2 h3
    go_enter Tryd.func62, Tryd.ntmps62
    go_wp2_with fail
    refine (Hk.out _ hr).mono ?_; rintro e w1 ⟨rfl, hb1⟩
    go_wp2_with fail
    refine (Hl.out _ (hr'.below hb1 hr'.lt)).mono ?_; rintro e w2 ⟨rfl, hb2⟩
    have k2 := hb1.trans (hb2.mono hb1.size)
    have ce := (hE.below k2 (Nat.le_refl _)).c_erange
    go_wp2_with fail
    refine (Hp.out _).mono ?_; rintro e w3 ⟨rfl, rfl⟩
    go_wp2_with fail
    go_quiet (fail)
    go_wp2
    go_ret2
    exact ⟨_, _, rfl, .erange, mine_no (by decide), below_drewL k2 _⟩
  rw [h3] at hp
  have Hp := Lib.hid hp; clear hp
  obtain ⟨c, hn12⟩ := validC_crv h1
  obtain ⟨c', hm12⟩ := validC_crv h2
  have hKn := (ahead_is n xs x).1
  have hMm := (ahead_is m us x).1
  have hsm := jn_small c c' hKn hMm
  have q1 := fun W hW => countAhead_any b n cap xs ys x hn hs W hW
  have q2 := fun W hW => countAhead_any b' m cap' us vs x hm hs' W hW
  generalize aheadN n xs x = K at hKn hsm q1 ⊢
  generalize aheadN m us x = M at hMm hsm q2 ⊢
  have hcut1 := fun W => cut_any b n cap 0 K (Nat.zero_le _) hKn hc W
  have hcut2 := fun W => cut_any b' m cap' M m hMm (Nat.le_refl _) hc' W
  simp only [Nat.sub_zero] at hcut1
  have hN : K + (m - M) ≤ 24 := by omega
  have hq : m - M ≤ 1048576 := by omega
  have hMq : M + (m - M) ≤ m := by omega
  have hj := listC_join K M (m - M) xs ys us vs
  have j4 := fun h => jn_4 (N := K + (m - M)) (F0 := jn K M xs us) (F1 := jn K M ys vs) h1 h2 h3 h
  have j3 := fun h h' => jn_3 (N := K + (m - M)) (F0 := jn K M xs us) (F1 := jn K M ys vs) h1 h2 h3 h h'
  have j0 := fun h h' => jn_0 (N := K + (m - M)) (F0 := jn K M xs us) (F1 := jn K M ys vs) h1 h2 h3 h h'
  generalize jn K M xs us = F0 at hsm hj j4 j3 j0 ⊢
  generalize jn K M ys vs = F1 at hsm hj j4 j3 j0 ⊢
  generalize hqe : m - M = Q at *
  have Hqe := Lib.hid hqe; clear hqe
  have J4 := Lib.hid j4; clear j4
  have J3 := Lib.hid j3; clear j3
  have J0 := Lib.hid j0; clear j0
  have Hj := Lib.hid hj; clear hj
  have Hsm := Lib.hid hsm; clear hsm
  have Q1 := Lib.hid q1; clear q1
  have Q2 := Lib.hid q2; clear q2
  have Hcut1 := Lib.hid hcut1; clear hcut1
  have Hcut2 := Lib.hid hcut2; clear hcut2
  clear h1 h2 h3 c c'
  go_enter Tryd.func62, Tryd.ntmps62
  go_wp2_with fail
  refine (Hk.out _ hr).mono ?_; rintro e w1 ⟨rfl, hb1⟩
  go_wp2_with fail
  refine (Hl.out _ (hr'.below hb1 hr'.lt)).mono ?_; rintro e w2 ⟨rfl, hb2⟩
  have k2 := hb1.trans (hb2.mono hb1.size)
  have r2 := hr.below k2 hr.lt
  have r2' := hr'.below k2 hr'.lt
  clear hb1 hb2
  go_wp2_with fail
  refine (Hp.out _).mono ?_; rintro e w3 ⟨rfl, rfl⟩
  go_wp2_with fail
  refine (Q1.out _ r2).mono ?_; rintro e w3 ⟨rfl, rfl⟩
  go_wp2_with fail
  refine (Hcut1.out _).mono ?_; rintro e w3 ⟨⟨o1, rfl, ho1⟩, rfl⟩
  go_wp2_with fail
  refine (Q2.out _ r2').mono ?_; rintro e w3 ⟨rfl, rfl⟩
  go_wp2_with fail
  refine (Hcut2.out _).mono ?_; rintro e w3 ⟨⟨o2, rfl, ho2⟩, rfl⟩
  have p1 : Part w2 b o1 K xs ys := by
    have h := part_cut (k := 0) (q := K) (o := o1) r2 (by omega) ho1
    simpa using h
  have p2 : Part w2 b' o2 Q (fun j => us (M + j)) (fun j => vs (M + j)) := part_cut (k := M) (q := Q) (o := o2) r2' hMq (fun h => ho2 (by have := Hqe.out; omega))
  have Ho1 := Lib.hid ho1; clear ho1
  have Ho2 := Lib.hid ho2; clear ho2
  have kA : Below w.heap.size w (w2.alloc (.cells #[.slice (some ⟨b, o1, none⟩) K K, .slice (some ⟨b', o2, none⟩) Q Q] 27)) := k2.alloc k2.size _
  have hcc := Concat_any b o1 K K xs ys b' o2 Q Q (fun j => us (M + j)) (fun j => vs (M + j)) w2.heap.size (by omega) hq (w2.alloc (.cells #[.slice (some ⟨b, o1, none⟩) K K, .slice (some ⟨b', o2, none⟩) Q Q] 27))
    (p1.below ((Below.refl w2.heap.size w2).alloc (Nat.le_refl _) _) p1.lt) (p2.below ((Below.refl w2.heap.size w2).alloc (Nat.le_refl _) _) p2.lt) (by simp) (by simp)
  rw [Hj.out] at hcc
  have Hcc := Lib.hid hcc; clear hcc
  clear p1 p2
  go_wp2_with fail
  refine Hcc.out.mono ?_; rintro e w4 ⟨v, rfl, o4, hb4⟩
  have k4 := kA.trans (hb4.mono kA.size)
  have z2 := k2.size
  rcases Nat.eq_zero_or_pos (K + Q) with h0 | h0
  · have hC := J4.out (by rw [h0]; exact shaped_zero _ _)
    have HC := Lib.hid hC; clear hC
    obtain ⟨A, cp, rfl⟩ := own_zero o4 h0
    go_wp2_with fail
    refine (isShaped_nil A cp _).mono ?_; rintro e w5 ⟨rfl, hb5⟩
    have k5 := k4.trans (hb5.mono k4.size)
    have ce := (hE.below k5 (Nat.le_refl _)).c_estate
    go_wp2_with fail
    go_quiet (fail)
    go_wp2
    go_ret2
    exact ⟨_, _, rfl, by rw [HC.out]; exact .estate, by rw [HC.out]; exact mine_no (by decide), below_drewL k5 _⟩
  · obtain ⟨g, cp, rfl, hg, hrow⟩ := own_ptsM o4 h0
    have hsh := isShaped_any g (K + Q) cp F0 F1 (by omega) Hsm.out _ hrow
    rcases h4 : shapedB (K + Q) F0 F1 with _ | _
    · rw [h4] at hsh
      have HC := Lib.hid (J4.out h4)
      have Hsh := Lib.hid hsh; clear hsh h4
      go_wp2_with fail
      refine Hsh.out.mono ?_; rintro e w5 ⟨rfl, hb5⟩
      have k5 := k4.trans (hb5.mono k4.size)
      have ce := (hE.below k5 (Nat.le_refl _)).c_estate
      go_wp2_with fail
      go_quiet (fail)
      go_wp2
      go_ret2
      exact ⟨_, _, rfl, by rw [HC.out]; exact .estate, by rw [HC.out]; exact mine_no (by decide), below_drewL k5 _⟩
    · rw [h4] at hsh
      have Hsh := Lib.hid hsh; clear hsh
      by_cases h5 : K + Q ≤ 12
      · have HC := Lib.hid (J0.out h4 h5)
        have d5 : decide ((12 : Int) < ((K + Q : Nat) : Int)) = false := decide_eq_false (by omega)
        clear h4
        generalize K + Q = N at *
        go_wp2_with fail
        refine Hsh.out.mono ?_; rintro e w5 ⟨rfl, hb5⟩
        have k5 := k4.trans (hb5.mono k4.size)
        have o5 := own_belowM o4 hb5
        go_wp2_with fail
        go_ret2
        refine ⟨_, _, rfl, by rw [HC.out]; exact .ok, ?_, k5⟩
        rw [HC.out, if_pos rfl]
        exact (Mine.of_listCurve o5).mono (by simp; omega) (Nat.le_refl _)
      · have HC := Lib.hid (J3.out h4 h5)
        have d5 : (12 : Int) < ((K + Q : Nat) : Int) := by omega
        clear h4
        generalize K + Q = N at *
        go_wp2_with fail
        refine Hsh.out.mono ?_; rintro e w5 ⟨rfl, hb5⟩
        have k5 := k4.trans (hb5.mono k4.size)
        have ce := (hE.below k5 (Nat.le_refl _)).c_elimit
        go_wp2_with fail
        go_quiet (fail)
        go_wp2
        go_ret2
        exact ⟨_, _, rfl, by rw [HC.out]; exact .elimit, by rw [HC.out]; exact mine_no (by decide), below_drewL k5 _⟩

set_option maxHeartbeats 1000000 in
theorem JoinCurves_any (s : Ers) (b n cap : Nat) (xs ys : Nat → Int) (b' m cap' : Nat) (us vs : Nat → Int) (x : Int) (hn : n ≤ 1048576) (hm : m ≤ 1048576) (hs : SmallP n xs ys) (hs' : SmallP m us vs) (hc : n ≤ cap) (hc' : m ≤ cap')
    (w : World) (hr : PtRow w b n xs ys) (hr' : PtRow w b' m us vs) (hE : ErrEnv s w) :
    Calls Tryd.prog 34 #[.slice (some ⟨b, 0, none⟩) n cap, .slice (some ⟨b', 0, none⟩) m cap', .int .i64 x] w (CrvCode (jnC n xs ys m us vs x (aheadN n xs x + (m - aheadN m us x)) (jn (aheadN n xs x) (aheadN m us x) xs us) (jn (aheadN n xs x) (aheadN m us x) ys vs)) (jn (aheadN n xs x) (aheadN m us x) xs us) (jn (aheadN n xs x) (aheadN m us x) ys vs) (aheadN n xs x + (m - aheadN m us x)) w) := by
  have hk := joinCurves_any s b n cap xs ys b' m cap' us vs x hn hm hs hs' hc hc' w hr hr' hE
  generalize jnC n xs ys m us vs x (aheadN n xs x + (m - aheadN m us x)) (jn (aheadN n xs x) (aheadN m us x) xs us) (jn (aheadN n xs x) (aheadN m us x) ys vs) = C at hk ⊢
  generalize jn (aheadN n xs x) (aheadN m us x) xs us = F0 at hk ⊢
  generalize jn (aheadN n xs x) (aheadN m us x) ys vs = F1 at hk ⊢
  generalize aheadN n xs x + (m - aheadN m us x) = N at hk ⊢
  have Hk := Lib.hid hk; clear hk
  go_enter Tryd.func34, Tryd.ntmps34
  go_wp2_with fail
  refine Hk.out.mono ?_; rintro e w2 ⟨v, ev, rfl, hv, hmn, hb2⟩
  go_wp2_with fail
  refine (codedCurve_any hv _ _ (hE.below hb2 (Nat.le_refl _))).mono ?_; rintro e w3 ⟨rfl, rfl⟩
  go_wp2_with fail
  go_ret2
  exact ⟨_, rfl, hmn, hb2⟩
end Go.Proofs.YtpombpphicmhmaaDoor

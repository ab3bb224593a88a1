/-
  The lights of bands that are covered one by one; the lights with their codes: by the program and by the reference. Condition of the program's: its variables hold their own errors and its table of times.
-/
import Derived.Test.YtnlcjbobfhmnmabGreatDoorStripL
import Derived.Test.YtnlcjbobfhmnmabGreatDoorLit
namespace Go.Proofs.YtnlcjbobfhmnmabGreatDoor
open Go.RowKit

/-- The sum of the first k times. -/
def sumS (xs : Nat → Int) : Nat → Int
  | 0 => 0
  | k + 1 => sumS xs k + tm (xs k)
theorem sumS_bd {xs : Nat → Int} : ∀ (k : Nat), (∀ j, j < k → 0 ≤ xs j ∧ xs j ≤ 36) → 0 ≤ sumS xs k ∧ sumS xs k ≤ 5160960 * k ∧ (0 < k → 1000 ≤ sumS xs k)
  | 0, _ => by simp [sumS]
  | k + 1, h => by
    have h1 := sumS_bd k (fun j hj => h j (by omega))
    have h2 := h k (by omega)
    have h3 := tm_bd (xs k) h2.1 (by omega)
    simp only [sumS]
    refine ⟨by omega, ?_, fun _ => by omega⟩
    have : ((k + 1 : Nat) : Int) = k + 1 := by omega
    rw [this]; omega
/-- The light of a covered band. -/
def covT (a b : Int) (j : Nat) : Int := thin (sumS (fun i => a + b * (i : Int)) (j + 1))
theorem StOk.cov {a b c : Int} (h : StOk a b c) {k : Nat} (hk : (k : Int) < c) : 0 ≤ covT a b k ∧ covT a b k ≤ 36 := by
  have h1 := sumS_bd (xs := fun i => a + b * (i : Int)) (k + 1) (fun j hj => h.light (k := j) (by omega) (by omega))
  unfold covT
  have h2 := thin_bd (sumS (fun i => a + b * (i : Int)) (k + 1))
  have h3 := (thin_none (sumS (fun i => a + b * (i : Int)) (k + 1))).1
  refine ⟨?_, h2.2⟩
  rcases Int.lt_or_le (thin (sumS (fun i => a + b * (i : Int)) (k + 1))) 0 with h4 | h4
  · have := h3 (by omega)
    have := h1.2.2 (by omega)
    omega
  · exact h4
/-- The first k covered, the others as they were. -/
def mixC (F G : Nat → Int) (k j : Nat) : Int := if j < k then G j else F j
theorem mixC_at (F G : Nat → Int) (k : Nat) : mixC F G k k = F k := by simp [mixC]
theorem mixC_step (F G : Nat → Int) (k j : Nat) : (if j = k then G k else mixC F G k j) = mixC F G (k + 1) j := by
  unfold mixC
  by_cases h : j = k
  · subst h; simp
  · have : j < k ↔ j < k + 1 := by omega
    simp [h, this]

set_option maxRecDepth 100000 in
set_option maxHeartbeats 4000000 in
theorem stCovered_any (s : Ers) (a b c : Int) (h : StOk a b c) (w : World) (hT : TimEnv w) (hE : ErrEnv s w) :
    Calls Tryz.prog 37 #[stV a b c] w (MadeN c.toNat (covT a b) w) := by
  have ha0 := h.a0; have ha1 := h.a1; have hb0 := h.b0; have hb1 := h.b1; have hc0 := h.c0; have hc1 := h.c1
  have k0 : Below w.heap.size w (w.alloc (.cells #[.int .i8 a, .int .i8 b, .int .i8 c] 26)) := (Below.refl _ _).alloc (Nat.le_refl _) _
  have S0 := StAt.new w 26 a b c
  have hl := fun W => stLights_any a b c h W
  have hfb := fun (k : Nat) (hk : (k : Int) < c) => h.light (k := k) (by omega) hk
  have hsb := fun (k : Nat) (hk : (k : Int) ≤ c) => sumS_bd (xs := fun j : Nat => a + b * (j : Int)) k (fun j hj => h.light (k := j) (by omega) (by omega))
  have htm := fun (k : Nat) (hk : (k : Int) < c) => tm_bd (a + b * (k : Int)) (h.light (k := k) (by omega) hk).1 (by have := (h.light (k := k) (by omega) hk).2; omega)
  have hG : ∀ k, covT a b k = thin (sumS (fun j : Nat => a + b * (j : Int)) (k + 1)) := fun _ => rfl
  have hS : ∀ k, sumS (fun j : Nat => a + b * (j : Int)) (k + 1) = sumS (fun j : Nat => a + b * (j : Int)) k + tm (a + b * (k : Int)) := fun _ => rfl
  generalize covT a b = G at *
  have hF : ∀ k : Nat, (fun j : Nat => a + b * (j : Int)) k = a + b * (k : Int) := fun _ => rfl
  generalize (fun j : Nat => a + b * (j : Int)) = F at *
  have Hl := Lib.hid hl; clear hl
  have Hfb := Lib.hid hfb; clear hfb
  have Hsb := Lib.hid hsb; clear hsb
  have Htm := Lib.hid htm; clear htm
  have HG := Lib.hid hG; clear hG
  have HS := Lib.hid hS; clear hS
  have HF := Lib.hid hF; clear hF
  clear h
  have o1 := World.ownsRow_lit (size := 1) (e := 2) (base := w.heap.size + 1) (w.alloc (.cells #[.int .i8 a, .int .i8 b, .int .i8 c] 26)) #[] 0 (by simp) (Nat.zero_le _) rfl
  simp only [World.size_alloc] at o1
  have S1 := S0.alloc (.cells #[] 2)
  have k1 := k0.alloc k0.size (.cells #[] 2)
  have HT := Lib.hid hT; clear hT
  have HE := Lib.hid hE; clear hE
  go_enter Tryz.func37, Tryz.ntmps37
  go_wp2_with fail
  refine (Hl.out _).mono ?_; rintro x w1 ⟨g, cap, rfl, hg, hrow, hb1⟩
  have k2 := k1.trans (hb1.mono k1.size)
  have o2 := own_belowT o1 hb1
  simp only [World.size_alloc] at hg
  have gl := hrow.lt
  clear hb1 o1 S0 S1 k0 k1 Hl
  go_wp2_with fail
  go_loopw [3, 4, 11] (fun lv tv iv wr => ∃ k : Nat, iv = .int .i64 k ∧ (k : Int) ≤ c ∧ tv = .int .i64 (sumS F k) ∧ wr.ownsRow (w.heap.size + 1) 2 1 lv k (tabV G k) ∧ lv.ownBlock ≠ some g ∧ IRow wr g c.toNat F ∧ Below w.heap.size w wr) (fun _ _ iv _ => (c - intOf iv).toNat)
  case atStart => exact ⟨0, rfl, by omega, rfl, o2, by simp [Value.ownBlock]; omega, hrow, k2⟩
  case round =>
    clear o2 k2 hrow gl
    obtain ⟨k, rfl, hk, rfl, hown, hne, hrow, k2⟩ := hrel
    by_cases hkc : (k : Int) < c
    rotate_left
    · have e : c.toNat = k := by omega
      rw [e]
      obtain ⟨g', cap', rfl, hg', hrow'⟩ := irow_own hown (by omega)
      have hx : ¬ (k : Int) < (c.toNat : Int) := by omega
      go_wp2_with fail
      go_ret
      exact ⟨g', cap', rfl, by omega, hrow', k2⟩
    have hfk := Hfb.out k hkc
    have hsk := Hsb.out k (by omega)
    have htk := Htm.out k hkc
    have hs1 := HS.out k
    have hg1 := HG.out k
    have hf1 := HF.out k
    rw [← hf1] at hfk htk hs1
    rw [hs1] at hg1
    have c1 := hrow.cell (k := k) (by omega)
    have kn : (k : Int) < (c.toNat : Int) := by omega
    have hta := fun W hW => timeAt_any (F k) hfk.1 (by omega) W hW
    generalize sumS F k = T at *
    generalize tm (F k) = M at *
    generalize F k = X at *
    have hli := fun W hT hE => lightIn_any s (T + M) (by omega) (by omega) W hT hE
    generalize thin (T + M) = V at *
    have HV := Lib.hid hg1; clear hg1
    have HS1 := Lib.hid hs1; clear hs1
    have Hta := Lib.hid hta; clear hta
    have Hli := Lib.hid hli; clear hli
    have i1 : IntKind.i64.wrap (T + M) = T + M := IntWalk.i64_in _ (by omega)
    have z2 := k2.size
    have gl := hrow.lt
    have hfar := fun jj hjj => hown.lt jj hjj
    clear hf1
    go_wp2_with fail
    refine (Hta.out _ (HT.out.below k2 (Nat.le_refl _))).mono ?_; rintro x w3 ⟨rfl, rfl⟩
    go_wp2_with fail
    refine (Hli.out _ (HT.out.below k2 (Nat.le_refl _)) (HE.out.below k2 (Nat.le_refl _))).mono ?_; rintro x w3 ⟨rfl, hb3⟩
    have k3 := k2.trans (hb3.mono k2.size)
    have own3 := own_belowT hown hb3
    have row3 := hrow.below hb3 gl
    have z3 := hb3.size
    clear hb3 k2 hown hrow c1
    go_wp2_with (at_builtin; refine wpList_append1 rfl _ _ rfl rfl own3 rfl (by omega) (by omega) HV.out ?_)
    intro v' w5 hown5 hg2 hat
    have row5 := row3.far hg2 (Ne.symm hne)
    have k5 : Below w.heap.size w w5 := k3.grown hg2 k3.size (fun jj hjj => by have := (hfar jj hjj).1; omega)
    have hne5 : v'.ownBlock ≠ some g := by
      rcases hat with h1 | h1
      · rw [h1]; exact hne
      · rw [h1]; intro e; injection e with e; omega
    clear hg2 k3 own3 row3 hat hne
    go_wp2_with fail
    go_roundw
    case rel => exact ⟨k + 1, by go_num, by omega, by rw [HS1.out], hown5, hne5, row5, k5⟩
    case measure => simp [intOf]; omega

set_option maxRecDepth 100000 in
set_option maxHeartbeats 4000000 in
theorem l05Covered_any (a b c : Int) (h : StOk a b c) (w : World) :
    Calls Tryz.prog 39 #[stV a b c] w (MadeN c.toNat (covT a b) w) := by
  have ha0 := h.a0; have ha1 := h.a1; have hb0 := h.b0; have hb1 := h.b1; have hc0 := h.c0; have hc1 := h.c1
  have k0 : Below w.heap.size w (w.alloc (.cells #[.int .i8 a, .int .i8 b, .int .i8 c] 26)) := (Below.refl _ _).alloc (Nat.le_refl _) _
  have S0 := StAt.new w 26 a b c
  have hl := fun W => l05Lights_any a b c h W
  have hfb := fun (k : Nat) (hk : (k : Int) < c) => h.light (k := k) (by omega) hk
  have hsb := fun (k : Nat) (hk : (k : Int) ≤ c) => sumS_bd (xs := fun j : Nat => a + b * (j : Int)) k (fun j hj => h.light (k := j) (by omega) (by omega))
  have htm := fun (k : Nat) (hk : (k : Int) < c) => tm_bd (a + b * (k : Int)) (h.light (k := k) (by omega) hk).1 (by have := (h.light (k := k) (by omega) hk).2; omega)
  have hG : ∀ k, covT a b k = thin (sumS (fun j : Nat => a + b * (j : Int)) (k + 1)) := fun _ => rfl
  have hS : ∀ k, sumS (fun j : Nat => a + b * (j : Int)) (k + 1) = sumS (fun j : Nat => a + b * (j : Int)) k + tm (a + b * (k : Int)) := fun _ => rfl
  generalize covT a b = G at *
  have hF : ∀ k : Nat, (fun j : Nat => a + b * (j : Int)) k = a + b * (k : Int) := fun _ => rfl
  generalize (fun j : Nat => a + b * (j : Int)) = F at *
  have Hl := Lib.hid hl; clear hl
  have Hfb := Lib.hid hfb; clear hfb
  have Hsb := Lib.hid hsb; clear hsb
  have Htm := Lib.hid htm; clear htm
  have HG := Lib.hid hG; clear hG
  have HS := Lib.hid hS; clear hS
  have HF := Lib.hid hF; clear hF
  clear h
  go_enter Tryz.func39, Tryz.ntmps39
  go_wp2_with fail
  refine (Hl.out _).mono ?_; rintro x w1 ⟨g, cap, rfl, hg, hrow, hb1⟩
  have k2 := k0.trans (hb1.mono k0.size)
  simp only [World.size_alloc] at hg
  clear hb1 S0 k0 Hl
  go_wp2_with fail
  go_loopw [4, 5] (fun tv iv wr => ∃ k : Nat, iv = .int .i64 k ∧ (k : Int) ≤ c ∧ tv = .int .i64 (sumS F k) ∧ IRow wr g c.toNat (mixC F G k) ∧ Below w.heap.size w wr) (fun _ iv _ => (c - intOf iv).toNat)
  case atStart => exact ⟨0, rfl, by omega, rfl, hrow.congr (fun j _ => by simp [mixC]), k2⟩
  case round =>
    clear k2 hrow
    obtain ⟨k, rfl, hk, rfl, hrow, k2⟩ := hrel
    by_cases hkc : (k : Int) < c
    rotate_left
    · have e : c.toNat = k := by omega
      rw [e] at hrow ⊢
      have hx : ¬ (k : Int) < (c.toNat : Int) := by omega
      go_wp2_with fail
      go_ret
      exact ⟨g, cap, rfl, by omega, hrow.congr (fun j hj => by simp [mixC, hj]), k2⟩
    have hfk := Hfb.out k hkc
    have hsk := Hsb.out k (by omega)
    have htk := Htm.out k hkc
    have hs1 := HS.out k
    have hg1 := HG.out k
    have hf1 := HF.out k
    rw [← hf1] at hfk htk hs1
    rw [hs1] at hg1
    have c1 := hrow.cell (k := k) (by omega)
    rw [mixC_at] at c1
    have kn : (k : Int) < (c.toNat : Int) := by omega
    have hst := fun (W : World) (h : IRow W g c.toNat (mixC F G k)) => (h.set (k := k) (by omega) (G k)).congr (fun j _ => mixC_step F G k j)
    have hta := fun W => l01Time_any (F k) hfk.1 (by omega) W
    generalize sumS F k = T at *
    generalize tm (F k) = M at *
    generalize F k = X at *
    have hli := fun W => l01In_any (T + M) W
    rw [← hg1] at hli
    clear hg1
    generalize G k = V at *
    have HS1 := Lib.hid hs1; clear hs1
    have Hta := Lib.hid hta; clear hta
    have Hli := Lib.hid hli; clear hli
    have Hst := Lib.hid hst; clear hst
    have i1 : IntKind.i64.wrap (T + M) = T + M := IntWalk.i64_in _ (by omega)
    have z2 := k2.size
    clear hf1
    go_wp2_with fail
    refine (Hta.out _).mono ?_; rintro x w3 ⟨rfl, hb3⟩
    have k3 := k2.trans (hb3.mono k2.size)
    have row3 := hrow.below hb3 hrow.lt
    clear hb3 k2 hrow c1
    go_wp2_with fail
    refine (Hli.out _).mono ?_; rintro x w4 ⟨rfl, hb4⟩
    have k4 := k3.trans (hb4.mono k3.size)
    have row4 := row3.below hb4 row3.lt
    have c4 := row4.cell (k := k) (by omega)
    have f4 := row4.free k
    clear hb4 k3 row3
    have K := Lib.hid (And.intro (Hst.out _ row4) (k4.setCell (p := ⟨g, k, none⟩) (by show w.heap.size ≤ g; omega) (.int .i64 V)))
    clear row4 k4
    go_wp2_with fail
    go_roundw
    case rel => exact ⟨k + 1, by go_num, by omega, by rw [HS1.out], K.out.1, K.out.2⟩
    case measure => simp [intOf]; omega

/-- The code of a strip. -/
def stC (a b c : Int) : Int := if okT a b c = true then 0 else 1
theorem stC_1 {a b c : Int} (h : okT a b c = false) : stC a b c = 1 := by simp [stC, h]
theorem stC_0 {a b c : Int} (h : okT a b c = true) : stC a b c = 0 := by simp [stC, h]
theorem mine_irow {w : World} {g n cap L : Nat} {xs : Nat → Int} (h : IRow w g n xs) (hL : L ≤ g) : Mine w L w.heap.size 2 1 (.slice (some ⟨g, 0, none⟩) n cap) n (fun j => .int .i64 (xs j)) :=
  (h.mine cap).mono hL h.lt

set_option maxRecDepth 100000 in
set_option maxHeartbeats 2000000 in
theorem lightsByL_any (s : Ers) (a b c : Int) (ha : -128 ≤ a) (ha' : a ≤ 127) (hb : -128 ≤ b) (hb' : b ≤ 127) (hc : -128 ≤ c) (hc' : c ≤ 127) (w : World) (hE : ErrEnv s w) :
    Calls Tryz.prog 35 #[stV a b c, .func (.func 36) #[stV a b c] #[]] w (LstE s (stC a b c) (lenC (stC a b c) c.toNat) (fun j : Nat => a + b * (j : Int)) w) := by
  have k0 : Below w.heap.size w (w.alloc (.cells #[.int .i8 a, .int .i8 b, .int .i8 c] 26)) := (Below.refl _ _).alloc (Nat.le_refl _) _
  have hv := fun W => ValidStrip_any a b c ha ha' hb hb' hc hc' W
  rcases h : okT a b c with _ | _
  · rw [stC_1 h, lenC_1]
    rw [h] at hv
    have Hv := Lib.hid hv; clear hv h
    generalize (fun j : Nat => a + b * (j : Int)) = F
    go_enter Tryz.func35, Tryz.ntmps35
    go_wp2_with fail
    refine (Hv.out _).mono ?_; rintro e w1 ⟨rfl, hb1⟩
    have k1 := k0.trans (hb1.mono k0.size)
    have ce := (hE.below k1 (Nat.le_refl _)).c_einvalid
    go_wp2_with fail
    go_quiet (fail)
    go_wp2
    go_ret2
    exact ⟨_, _, .einvalid, rfl, .nil _ _ _ _ _ _ _ _, below_drewN k1 _⟩
  · have hl := fun W => stLights_any a b c (okT_ok h) W
    rw [stC_0 h, lenC_0]
    rw [h] at hv
    have Hv := Lib.hid hv; clear hv h
    generalize (fun j : Nat => a + b * (j : Int)) = F at *
    have Hl := Lib.hid hl; clear hl
    go_enter Tryz.func35, Tryz.ntmps35
    go_wp2_with fail
    refine (Hv.out _).mono ?_; rintro e w1 ⟨rfl, hb1⟩
    have k1 := k0.trans (hb1.mono k0.size)
    have z1 := k1.size
    go_wp2_with fail
    refine (Hl.out _).mono ?_; rintro e w2 ⟨g, cap, rfl, hg, hrow, hb2⟩
    go_wp2_with fail
    go_ret2
    exact ⟨_, _, .ok, rfl, mine_irow hrow (by omega), k1.trans (hb2.mono k1.size)⟩

set_option maxRecDepth 100000 in
set_option maxHeartbeats 2000000 in
theorem LightsOf_any (s : Ers) (a b c : Int) (ha : -128 ≤ a) (ha' : a ≤ 127) (hb : -128 ≤ b) (hb' : b ≤ 127) (hc : -128 ≤ c) (hc' : c ≤ 127) (w : World) (hE : ErrEnv s w) :
    Calls Tryz.prog 10 #[stV a b c] w (LstC (stC a b c) (lenC (stC a b c) c.toNat) (fun j : Nat => a + b * (j : Int)) w) := by
  have k0 : Below w.heap.size w (w.alloc (.cells #[.int .i8 a, .int .i8 b, .int .i8 c] 26)) := (Below.refl _ _).alloc (Nat.le_refl _) _
  have hl := lightsByL_any s a b c ha ha' hb hb' hc hc' _ (hE.below k0 (Nat.le_refl _))
  unfold LstE at hl
  generalize lenC (stC a b c) c.toNat = N at *
  generalize stC a b c = C at *
  generalize (fun j : Nat => a + b * (j : Int)) = F at *
  have Hl := Lib.hid hl; clear hl
  go_enter Tryz.func10, Tryz.ntmps10
  go_wp2_with fail
  refine Hl.out.mono ?_; rintro e w1 ⟨v, x, hx, rfl, hm, hb1⟩
  have k1 := k0.trans (hb1.mono k0.size)
  obtain ⟨A, cap, rfl, hm⟩ := hm
  go_wp2_with fail
  refine (codedInts_any hx _ _ _ _ (hE.below k1 (Nat.le_refl _))).mono ?_; rintro e w2 ⟨rfl, rfl⟩
  go_wp2_with fail
  go_ret2
  exact ⟨_, rfl, Mine.mono ⟨A, cap, rfl, hm⟩ k0.size (Nat.le_refl _), k1⟩

set_option maxRecDepth 100000 in
set_option maxHeartbeats 2000000 in
theorem lightsByC_any (s : Ers) (a b c : Int) (ha : -128 ≤ a) (ha' : a ≤ 127) (hb : -128 ≤ b) (hb' : b ≤ 127) (hc : -128 ≤ c) (hc' : c ≤ 127) (w : World) (hT : TimEnv w) (hE : ErrEnv s w) :
    Calls Tryz.prog 35 #[stV a b c, .func (.func 37) #[stV a b c] #[]] w (LstE s (stC a b c) (lenC (stC a b c) c.toNat) (covT a b) w) := by
  have k0 : Below w.heap.size w (w.alloc (.cells #[.int .i8 a, .int .i8 b, .int .i8 c] 26)) := (Below.refl _ _).alloc (Nat.le_refl _) _
  have hv := fun W => ValidStrip_any a b c ha ha' hb hb' hc hc' W
  rcases h : okT a b c with _ | _
  · rw [stC_1 h, lenC_1]
    rw [h] at hv
    have Hv := Lib.hid hv; clear hv h
    generalize (covT a b) = F
    go_enter Tryz.func35, Tryz.ntmps35
    go_wp2_with fail
    refine (Hv.out _).mono ?_; rintro e w1 ⟨rfl, hb1⟩
    have k1 := k0.trans (hb1.mono k0.size)
    have ce := (hE.below k1 (Nat.le_refl _)).c_einvalid
    go_wp2_with fail
    go_quiet (fail)
    go_wp2
    go_ret2
    exact ⟨_, _, .einvalid, rfl, .nil _ _ _ _ _ _ _ _, below_drewN k1 _⟩
  · have hl := fun W hT hE => stCovered_any s a b c (okT_ok h) W hT hE
    rw [stC_0 h, lenC_0]
    rw [h] at hv
    have Hv := Lib.hid hv; clear hv h
    generalize (covT a b) = F at *
    have Hl := Lib.hid hl; clear hl
    go_enter Tryz.func35, Tryz.ntmps35
    go_wp2_with fail
    refine (Hv.out _).mono ?_; rintro e w1 ⟨rfl, hb1⟩
    have k1 := k0.trans (hb1.mono k0.size)
    have z1 := k1.size
    go_wp2_with fail
    refine (Hl.out _ (hT.below k1 (Nat.le_refl _)) (hE.below k1 (Nat.le_refl _))).mono ?_; rintro e w2 ⟨g, cap, rfl, hg, hrow, hb2⟩
    go_wp2_with fail
    go_ret2
    exact ⟨_, _, .ok, rfl, mine_irow hrow (by omega), k1.trans (hb2.mono k1.size)⟩

set_option maxRecDepth 100000 in
set_option maxHeartbeats 2000000 in
theorem CoveredLights_any (s : Ers) (a b c : Int) (ha : -128 ≤ a) (ha' : a ≤ 127) (hb : -128 ≤ b) (hb' : b ≤ 127) (hc : -128 ≤ c) (hc' : c ≤ 127) (w : World) (hT : TimEnv w) (hE : ErrEnv s w) :
    Calls Tryz.prog 11 #[stV a b c] w (LstC (stC a b c) (lenC (stC a b c) c.toNat) (covT a b) w) := by
  have k0 : Below w.heap.size w (w.alloc (.cells #[.int .i8 a, .int .i8 b, .int .i8 c] 26)) := (Below.refl _ _).alloc (Nat.le_refl _) _
  have hl := lightsByC_any s a b c ha ha' hb hb' hc hc' _ (hT.below k0 (Nat.le_refl _)) (hE.below k0 (Nat.le_refl _))
  unfold LstE at hl
  generalize lenC (stC a b c) c.toNat = N at *
  generalize stC a b c = C at *
  generalize (covT a b) = F at *
  have Hl := Lib.hid hl; clear hl
  go_enter Tryz.func11, Tryz.ntmps11
  go_wp2_with fail
  refine Hl.out.mono ?_; rintro e w1 ⟨v, x, hx, rfl, hm, hb1⟩
  have k1 := k0.trans (hb1.mono k0.size)
  obtain ⟨A, cap, rfl, hm⟩ := hm
  go_wp2_with fail
  refine (codedInts_any hx _ _ _ _ (hE.below k1 (Nat.le_refl _))).mono ?_; rintro e w2 ⟨rfl, rfl⟩
  go_wp2_with fail
  go_ret2
  exact ⟨_, rfl, Mine.mono ⟨A, cap, rfl, hm⟩ k0.size (Nat.le_refl _), k1⟩

set_option maxRecDepth 100000 in
set_option maxHeartbeats 2000000 in
theorem specCoveredLights_any (a b c : Int) (ha : -128 ≤ a) (ha' : a ≤ 127) (hb : -128 ≤ b) (hb' : b ≤ 127) (hc : -128 ≤ c) (hc' : c ≤ 127) (w : World) :
    Calls Tryz.prog 12 #[stV a b c] w (LstC (stC a b c) (lenC (stC a b c) c.toNat) (covT a b) w) := by
  have k0 : Below w.heap.size w (w.alloc (.cells #[.int .i8 a, .int .i8 b, .int .i8 c] 26)) := (Below.refl _ _).alloc (Nat.le_refl _) _
  have S0 := StAt.new w 26 a b c
  have hv := fun W => l05Ok_any a b c ha ha' hb hb' hc hc' W
  rcases h : okT a b c with _ | _
  · rw [stC_1 h, lenC_1]
    rw [h] at hv
    have Hv := Lib.hid hv; clear hv h
    generalize (covT a b) = F
    go_enter Tryz.func12, Tryz.ntmps12
    go_wp2_with fail
    refine (Hv.out _).mono ?_; rintro e w1 ⟨rfl, hb1⟩
    have k1 := k0.trans (hb1.mono k0.size)
    go_wp2_with fail
    go_ret2
    exact ⟨_, rfl, .nil _ _ _ _ _ _ _ _, k1.alloc k1.size _⟩
  · have hl := fun W => l05Covered_any a b c (okT_ok h) W
    rw [stC_0 h, lenC_0]
    rw [h] at hv
    have Hv := Lib.hid hv; clear hv h
    generalize (covT a b) = F at *
    have Hl := Lib.hid hl; clear hl
    go_enter Tryz.func12, Tryz.ntmps12
    go_wp2_with fail
    refine (Hv.out _).mono ?_; rintro e w1 ⟨rfl, hb1⟩
    have k1 := k0.trans (hb1.mono k0.size)
    have z1 := k1.size
    obtain ⟨s0, s1, s2⟩ := S0.below hb1 S0.lt
    go_wp2_with fail
    refine (Hl.out _).mono ?_; rintro e w2 ⟨g, cap, rfl, hg, hrow, hb2⟩
    go_wp2_with fail
    go_ret2
    exact ⟨_, rfl, mine_irow hrow (by omega), k1.trans (hb2.mono k1.size)⟩

end Go.Proofs.YtnlcjbobfhmnmabGreatDoor

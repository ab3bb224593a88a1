/-
  Means of fields, compared: what both sides return, for every scene and fields. Condition of the program's: its variables hold their own errors.
-/
import Derived.Test.YtmphmpddlgcofaaDoorFld
namespace Go.Proofs.YtmphmpddlgcofaaDoor
open Go.RowKit

theorem errNeM (x : Addr) (w : World) : (binOp .neq 82 (errV x) .nilIface).run Tryd.prog w = .ok (.bool true) w := by kernel_rfl
theorem nilNeM (w : World) : (binOp .neq 82 .nilIface .nilIface).run Tryd.prog w = .ok (.bool false) w := by kernel_rfl

theorem sumS_le {f c : Nat → Int} (hf : ∀ k, k < 24 → 0 ≤ f k ∧ f k ≤ 60) (hc : W3 c) : ∀ k, k ≤ 24 → sumS f c k ≤ 60 * cntS c k
  | 0, _ => by simp [sumS, cntS]
  | k + 1, h => by
    have ih := sumS_le hf hc k (by omega)
    have h1 := hf k (by omega)
    have h2 := hc k (by omega)
    have h3 : c k * f k ≤ 60 * c k := by
      have : c k = 0 ∨ c k = 1 ∨ c k = 2 ∨ c k = 3 := by omega
      rcases this with e | e | e | e <;> rw [e] <;> omega
    rw [sumS, cntS]; omega
theorem mnV_60 {f c : Nat → Int} (hf : ∀ k, k < 24 → 0 ≤ f k ∧ f k ≤ 60) (hc : W3 c) (hp : 1 ≤ cntS c 24) : 0 ≤ mnV f c ∧ mnV f c ≤ 60 := by
  refine ⟨(mnV_bd hf hc).1, ?_⟩
  have h := sumS_le hf hc 24 (by omega)
  unfold mnV
  exact Int.ediv_le_of_le_mul (by omega) (by omega)
theorem fmV_60 {f : Nat → Int} {M : Nat} : 0 ≤ fmV f M ∧ fmV f M ≤ 60 := by
  rcases fm_or (f := f) (M := M) with ⟨hC, hv, h1, h2⟩ | ⟨hV, _⟩
  · unfold fmV
    rw [hC, ifS_0]
    exact mnV_60 (fun k hk => scnB_bd hv hk) (bitS_W3 M) (bitS_pos h2 h1)
  · rw [hV]; omega
/-- The code of two fields. -/
def frC (f : Nat → Int) (a b : Nat) : Int := if fmC f a = 0 then fmC f b else fmC f a
def dvC (f : Nat → Int) (a b : Nat) : Int := if frC f a b = 0 then (if fmV f b < fmV f a then 4 else 0) else frC f a b
def dvV (f : Nat → Int) (a b : Nat) : Int := ifS (dvC f a b) (5 - (fmV f b - fmV f a + 1) / 3)
/-- The comparison of two numbers. -/
def cmpZ (x y : Int) : Int := if x < y then -1 else if y < x then 1 else 0
def brV (f : Nat → Int) (a b : Nat) : Int := ifS (frC f a b) (cmpZ (fmV f a) (fmV f b))

set_option maxRecDepth 100000 in
set_option maxHeartbeats 1000000 in
theorem specFieldMean_any (f : Nat → Int) (hf : S8 f) (M : Nat) (hM : M < 4294967296) (w : World) :
    Calls Tryd.prog 31 #[.agg (arrV .i8 24 f), .int .u32 (M : Int)] w fun e w' => e = .returned (.tuple #[.int .i64 (fmV f M), .int .i64 (fmC f M)]) ∧ Below w.heap.size w w' := by
  have a1 := HasArr.new w 28 .i8 24 f
  have k0 := (Below.refl w.heap.size w).alloc (Nat.le_refl _) (.cells (arrV .i8 24 f) 28)
  have hk := l06Field_any w.heap.size 28 f hf M hM _ a1
  generalize fmV f M = V at *
  generalize fmC f M = C at *
  have Hk := Lib.hid hk; clear hk a1 hf
  have K0 := Lib.hid k0; clear k0
  go_enter Tryd.func31, Tryd.ntmps31
  go_wp2_with fail
  refine Hk.out.mono ?_; rintro e w1 ⟨rfl, hb1⟩
  go_wp2_with fail
  go_ret2
  exact ⟨rfl, K0.out.trans (hb1.mono K0.out.size)⟩

set_option maxRecDepth 100000 in
set_option maxHeartbeats 1000000 in
theorem l06Fields_any (b : Nat) (T : TypeId) (f : Nat → Int) (hf : S8 f) (p q : Nat) (hp : p < 4294967296) (hq : q < 4294967296) (w : World) (h : HasArr w b T .i8 24 f) :
    Calls Tryd.prog 72 #[.pointer (some ⟨b, 0, none⟩), .int .u32 (p : Int), .int .u32 (q : Int)] w fun e w' => e = .returned (.tuple #[.int .i64 (ifS (frC f p q) (fmV f p)), .int .i64 (ifS (frC f p q) (fmV f q)), .int .i64 (frC f p q)]) ∧ Below w.heap.size w w' := by
  have h1 := fun W g => l06Field_any b T f hf p hp W g
  have h2 := fun W g => l06Field_any b T f hf q hq W g
  unfold frC
  rcases fm_or (f := f) (M := p) with ⟨hC, _⟩ | ⟨hV, hC⟩
  · rw [hC] at h1
    rw [hC, if_pos rfl]
    rcases fm_or (f := f) (M := q) with ⟨hD, _⟩ | ⟨hW, hD⟩
    · rw [hD] at h2
      rw [hD, ifS_0, ifS_0]
      generalize fmV f p = X at *
      generalize fmV f q = Y at *
      have H1 := Lib.hid h1; have H2 := Lib.hid h2; clear h1 h2 hC hD hf
      have A := Lib.hid h; clear h
      go_enter Tryd.func72, Tryd.ntmps72
      go_wp2_with fail
      refine (H1.out _ A.out).mono ?_; rintro e w1 ⟨rfl, hb1⟩
      go_wp2_with fail
      refine (H2.out _ (A.out.below hb1 A.out.lt)).mono ?_; rintro e w2 ⟨rfl, hb2⟩
      go_wp2_with fail
      go_ret3
      exact ⟨rfl, hb1.trans (hb2.mono hb1.size)⟩
    · rw [hW] at h2
      generalize fmV f p = X at *
      generalize fmC f q = D at *
      have hz : ∀ v, ifS D v = 0 := fun v => by rcases hD with rfl | rfl | rfl <;> rfl
      rw [hz, hz]
      have hn : (D != 0) = true := by rcases hD with rfl | rfl | rfl <;> rfl
      have H1 := Lib.hid h1; have H2 := Lib.hid h2; clear h1 h2 hC hD hf hW hz
      have A := Lib.hid h; clear h
      go_enter Tryd.func72, Tryd.ntmps72
      go_wp2_with fail
      refine (H1.out _ A.out).mono ?_; rintro e w1 ⟨rfl, hb1⟩
      go_wp2_with fail
      refine (H2.out _ (A.out.below hb1 A.out.lt)).mono ?_; rintro e w2 ⟨rfl, hb2⟩
      go_wp2_with fail
      go_ret3
      exact ⟨rfl, hb1.trans (hb2.mono hb1.size)⟩
  · rw [hV] at h1
    generalize fmC f p = D at *
    have hz : ∀ v, ifS D v = 0 := fun v => by rcases hC with rfl | rfl | rfl <;> rfl
    have hn : (D != 0) = true := by rcases hC with rfl | rfl | rfl <;> rfl
    rw [if_neg (by simpa using hn), hz, hz]
    have H1 := Lib.hid h1; clear h1 h2 hC hf hV hz
    have A := Lib.hid h; clear h
    go_enter Tryd.func72, Tryd.ntmps72
    go_wp2_with fail
    refine (H1.out _ A.out).mono ?_; rintro e w1 ⟨rfl, hb1⟩
    go_wp2_with fail
    go_ret3
    exact ⟨rfl, hb1⟩

set_option maxRecDepth 100000 in
set_option maxHeartbeats 1000000 in
theorem meanRise_any (s : Ers) (f : Nat → Int) (p q : Nat) (hp : p < 4294967296) (hq : q < 4294967296) (w : World) (hE : ErrEnv s w) :
    Calls Tryd.prog 112 #[.agg (arrV .i8 24 f), .int .u32 (p : Int), .int .u32 (q : Int)] w (CodedP s (.int .i64 (ifS (frC f p q) (fmV f q - fmV f p))) (frC f p q) w.heap.size w) := by
  have a1 := HasArr.new w 28 .i8 24 f
  have k0 := (Below.refl w.heap.size w).alloc (Nat.le_refl _) (.cells (arrV .i8 24 f) 28)
  have ne := errNeM
  have nn := nilNeM
  have h1 := fun W g => fieldMean_any s f p hp W g
  have h2 := fun W g => fieldMean_any s f q hq W g
  have bX := fmV_60 (f := f) (M := p)
  have bY := fmV_60 (f := f) (M := q)
  have HE := Lib.hid hE; clear hE
  unfold frC
  rcases fm_or (f := f) (M := p) with ⟨hC, _⟩ | ⟨hV, hC⟩
  · rw [hC] at h1
    rw [hC, if_pos rfl]
    rcases fm_or (f := f) (M := q) with ⟨hD, _⟩ | ⟨hW, hD⟩
    · rw [hD] at h2
      rw [hD, ifS_0]
      generalize fmV f p = X at *
      generalize fmV f q = Y at *
      have H1 := Lib.hid h1; have H2 := Lib.hid h2; clear h1 h2 hC hD
      go_enter Tryd.func112, Tryd.ntmps112
      go_wp2_with (refine wpList_load_arr a1 _ _ rfl rfl rfl Tryd.underlying28 sizeScn ?_)
      refine (H1.out _ (HE.out.below k0 (Nat.le_refl _))).mono ?_; rintro e w1 ⟨v, hv, rfl, hb1⟩
      have k1 := k0.trans (hb1.mono k0.size)
      have b1 := a1.below hb1 a1.lt
      clear a1 hb1 k0
      cases hv
      go_wp2_with (refine wpList_load_arr b1 _ _ rfl rfl rfl Tryd.underlying28 sizeScn ?_)
      refine (H2.out _ (HE.out.below k1 (Nat.le_refl _))).mono ?_; rintro e w2 ⟨v, hv, rfl, hb2⟩
      have k2 := k1.trans (hb2.mono k1.size)
      cases hv
      clear b1 hb2 k1
      go_wp2_with fail
      go_ret2
      exact ⟨_, .ok, rfl, k2⟩
    · rw [hW] at h2
      generalize fmV f p = X at *
      generalize fmC f q = D at *
      have hz : ∀ v, ifS D v = 0 := fun v => by rcases hD with rfl | rfl | rfl <;> rfl
      rw [hz]
      have H1 := Lib.hid h1; have H2 := Lib.hid h2; clear h1 h2 hC hW hz bY
      go_enter Tryd.func112, Tryd.ntmps112
      go_wp2_with (refine wpList_load_arr a1 _ _ rfl rfl rfl Tryd.underlying28 sizeScn ?_)
      refine (H1.out _ (HE.out.below k0 (Nat.le_refl _))).mono ?_; rintro e w1 ⟨v, hv, rfl, hb1⟩
      have k1 := k0.trans (hb1.mono k0.size)
      have b1 := a1.below hb1 a1.lt
      clear a1 hb1 k0
      cases hv
      go_wp2_with (refine wpList_load_arr b1 _ _ rfl rfl rfl Tryd.underlying28 sizeScn ?_)
      refine (H2.out _ (HE.out.below k1 (Nat.le_refl _))).mono ?_; rintro e w2 ⟨v, hv, rfl, hb2⟩
      have k2 := k1.trans (hb2.mono k1.size)
      clear b1 hb2 k1
      have hv' := hv
      rcases hD with rfl | rfl | rfl
      all_goals
        cases hv
        go_wp2_with fail
        go_ret2
        exact ⟨_, hv', rfl, k2⟩
  · rw [hV] at h1
    generalize fmC f p = D at *
    have hz : ∀ v, ifS D v = 0 := fun v => by rcases hC with rfl | rfl | rfl <;> rfl
    have hn : ¬ D = 0 := by rcases hC with rfl | rfl | rfl <;> decide
    rw [if_neg hn, hz]
    have H1 := Lib.hid h1; clear h1 h2 hV hz hn bX bY
    go_enter Tryd.func112, Tryd.ntmps112
    go_wp2_with (refine wpList_load_arr a1 _ _ rfl rfl rfl Tryd.underlying28 sizeScn ?_)
    refine (H1.out _ (HE.out.below k0 (Nat.le_refl _))).mono ?_; rintro e w1 ⟨v, hv, rfl, hb1⟩
    have k1 := k0.trans (hb1.mono k0.size)
    clear a1 hb1 k0
    have hv' := hv
    rcases hC with rfl | rfl | rfl
    all_goals
      cases hv
      go_wp2_with fail
      go_ret2
      exact ⟨_, hv', rfl, k1⟩

theorem isNaNI_any (x : Int) (w : World) : Calls Tryd.prog 146 #[.int .i64 x] w fun e w' => e = .returned (.bool false) ∧ w = w' := by
  go_enter Tryd.func146, Tryd.ntmps146
  go_wp2
  go_ret
  exact ⟨rfl, rfl⟩

set_option maxHeartbeats 1000000 in
theorem compareI_any (x y : Int) (w : World) : Calls Tryd.prog 113 #[.int .i64 x, .int .i64 y] w fun e w' => e = .returned (.int .i64 (cmpZ x y)) ∧ w = w' := by
  unfold cmpZ
  rcases Int.lt_trichotomy x y with h | h | h
  · rw [if_pos h]
    go_enter Tryd.func113, Tryd.ntmps113
    go_wp2_with (go_at_call 146; refine (isNaNI_any _ _).mono ?_; rintro e w' ⟨rfl, rfl⟩)
    go_ret
    exact ⟨rfl, rfl⟩
  · subst h
    rw [if_neg (by omega), if_neg (by omega)]
    go_enter Tryd.func113, Tryd.ntmps113
    go_wp2_with (go_at_call 146; refine (isNaNI_any _ _).mono ?_; rintro e w' ⟨rfl, rfl⟩)
    go_ret
    exact ⟨rfl, rfl⟩
  · have h2 : ¬ x < y := by omega
    rw [if_neg h2, if_pos h]
    go_enter Tryd.func113, Tryd.ntmps113
    go_wp2_with (go_at_call 146; refine (isNaNI_any _ _).mono ?_; rintro e w' ⟨rfl, rfl⟩)
    go_ret
    exact ⟨rfl, rfl⟩

/-- The code of two fields is 0, or one of three. -/
theorem fr_or {f : Nat → Int} {p q : Nat} : frC f p q = 0 ∨ frC f p q = 1 ∨ frC f p q = 2 ∨ frC f p q = 4 := by
  unfold frC
  split
  · rcases fm_or (f := f) (M := q) with ⟨hD, _⟩ | ⟨_, hD⟩
    · exact .inl hD
    · exact .inr hD
  · rename_i hn
    rcases fm_or (f := f) (M := p) with ⟨hD, _⟩ | ⟨_, hD⟩
    · exact absurd hD hn
    · exact .inr hD

set_option maxRecDepth 100000 in
set_option maxHeartbeats 1000000 in
theorem specDevelopBy_any (f : Nat → Int) (hf : S8 f) (p q : Nat) (hp : p < 4294967296) (hq : q < 4294967296) (w : World) :
    Calls Tryd.prog 30 #[.agg (arrV .i8 24 f), .int .u32 (p : Int), .int .u32 (q : Int)] w fun e w' => e = .returned (.tuple #[.int .i64 (dvV f p q), .int .i64 (dvC f p q)]) ∧ Below w.heap.size w w' := by
  have a1 := HasArr.new w 28 .i8 24 f
  have k0 := (Below.refl w.heap.size w).alloc (Nat.le_refl _) (.cells (arrV .i8 24 f) 28)
  have hk := l06Fields_any w.heap.size 28 f hf p q hp hq _ a1
  have bX := fmV_60 (f := f) (M := p)
  have bY := fmV_60 (f := f) (M := q)
  have hor := fr_or (f := f) (p := p) (q := q)
  unfold dvV dvC
  generalize frC f p q = D at *
  generalize fmV f p = X at *
  generalize fmV f q = Y at *
  clear a1 hf
  have K0 := Lib.hid k0; clear k0
  by_cases h0 : D = 0
  · subst h0
    rw [ifS_0, ifS_0] at hk
    rw [if_pos rfl]
    have Hk := Lib.hid hk; clear hk hor
    by_cases h1 : Y < X
    · rw [if_pos h1, ifS_4]
      go_enter Tryd.func30, Tryd.ntmps30
      go_wp2_with fail
      refine Hk.out.mono ?_; rintro e w1 ⟨rfl, hb1⟩
      go_wp2_with fail
      go_ret2
      exact ⟨rfl, K0.out.trans (hb1.mono K0.out.size)⟩
    · rw [if_neg h1, ifS_0]
      go_enter Tryd.func30, Tryd.ntmps30
      go_wp2_with fail
      refine Hk.out.mono ?_; rintro e w1 ⟨rfl, hb1⟩
      go_wp2_with fail
      go_ret2
      exact ⟨rfl, K0.out.trans (hb1.mono K0.out.size)⟩
  · have hz : ∀ v, ifS D v = 0 := fun v => by rcases hor with e | rfl | rfl | rfl; exact absurd e h0; all_goals rfl
    rw [hz, hz] at hk
    rw [if_neg h0, hz]
    have he : (D == 0) = false := by simpa using h0
    have hn : (D != 0) = true := by simpa using h0
    have Hk := Lib.hid hk; clear hk hor hz h0
    go_enter Tryd.func30, Tryd.ntmps30
    go_wp2_with fail
    refine Hk.out.mono ?_; rintro e w1 ⟨rfl, hb1⟩
    go_wp2_with fail
    go_ret2
    exact ⟨rfl, K0.out.trans (hb1.mono K0.out.size)⟩

set_option maxRecDepth 100000 in
set_option maxHeartbeats 1000000 in
theorem specBrighterField_any (f : Nat → Int) (hf : S8 f) (p q : Nat) (hp : p < 4294967296) (hq : q < 4294967296) (w : World) :
    Calls Tryd.prog 28 #[.agg (arrV .i8 24 f), .int .u32 (p : Int), .int .u32 (q : Int)] w fun e w' => e = .returned (.tuple #[.int .i64 (brV f p q), .int .i64 (frC f p q)]) ∧ Below w.heap.size w w' := by
  have a1 := HasArr.new w 28 .i8 24 f
  have k0 := (Below.refl w.heap.size w).alloc (Nat.le_refl _) (.cells (arrV .i8 24 f) 28)
  have hk := l06Fields_any w.heap.size 28 f hf p q hp hq _ a1
  have bX := fmV_60 (f := f) (M := p)
  have bY := fmV_60 (f := f) (M := q)
  have hor := fr_or (f := f) (p := p) (q := q)
  unfold brV
  generalize frC f p q = D at *
  generalize fmV f p = X at *
  generalize fmV f q = Y at *
  clear a1 hf
  have K0 := Lib.hid k0; clear k0
  by_cases h0 : D = 0
  · subst h0
    rw [ifS_0, ifS_0] at hk
    rw [ifS_0]
    have Hk := Lib.hid hk; clear hk hor
    unfold cmpZ
    rcases Int.lt_trichotomy X Y with h | h | h
    · rw [if_pos h]
      go_enter Tryd.func28, Tryd.ntmps28
      go_wp2_with fail
      refine Hk.out.mono ?_; rintro e w1 ⟨rfl, hb1⟩
      go_wp2_with fail
      go_ret2
      exact ⟨rfl, K0.out.trans (hb1.mono K0.out.size)⟩
    · subst h
      rw [if_neg (by omega), if_neg (by omega)]
      go_enter Tryd.func28, Tryd.ntmps28
      go_wp2_with fail
      refine Hk.out.mono ?_; rintro e w1 ⟨rfl, hb1⟩
      go_wp2_with fail
      go_ret2
      exact ⟨rfl, K0.out.trans (hb1.mono K0.out.size)⟩
    · have h2 : ¬ X < Y := by omega
      rw [if_neg h2, if_pos h]
      go_enter Tryd.func28, Tryd.ntmps28
      go_wp2_with fail
      refine Hk.out.mono ?_; rintro e w1 ⟨rfl, hb1⟩
      go_wp2_with fail
      go_ret2
      exact ⟨rfl, K0.out.trans (hb1.mono K0.out.size)⟩
  · have hz : ∀ v, ifS D v = 0 := fun v => by rcases hor with e | rfl | rfl | rfl; exact absurd e h0; all_goals rfl
    rw [hz, hz] at hk
    rw [hz]
    have hn : (D != 0) = true := by simpa using h0
    have Hk := Lib.hid hk; clear hk hor hz h0
    go_enter Tryd.func28, Tryd.ntmps28
    go_wp2_with fail
    refine Hk.out.mono ?_; rintro e w1 ⟨rfl, hb1⟩
    go_wp2_with fail
    go_ret2
    exact ⟨rfl, K0.out.trans (hb1.mono K0.out.size)⟩

set_option maxRecDepth 100000 in
set_option maxHeartbeats 1000000 in
theorem developBy_any (s : Ers) (f : Nat → Int) (p q : Nat) (hp : p < 4294967296) (hq : q < 4294967296) (w : World) (hE : ErrEnv s w) :
    Calls Tryd.prog 73 #[.agg (arrV .i8 24 f), .int .u32 (p : Int), .int .u32 (q : Int)] w (CodedP s (.int .i64 (dvV f p q)) (dvC f p q) w.heap.size w) := by
  have a1 := HasArr.new w 28 .i8 24 f
  have k0 := (Below.refl w.heap.size w).alloc (Nat.le_refl _) (.cells (arrV .i8 24 f) 28)
  have ne := errNeM
  have nn := nilNeM
  have hk := fun W g => meanRise_any s f p q hp hq W g
  have bX := fmV_60 (f := f) (M := p)
  have bY := fmV_60 (f := f) (M := q)
  have hor := fr_or (f := f) (p := p) (q := q)
  have HE := Lib.hid hE; clear hE
  unfold dvV dvC
  generalize frC f p q = D at *
  generalize fmV f p = X at *
  generalize fmV f q = Y at *
  by_cases h0 : D = 0
  · subst h0
    rw [ifS_0] at hk
    rw [if_pos rfl]
    have Hk := Lib.hid hk; clear hk hor
    by_cases h1 : Y < X
    · rw [if_pos h1, ifS_4]
      have h2 : Y - X < 0 := by omega
      go_enter Tryd.func73, Tryd.ntmps73
      go_wp2_with (refine wpList_load_arr a1 _ _ rfl rfl rfl Tryd.underlying28 sizeScn ?_)
      refine (Hk.out _ (HE.out.below k0 (Nat.le_refl _))).mono ?_; rintro e w1 ⟨v, hv, rfl, hb1⟩
      have k1 := k0.trans (hb1.mono k0.size)
      clear a1 hb1 k0
      cases hv
      have ce := (HE.out.below k1 (Nat.le_refl _)).c_estate
      go_wp2_with fail
      go_quiet (fail)
      go_wp2
      go_ret2
      exact ⟨_, .estate, rfl, by (repeat (first | exact Below.refl _ _ | assumption | apply Below.drew | apply below_drewL | apply below_drewP | (refine Below.alloc ?_ (by first | omega | (simp; done) | (simp; omega)) _) | (refine Below.setCell ?_ (by first | omega | (simp; done) | (simp; omega)) _)))⟩
    · rw [if_neg h1, ifS_0]
      have h2 : ¬ Y - X < 0 := by omega
      have hz := fun W => zonesIn_any (Y - X) (by omega) (by omega) W
      have bZ : -1 ≤ (Y - X + 1) / 3 ∧ (Y - X + 1) / 3 ≤ 30 := by omega
      generalize (Y - X + 1) / 3 = Z at *
      have Hz := Lib.hid hz; clear hz
      go_enter Tryd.func73, Tryd.ntmps73
      go_wp2_with (refine wpList_load_arr a1 _ _ rfl rfl rfl Tryd.underlying28 sizeScn ?_)
      refine (Hk.out _ (HE.out.below k0 (Nat.le_refl _))).mono ?_; rintro e w1 ⟨v, hv, rfl, hb1⟩
      have k1 := k0.trans (hb1.mono k0.size)
      clear a1 hb1 k0
      cases hv
      go_wp2_with fail
      refine (Hz.out _).mono ?_; rintro e w2 ⟨rfl, rfl⟩
      go_wp2_with fail
      go_ret2
      exact ⟨_, .ok, rfl, k1⟩
  · have hz : ∀ v, ifS D v = 0 := fun v => by rcases hor with e | rfl | rfl | rfl; exact absurd e h0; all_goals rfl
    rw [hz] at hk
    rw [if_neg h0, hz]
    have hD : D = 1 ∨ D = 2 ∨ D = 4 := by omega
    have Hk := Lib.hid hk; clear hk hor hz h0
    go_enter Tryd.func73, Tryd.ntmps73
    go_wp2_with (refine wpList_load_arr a1 _ _ rfl rfl rfl Tryd.underlying28 sizeScn ?_)
    refine (Hk.out _ (HE.out.below k0 (Nat.le_refl _))).mono ?_; rintro e w1 ⟨v, hv, rfl, hb1⟩
    have k1 := k0.trans (hb1.mono k0.size)
    clear a1 hb1 k0
    have hv' := hv
    rcases hD with rfl | rfl | rfl
    all_goals
      cases hv
      go_wp2_with fail
      go_ret2
      exact ⟨_, hv', rfl, k1⟩

set_option maxRecDepth 100000 in
set_option maxHeartbeats 1000000 in
theorem DevelopBy_any (s : Ers) (f : Nat → Int) (p q : Nat) (hp : p < 4294967296) (hq : q < 4294967296) (w : World) (hE : ErrEnv s w) :
    Calls Tryd.prog 29 #[.agg (arrV .i8 24 f), .int .u32 (p : Int), .int .u32 (q : Int)] w fun e w' => e = .returned (.tuple #[.int .i64 (dvV f p q), .int .i64 (dvC f p q)]) ∧ Below w.heap.size w w' := by
  have a1 := HasArr.new w 28 .i8 24 f
  have k0 := (Below.refl w.heap.size w).alloc (Nat.le_refl _) (.cells (arrV .i8 24 f) 28)
  have hk := fun W h => developBy_any s f p q hp hq W h
  generalize dvV f p q = V at *
  generalize dvC f p q = C at *
  have Hk := Lib.hid hk; clear hk
  have HE := Lib.hid hE; clear hE
  go_enter Tryd.func29, Tryd.ntmps29
  go_wp2_with (refine wpList_load_arr a1 _ _ rfl rfl rfl Tryd.underlying28 sizeScn ?_)
  refine (Hk.out _ (HE.out.below k0 (Nat.le_refl _))).mono ?_; rintro e w1 ⟨v, hv, rfl, hb1⟩
  have k1 := k0.trans (hb1.mono k0.size)
  go_wp2_with fail
  refine (codedInt_any hv _ _ (HE.out.below k1 (Nat.le_refl _))).mono ?_; rintro e w2 ⟨rfl, rfl⟩
  go_wp2_with fail
  go_ret2
  exact ⟨rfl, k1⟩

set_option maxRecDepth 100000 in
set_option maxHeartbeats 1000000 in
theorem brighterField_any (s : Ers) (f : Nat → Int) (p q : Nat) (hp : p < 4294967296) (hq : q < 4294967296) (w : World) (hE : ErrEnv s w) :
    Calls Tryd.prog 71 #[.agg (arrV .i8 24 f), .int .u32 (p : Int), .int .u32 (q : Int)] w (CodedP s (.int .i64 (brV f p q)) (frC f p q) w.heap.size w) := by
  have a1 := HasArr.new w 28 .i8 24 f
  have k0 := (Below.refl w.heap.size w).alloc (Nat.le_refl _) (.cells (arrV .i8 24 f) 28)
  have ne := errNeM
  have nn := nilNeM
  have hk := fun W g => meanRise_any s f p q hp hq W g
  have bX := fmV_60 (f := f) (M := p)
  have bY := fmV_60 (f := f) (M := q)
  have hor := fr_or (f := f) (p := p) (q := q)
  have HE := Lib.hid hE; clear hE
  unfold brV
  generalize frC f p q = D at *
  generalize fmV f p = X at *
  generalize fmV f q = Y at *
  by_cases h0 : D = 0
  · subst h0
    rw [ifS_0] at hk
    rw [ifS_0]
    have hc : cmpZ 0 (Y - X) = cmpZ X Y := by unfold cmpZ; split <;> split <;> (try split) <;> (try split) <;> omega
    have hcp := fun W => compareI_any 0 (Y - X) W
    rw [hc] at hcp
    generalize cmpZ X Y = Z at *
    have Hcp := Lib.hid hcp; have Hk := Lib.hid hk; clear hk hor hcp hc
    go_enter Tryd.func71, Tryd.ntmps71
    go_wp2_with (refine wpList_load_arr a1 _ _ rfl rfl rfl Tryd.underlying28 sizeScn ?_)
    refine (Hk.out _ (HE.out.below k0 (Nat.le_refl _))).mono ?_; rintro e w1 ⟨v, hv, rfl, hb1⟩
    have k1 := k0.trans (hb1.mono k0.size)
    clear a1 hb1 k0
    cases hv
    go_wp2_with fail
    refine (Hcp.out _).mono ?_; rintro e w2 ⟨rfl, rfl⟩
    go_wp2_with fail
    go_ret2
    exact ⟨_, .ok, rfl, k1⟩
  · have hz : ∀ v, ifS D v = 0 := fun v => by rcases hor with e | rfl | rfl | rfl; exact absurd e h0; all_goals rfl
    rw [hz] at hk
    rw [hz]
    have hD : D = 1 ∨ D = 2 ∨ D = 4 := by omega
    have Hk := Lib.hid hk; clear hk hor hz h0
    go_enter Tryd.func71, Tryd.ntmps71
    go_wp2_with (refine wpList_load_arr a1 _ _ rfl rfl rfl Tryd.underlying28 sizeScn ?_)
    refine (Hk.out _ (HE.out.below k0 (Nat.le_refl _))).mono ?_; rintro e w1 ⟨v, hv, rfl, hb1⟩
    have k1 := k0.trans (hb1.mono k0.size)
    clear a1 hb1 k0
    have hv' := hv
    rcases hD with rfl | rfl | rfl
    all_goals
      cases hv
      go_wp2_with fail
      go_ret2
      exact ⟨_, hv', rfl, k1⟩

set_option maxRecDepth 100000 in
set_option maxHeartbeats 1000000 in
theorem BrighterField_any (s : Ers) (f : Nat → Int) (p q : Nat) (hp : p < 4294967296) (hq : q < 4294967296) (w : World) (hE : ErrEnv s w) :
    Calls Tryd.prog 27 #[.agg (arrV .i8 24 f), .int .u32 (p : Int), .int .u32 (q : Int)] w fun e w' => e = .returned (.tuple #[.int .i64 (brV f p q), .int .i64 (frC f p q)]) ∧ Below w.heap.size w w' := by
  have a1 := HasArr.new w 28 .i8 24 f
  have k0 := (Below.refl w.heap.size w).alloc (Nat.le_refl _) (.cells (arrV .i8 24 f) 28)
  have hk := fun W h => brighterField_any s f p q hp hq W h
  generalize brV f p q = V at *
  generalize frC f p q = C at *
  have Hk := Lib.hid hk; clear hk
  have HE := Lib.hid hE; clear hE
  go_enter Tryd.func27, Tryd.ntmps27
  go_wp2_with (refine wpList_load_arr a1 _ _ rfl rfl rfl Tryd.underlying28 sizeScn ?_)
  refine (Hk.out _ (HE.out.below k0 (Nat.le_refl _))).mono ?_; rintro e w1 ⟨v, hv, rfl, hb1⟩
  have k1 := k0.trans (hb1.mono k0.size)
  go_wp2_with fail
  refine (codedInt_any hv _ _ (HE.out.below k1 (Nat.le_refl _))).mono ?_; rintro e w2 ⟨rfl, rfl⟩
  go_wp2_with fail
  go_ret2
  exact ⟨rfl, k1⟩

end Go.Proofs.YtmphmpddlgcofaaDoor

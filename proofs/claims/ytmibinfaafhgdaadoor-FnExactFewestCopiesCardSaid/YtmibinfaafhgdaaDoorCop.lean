/-
  Copies of a print: what both sides' tests of them return; where a print is darker than another one. Condition of the program's: its variables hold their own errors.
-/
import Derived.Test.YtmibinfaafhgdaaDoorSht
import Derived.Test.YtmibinfaafhgdaaDoorErrs
import Derived.Test.YtmibinfaafhgdaaDoorBvX
namespace Go.Proofs.YtmibinfaafhgdaaDoor
open Go.RowKit

/-- The code of copies and a difference. -/
def copC (n : Nat) (g : Nat → Nat → Int) (x : Int) : Int := if prsB g n = true then (if inB (n : Int) 1 8 = true then (if inB x 0 400 = true then 0 else 2) else 2) else 1
theorem copC_bad {n : Nat} {g : Nat → Nat → Int} {x : Int} (h : prsB g n = false) : copC n g x = 1 := by simp [copC, h]
theorem copC_n {n : Nat} {g : Nat → Nat → Int} {x : Int} (h : prsB g n = true) (h1 : inB (n : Int) 1 8 = false) : copC n g x = 2 := by simp [copC, h, h1]
theorem copC_x {n : Nat} {g : Nat → Nat → Int} {x : Int} (h : prsB g n = true) (h1 : inB (n : Int) 1 8 = true) (h2 : inB x 0 400 = false) : copC n g x = 2 := by simp [copC, h, h1, h2]
theorem copC_ok {n : Nat} {g : Nat → Nat → Int} {x : Int} (h : prsB g n = true) (h1 : inB (n : Int) 1 8 = true) (h2 : inB x 0 400 = true) : copC n g x = 0 := by simp [copC, h, h1, h2]
theorem copC_cases (n : Nat) (g : Nat → Nat → Int) (x : Int) : (copC n g x = 0 ∧ prsB g n = true ∧ (1 ≤ n ∧ n ≤ 8) ∧ 0 ≤ x ∧ x ≤ 400) ∨ copC n g x = 1 ∨ copC n g x = 2 := by
  rcases h : prsB g n with _ | _
  · exact .inr (.inl (copC_bad h))
  · rcases h1 : inB (n : Int) 1 8 with _ | _
    · exact .inr (.inr (copC_n h h1))
    · rcases h2 : inB x 0 400 with _ | _
      · exact .inr (.inr (copC_x h h1 h2))
      · have a := inB_true.1 h1
        exact .inl ⟨copC_ok h h1 h2, rfl, by omega, inB_true.1 h2⟩

set_option maxRecDepth 100000 in
set_option maxHeartbeats 1000000 in
theorem l07Copies_any (A : Option Addr) (n cap : Nat) (g : Nat → Nat → Int) (x : Int) (hn : n ≤ 1048576) (hs : ∀ i, i < n → S16 (g i)) (w : World) (hr : PrsIn w A n g) :
    Calls Tryd.prog 13 #[.slice A n cap, .int .i64 x] w fun e w' => e = .returned (.int .i64 (copC n g x)) ∧ Below w.heap.size w w' := by
  go_enter Tryd.func13, Tryd.ntmps13
  go_wp2_with fail
  go_loopw [5] (fun i wr => ∃ k : Nat, k ≤ n ∧ i = .int .i64 k ∧ (∀ j, j < k → dnsB (g j) = true) ∧ Below w.heap.size w wr) (fun i _ => n - (intOf i).toNat)
  case atStart => exact ⟨0, Nat.zero_le _, rfl, fun j hj => by omega, Below.refl _ _⟩
  case round =>
    obtain ⟨k, hk, rfl, hj, hB⟩ := hrel
    have HJ := Lib.hid hj; clear hj
    by_cases hkn : k < n
    · have hs1 := hs k hkn
      clear hs
      rcases hr with h0 | ⟨b', o, rfl, hlt, hc⟩
      · exfalso; omega
      have q0 := (hc k hkn).below hB hlt
      clear hc
      have hd := l03PrintAt_any b' (o + k * 64) (g k) hs1 wr q0
      rcases hv : dnsB (g k) with _ | _
      · have Hz := Lib.hid (copC_bad (x := x) (prsB_no hkn hv))
        rw [hv] at hd
        have Hd := Lib.hid hd; clear hd q0 hs1 hv
        go_wp2_with fail
        refine Hd.out.mono ?_; rintro e w2 ⟨rfl, hb2⟩
        have hB2 := hB.trans (hb2.mono hB.size)
        go_wp2_with fail
        go_ret
        exact ⟨ret_int Hz.out.symm, hB2⟩
      · rw [hv] at hd
        have Hd := Lib.hid hd; clear hd q0 hs1
        have HV := Lib.hid hv; clear hv
        go_wp2_with fail
        refine Hd.out.mono ?_; rintro e w2 ⟨rfl, hb2⟩
        have hB2 := hB.trans (hb2.mono hB.size)
        clear hb2
        go_wp2_with fail
        go_roundw
        case rel => exact ⟨k + 1, by omega, by go_num, fun j hj => by
          by_cases e : j = k
          · subst e; exact HV.out
          · exact HJ.out j (by omega), hB2⟩
        case measure => simp [intOf]; omega
    · obtain rfl : k = n := by omega
      have hp : prsB g k = true := prsB_iff.2 HJ.out
      clear hs hr
      have hq := fun W => l00In_any (k : Int) 1 8 W
      have hq2 := fun W => l02Density_16 x W
      rcases hv : inB (k : Int) 1 8 with _ | _
      · have Hz := Lib.hid (copC_n (x := x) hp hv)
        rw [hv] at hq
        have Hq := Lib.hid hq; clear hq hv hq2 hp
        go_wp2_with (go_at_call 22; refine (Hq.out _).mono ?_; rintro e w' ⟨rfl, rfl⟩)
        go_ret
        exact ⟨ret_int Hz.out.symm, hB⟩
      · rcases hv2 : inB x 0 400 with _ | _
        · have Hz := Lib.hid (copC_x (x := x) hp hv hv2)
          rw [hv] at hq
          rw [hv2] at hq2
          have Hq := Lib.hid hq; have Hq2 := Lib.hid hq2; clear hq hv hq2 hv2 hp
          go_wp2_with (first | (go_at_call 22; refine (Hq.out _).mono ?_; rintro e w' ⟨rfl, rfl⟩) | (go_at_call 23; refine (Hq2.out _).mono ?_; rintro e w' ⟨rfl, rfl⟩))
          go_ret
          exact ⟨ret_int Hz.out.symm, hB⟩
        · have Hz := Lib.hid (copC_ok (x := x) hp hv hv2)
          rw [hv] at hq
          rw [hv2] at hq2
          have Hq := Lib.hid hq; have Hq2 := Lib.hid hq2; clear hq hv hq2 hv2 hp
          go_wp2_with (first | (go_at_call 22; refine (Hq.out _).mono ?_; rintro e w' ⟨rfl, rfl⟩) | (go_at_call 23; refine (Hq2.out _).mono ?_; rintro e w' ⟨rfl, rfl⟩))
          go_ret
          exact ⟨ret_int Hz.out.symm, hB⟩

/-! ### THE PROGRAM -/
theorem isDensityC_any (x : Int) (w : World) : Calls Tryd.prog 48 #[.int .i64 x] w fun e w' => e = .returned (.bool (inB x 0 400)) ∧ w = w' := by
  go_enter Tryd.func48, Tryd.ntmps48
  go_wp2_with (go_at_call 56; refine (inRange_any _ _ _ _).mono ?_; rintro e w' ⟨rfl, rfl⟩)
  go_ret
  exact ⟨rfl, rfl⟩

/-- The error of a code. -/
def copE (s : Ers) (c : Int) : Value := if c = 0 then .nilIface else if c = 1 then errV s.einvalid else errV s.erange
theorem copE_code (s : Ers) (n : Nat) (g : Nat → Nat → Int) (x : Int) : IsCode s (copE s (copC n g x)) (copC n g x) := by
  rcases copC_cases n g x with h | h | h
  · rw [h.1]; exact .ok
  · rw [h]; exact .einvalid
  · rw [h]; exact .erange

set_option maxRecDepth 100000 in
set_option maxHeartbeats 1000000 in
theorem checkCopies_any (s : Ers) (A : Option Addr) (n cap : Nat) (g : Nat → Nat → Int) (hn : n ≤ 1048576) (w : World) (hr : PrsIn w A n g) (hE : ErrEnv s w) :
    Calls Tryd.prog 47 #[.slice A n cap] w fun e w' => e = .returned (copE s (copC n g 0)) ∧ Below w.heap.size w w' := by
  have hp := arePrints_any A n cap g hn w hr
  have HE := Lib.hid hE; clear hE hr
  have hq := fun W => inRange_any (n : Int) 1 8 W
  rcases hv : prsB g n with _ | _
  · rw [copC_bad hv]
    rw [hv] at hp
    have Hp := Lib.hid hp; clear hp hv hq
    go_enter Tryd.func47, Tryd.ntmps47
    go_wp2_with fail
    refine Hp.out.mono ?_; rintro e w2 ⟨rfl, hb2⟩
    have ce := (HE.out.below hb2 (Nat.le_refl _)).c_einvalid
    go_wp2_with fail
    go_ret
    exact ⟨rfl, hb2⟩
  rw [hv] at hp
  have Hp := Lib.hid hp; clear hp
  rcases h1 : inB (n : Int) 1 8 with _ | _
  · rw [copC_n hv h1]
    rw [h1] at hq
    have Hq := Lib.hid hq; clear hq hv h1
    go_enter Tryd.func47, Tryd.ntmps47
    go_wp2_with fail
    refine Hp.out.mono ?_; rintro e w2 ⟨rfl, hb2⟩
    have ce := (HE.out.below hb2 (Nat.le_refl _)).c_erange
    go_wp2_with (go_at_call 56; refine (Hq.out _).mono ?_; rintro e w' ⟨rfl, rfl⟩)
    go_ret
    exact ⟨rfl, hb2⟩
  · rw [copC_ok hv h1 (by rfl)]
    rw [h1] at hq
    have Hq := Lib.hid hq; clear hq hv h1
    go_enter Tryd.func47, Tryd.ntmps47
    go_wp2_with fail
    refine Hp.out.mono ?_; rintro e w2 ⟨rfl, hb2⟩
    go_wp2_with (go_at_call 56; refine (Hq.out _).mono ?_; rintro e w' ⟨rfl, rfl⟩)
    go_ret
    exact ⟨rfl, hb2⟩

set_option maxRecDepth 100000 in
set_option maxHeartbeats 1000000 in
theorem checkCopiesWithin_any (s : Ers) (A : Option Addr) (n cap : Nat) (g : Nat → Nat → Int) (x : Int) (hn : n ≤ 1048576) (w : World) (hr : PrsIn w A n g) (hE : ErrEnv s w) :
    Calls Tryd.prog 37 #[.slice A n cap, .int .i64 x] w fun e w' => e = .returned (copE s (copC n g x)) ∧ Below w.heap.size w w' := by
  have hp := checkCopies_any s A n cap g hn w hr hE
  have HE := Lib.hid hE; clear hE hr
  have hq := fun W => isDensityC_any x W
  rcases copC_cases n g 0 with h | h | h
  · obtain ⟨h0, h1, h2, _⟩ := h
    rw [h0] at hp
    have hp' : Calls Tryd.prog 47 #[.slice A n cap] w fun e w' => e = .returned .nilIface ∧ Below w.heap.size w w' := hp
    have Hp := Lib.hid hp'; clear hp hp'
    rcases hv : inB x 0 400 with _ | _
    · rw [copC_x h1 (inB_true.2 (by omega)) hv]
      rw [hv] at hq
      have Hq := Lib.hid hq; clear hq hv h0 h1 h2
      go_enter Tryd.func37, Tryd.ntmps37
      go_wp2_with fail
      refine Hp.out.mono ?_; rintro e w2 ⟨rfl, hb2⟩
      have ce := (HE.out.below hb2 (Nat.le_refl _)).c_erange
      go_wp2_with (go_at_call 48; refine (Hq.out _).mono ?_; rintro e w' ⟨rfl, rfl⟩)
      go_ret
      exact ⟨rfl, hb2⟩
    · rw [copC_ok h1 (inB_true.2 (by omega)) hv]
      rw [hv] at hq
      have Hq := Lib.hid hq; clear hq hv h0 h1 h2
      go_enter Tryd.func37, Tryd.ntmps37
      go_wp2_with fail
      refine Hp.out.mono ?_; rintro e w2 ⟨rfl, hb2⟩
      go_wp2_with (go_at_call 48; refine (Hq.out _).mono ?_; rintro e w' ⟨rfl, rfl⟩)
      go_ret
      exact ⟨rfl, hb2⟩
  · have hx : copC n g x = 1 := by
      rcases hb : prsB g n with _ | _
      · exact copC_bad hb
      · unfold copC at h; rw [hb] at h; simp only [if_true] at h; split at h <;> (try split at h) <;> cases h
    rw [hx]
    rw [h] at hp
    have hp' : Calls Tryd.prog 47 #[.slice A n cap] w fun e w' => e = .returned (errV s.einvalid) ∧ Below w.heap.size w w' := hp
    have Hp := Lib.hid hp'; clear hp hp' hx h hq
    go_enter Tryd.func37, Tryd.ntmps37
    go_wp2_with fail
    refine Hp.out.mono ?_; rintro e w2 ⟨rfl, hb2⟩
    go_wp2_with fail
    go_ret
    exact ⟨rfl, hb2⟩
  · have hx : copC n g x = 2 := by
      rcases hb : prsB g n with _ | _
      · rw [copC_bad hb] at h; cases h
      · rcases hb1 : inB (n : Int) 1 8 with _ | _
        · exact copC_n hb hb1
        · rw [copC_ok hb hb1 (by rfl)] at h; cases h
    rw [hx]
    rw [h] at hp
    have hp' : Calls Tryd.prog 47 #[.slice A n cap] w fun e w' => e = .returned (errV s.erange) ∧ Below w.heap.size w w' := hp
    have Hp := Lib.hid hp'; clear hp hp' hx h hq
    go_enter Tryd.func37, Tryd.ntmps37
    go_wp2_with fail
    refine Hp.out.mono ?_; rintro e w2 ⟨rfl, hb2⟩
    go_wp2_with fail
    go_ret
    exact ⟨rfl, hb2⟩

/-! ### WHERE A PRINT IS DARKER -/
/-- The mask of the cells of which p holds. -/
def mkB (p : Nat → Bool) : BitVec 64 := BitVec.ofNat 64 (maskN p 64)
theorem mkB_bvI (p : Nat → Bool) : bvI (mkB p) = ((maskN p 64 : Nat) : Int) := by
  have := maskN_lt p 64 (Nat.le_refl _)
  unfold bvI mkB
  rw [BitVec.toNat_ofNat]; omega
theorem mkB_bit (p : Nat → Bool) {k : Nat} (hk : k < 64) : (mkB p).getLsbD k = p k := by
  unfold mkB
  rw [BitVec.getLsbD_ofNat, maskN_bit]
  simp [hk]
theorem mkB_ext {p : Nat → Bool} {m : BitVec 64} (h : ∀ k, k < 64 → m.getLsbD k = p k) : m = mkB p := BitVec.eq_of_getLsbD_eq fun i hi => by rw [h i hi, mkB_bit p hi]
def drkP (f g : Nat → Int) (x : Int) (k : Nat) : Bool := decide (x < f k - g k)

theorem bitOfC_any (k : Nat) (hk : k < 64) (w : World) : Calls Tryd.prog 58 #[.int .i64 (k : Int)] w fun e w' => e = .returned (.int .u64 ((2 ^ k : Nat) : Int)) ∧ w = w' := by
  go_enter Tryd.func58, Tryd.ntmps58
  go_wp2_with (refine wpList_shl1 (κ := .i64) (k := k) _ _ rfl rfl rfl rfl hk ?_)
  go_ret
  exact ⟨rfl, rfl⟩

set_option maxRecDepth 100000 in
set_option maxHeartbeats 1000000 in
theorem maskWhere_dark (p : Nat → Bool) (q1 q2 q3 : Nat) (w : World)
    (hcl : ∀ k : Nat, k < 64 → ∀ W, Below w.heap.size w W → Calls Tryd.prog 51 #[.int .i64 (k : Int), .pointer (some ⟨q1, 0, none⟩), .pointer (some ⟨q2, 0, none⟩), .pointer (some ⟨q3, 0, none⟩)] W fun e w' => e = .returned (.bool (p k)) ∧ Below W.heap.size W w') :
    Calls Tryd.prog 50 #[.func (.func 51) #[] #[.pointer (some ⟨q1, 0, none⟩), .pointer (some ⟨q2, 0, none⟩), .pointer (some ⟨q3, 0, none⟩)]] w fun e w' => e = .returned (.int .u64 ((maskN p 64 : Nat) : Int)) ∧ Below w.heap.size w w' := by
  have Hcl := Lib.hid hcl; clear hcl
  have hb := fun k (hk : k < 64) => bitOfC_any k hk
  have Hb := Lib.hid hb; clear hb
  go_enter Tryd.func50, Tryd.ntmps50
  go_wp2_with fail
  go_loopw [3, 5] (fun m i wr => ∃ k : Nat, k ≤ 64 ∧ i = .int .i64 (k : Int) ∧ m = .int .u64 ((maskN p k : Nat) : Int) ∧ Below w.heap.size w wr) (fun _ i _ => 64 - (intOf i).toNat)
  case atStart => exact ⟨0, by omega, rfl, rfl, Below.refl _ _⟩
  case round =>
    obtain ⟨k, hk, rfl, rfl, hB⟩ := hrel
    by_cases hkn : k < 64
    · have hq := Hcl.out k hkn wr hB
      have hlt := maskN_lt p k hk
      have hyes := maskN_yes (p := p) (k := k)
      have hno := maskN_no (p := p) (k := k)
      have h2 := two_pow_lt64 hkn
      have bk := fun W => Hb.out k hkn W
      rcases hv : p k with _ | _
      · rw [hv] at hq
        have HN := Lib.hid (hno hv)
        clear hno hyes hv h2
        generalize maskN p k = m at *
        have Hq := Lib.hid hq; clear hq
        have HL := Lib.hid hlt; clear hlt
        go_wp2_with fail
        refine Hq.out.mono ?_; rintro e w1 ⟨rfl, hb1⟩
        have hB1 := hB.trans (hb1.mono hB.size)
        clear hb1 hB
        go_wp2_with fail
        go_roundw
        case rel => exact ⟨k + 1, by omega, by go_num, by rw [HN.out], hB1⟩
        case measure => simp [intOf]; omega
      · rw [hv] at hq
        have HY := Lib.hid (hyes hv)
        clear hno hyes hv
        generalize maskN p k = m at *
        have Hq := Lib.hid hq; clear hq
        have HL := Lib.hid hlt; clear hlt
        have H2 := Lib.hid h2; clear h2
        have Bk := Lib.hid bk; clear bk
        go_wp2_with fail
        refine Hq.out.mono ?_; rintro e w1 ⟨rfl, hb1⟩
        have hB1 := hB.trans (hb1.mono hB.size)
        clear hb1 hB
        go_wp2_with fail
        refine (Bk.out _).mono ?_; rintro e w2 ⟨rfl, rfl⟩
        go_wp2_with (refine wpList_or _ _ rfl rfl rfl rfl HL.out H2.out ?_)
        go_roundw
        case rel => exact ⟨k + 1, by omega, by go_num, by rw [HY.out], hB1⟩
        case measure => simp [intOf]; omega
    · obtain rfl : k = 64 := by omega
      go_wp2_with fail
      go_ret
      exact ⟨rfl, hB⟩

set_option maxRecDepth 100000 in
set_option maxHeartbeats 1000000 in
theorem darkerIn_one (f g : Nat → Int) (hf : S16 f) (hg : S16 g) (x : Int) (k : Nat) (hk : k < 64) (q1 q2 q3 : Nat) (T1 T2 : TypeId) (w : World) (h1 : HasArr w q1 T1 .i16 64 f) (h2 : HasArr w q2 T2 .i16 64 g) (h3 : w.cell? ⟨q3, 0, none⟩ = some (.int .i64 x)) :
    Calls Tryd.prog 51 #[.int .i64 (k : Int), .pointer (some ⟨q1, 0, none⟩), .pointer (some ⟨q2, 0, none⟩), .pointer (some ⟨q3, 0, none⟩)] w fun e w' => e = .returned (.bool (drkP f g x k)) ∧ Below w.heap.size w w' := by
  have c1 := h1.cell hk
  have c2 := h2.cell hk
  have b1 := hf k hk
  have b2 := hg k hk
  have hk' : (k : Int) < 64 := by omega
  unfold drkP
  generalize f k = F at *
  generalize g k = G at *
  clear h1 h2 hf hg
  have e1 : IntKind.i64.wrap (F - G) = F - G := IntWalk.i64_in _ (by omega)
  go_enter Tryd.func51, Tryd.ntmps51
  go_wp2_with fail
  go_quiet (fail)
  go_wp2
  go_ret
  exact ⟨rfl, below_drewA (Below.refl _ _) nq⟩

set_option maxRecDepth 100000 in
set_option maxHeartbeats 1000000 in
theorem darkerIn_any (f g : Nat → Int) (hf : S16 f) (hg : S16 g) (x : Int) (w : World) :
    Calls Tryd.prog 39 #[.agg (arrV .i16 64 f), .agg (arrV .i16 64 g), .int .i64 x] w fun e w' => e = .returned (.int .u64 (bvI (mkB (drkP f g x)))) ∧ Below w.heap.size w w' := by
  have a1 := ((HasArr.new w 37 .i16 64 f).alloc (.cells (arrV .i16 64 g) 37)).alloc (.cells #[.int .i64 x] 2)
  have a2 : HasArr (((w.alloc (.cells (arrV .i16 64 f) 37)).alloc (.cells (arrV .i16 64 g) 37)).alloc (.cells #[.int .i64 x] 2)) (w.heap.size + 1) 37 .i16 64 g := by
    have h := (HasArr.new (w.alloc (.cells (arrV .i16 64 f) 37)) 37 .i16 64 g).alloc (.cells #[.int .i64 x] 2)
    simpa using h
  have c3 : (((w.alloc (.cells (arrV .i16 64 f) 37)).alloc (.cells (arrV .i16 64 g) 37)).alloc (.cells #[.int .i64 x] 2)).cell? ⟨w.heap.size + 1 + 1, 0, none⟩ = some (.int .i64 x) := by
    have hs : ((w.alloc (.cells (arrV .i16 64 f) 37)).alloc (.cells (arrV .i16 64 g) 37)).heap.size = w.heap.size + 1 + 1 := by rw [World.size_alloc, World.size_alloc]
    rw [← hs, cell_of_row _ _ 0 _ _ _ (heap_alloc_new _ _)]; rfl
  have k0 : Below w.heap.size w (((w.alloc (.cells (arrV .i16 64 f) 37)).alloc (.cells (arrV .i16 64 g) 37)).alloc (.cells #[.int .i64 x] 2)) :=
    (((Below.refl w.heap.size w).alloc (Nat.le_refl _) (.cells (arrV .i16 64 f) 37)).alloc (by rw [World.size_alloc]; omega) (.cells (arrV .i16 64 g) 37)).alloc (by rw [World.size_alloc, World.size_alloc]; omega) (.cells #[.int .i64 x] 2)
  have hm := maskWhere_dark (drkP f g x) w.heap.size (w.heap.size + 1) (w.heap.size + 1 + 1) (((w.alloc (.cells (arrV .i16 64 f) 37)).alloc (.cells (arrV .i16 64 g) 37)).alloc (.cells #[.int .i64 x] 2))
    (fun k hk W hW => darkerIn_one f g hf hg x k hk _ _ _ _ _ W (a1.below hW a1.lt) (a2.below hW a2.lt) (below_cellOf hW c3 (Nat.le_refl _)))
  rw [← mkB_bvI] at hm
  have Hm := Lib.hid hm
  clear hm a1 a2 c3 hf hg
  go_enter Tryd.func39, Tryd.ntmps39
  go_wp2_with fail
  refine Hm.out.mono ?_; rintro e w2 ⟨rfl, hb2⟩
  go_wp2_with fail
  go_ret
  exact ⟨rfl, k0.trans (hb2.mono k0.size)⟩
end Go.Proofs.YtmibinfaafhgdaaDoor

/-
  Copies of a print: what both sides' tests of them return; where a print is darker than another one. Condition of the program's: its variables hold their own errors.
-/
import Derived.Test.YtgnnngaihaefmaaDoorSht
import Derived.Test.YtgnnngaihaefmaaDoorErrs
import Derived.Test.YtgnnngaihaefmaaDoorBv
namespace Go.Proofs.YtgnnngaihaefmaaDoor
open Go.RowKit

/-- The code of copies and a difference. -/
def copC (n : Nat) (g : Nat → Nat → Int) (x : Int) : Int := if prsB g n = true then (if inB (n : Int) 1 8 = true then (if inB x 0 400 = true then 0 else 2) else 2) else 1
theorem copC_bad {n : Nat} {g : Nat → Nat → Int} {x : Int} (h : prsB g n = false) : copC n g x = 1 := by simp [copC, h]
theorem copC_n {n : Nat} {g : Nat → Nat → Int} {x : Int} (h : prsB g n = true) (h1 : inB (n : Int) 1 8 = false) : copC n g x = 2 := by simp [copC, h, h1]
theorem copC_x {n : Nat} {g : Nat → Nat → Int} {x : Int} (h : prsB g n = true) (h1 : inB (n : Int) 1 8 = true) (h2 : inB x 0 400 = false) : copC n g x = 2 := by simp [copC, h, h1, h2]
theorem copC_ok {n : Nat} {g : Nat → Nat → Int} {x : Int} (h : prsB g n = true) (h1 : inB (n : Int) 1 8 = true) (h2 : inB x 0 400 = true) : copC n g x = 0 := by simp [copC, h, h1, h2]
theorem copC_cases (n : Nat) (g : Nat → Nat → Int) (x : Int) : (copC n g x = 0 ∧ prsB g n = true ∧ (1 ≤ n ∧ n ≤ 8) ∧ 0 ≤ x ∧ x ≤ 400) ∨ copC n g x = 1 ∨ copC n g x = 2 := by
  rcases h : prsB g n with _ | _
  · exact .inr (.inl (copC_bad h))
  · rcases h1 : inB (n : Int) 1 8 with _ | _
    · exact .inr (.inr (copC_n h h1))
    · rcases h2 : inB x 0 400 with _ | _
      · exact .inr (.inr (copC_x h h1 h2))
      · have a := inB_true.1 h1
        exact .inl ⟨copC_ok h h1 h2, rfl, by omega, inB_true.1 h2⟩

set_option maxRecDepth 100000 in
set_option maxHeartbeats 1000000 in
theorem l07Copies_any (A : Option Addr) (n cap : Nat) (g : Nat → Nat → Int) (x : Int) (hn : n ≤ 1048576) (hs : ∀ i, i < n → S16 (g i)) (w : World) (hr : PrsIn w A n g) :
    Calls Tryd.prog 26 #[.slice A n cap, .int .i64 x] w fun e w' => e = .returned (.int .i64 (copC n g x)) ∧ Below w.heap.size w w' := by
  go_enter Tryd.func26, Tryd.ntmps26
  go_wp2_with fail
  go_loopw [5] (fun i wr => ∃ k : Nat, k ≤ n ∧ i = .int .i64 k ∧ (∀ j, j < k → dnsB (g j) = true) ∧ Below w.heap.size w wr) (fun i _ => n - (intOf i).toNat)
  case atStart => exact ⟨0, Nat.zero_le _, rfl, fun j hj => by omega, Below.refl _ _⟩
  case round =>
    obtain ⟨k, hk, rfl, hj, hB⟩ := hrel
    have HJ := Lib.hid hj; clear hj
    by_cases hkn : k < n
    · have hs1 := hs k hkn
      clear hs
      rcases hr with h0 | ⟨b', o, rfl, hlt, hc⟩
      · exfalso; omega
      have q0 := (hc k hkn).below hB hlt
      clear hc
      have hd := l03PrintAt_any b' (o + k * 64) (g k) hs1 wr q0
      rcases hv : dnsB (g k) with _ | _
      · have Hz := Lib.hid (copC_bad (x := x) (prsB_no hkn hv))
        rw [hv] at hd
        have Hd := Lib.hid hd; clear hd q0 hs1 hv
        go_wp2_with fail
        refine Hd.out.mono ?_; rintro e w2 ⟨rfl, hb2⟩
        have hB2 := hB.trans (hb2.mono hB.size)
        go_wp2_with fail
        go_ret
        exact ⟨ret_int Hz.out.symm, hB2⟩
      · rw [hv] at hd
        have Hd := Lib.hid hd; clear hd q0 hs1
        have HV := Lib.hid hv; clear hv
        go_wp2_with fail
        refine Hd.out.mono ?_; rintro e w2 ⟨rfl, hb2⟩
        have hB2 := hB.trans (hb2.mono hB.size)
        clear hb2
        go_wp2_with fail
        go_roundw
        case rel => exact ⟨k + 1, by omega, by go_num, fun j hj => by
          by_cases e : j = k
          · subst e; exact HV.out
          · exact HJ.out j (by omega), hB2⟩
        case measure => simp [intOf]; omega
    · obtain rfl : k = n := by omega
      have hp : prsB g k = true := prsB_iff.2 HJ.out
      clear hs hr
      have hq := fun W => l00In_any (k : Int) 1 8 W
      have hq2 := fun W => l02Density_16 x W
      rcases hv : inB (k : Int) 1 8 with _ | _
      · have Hz := Lib.hid (copC_n (x := x) hp hv)
        rw [hv] at hq
        have Hq := Lib.hid hq; clear hq hv hq2 hp
        go_wp2_with (go_at_call 37; refine (Hq.out _).mono ?_; rintro e w' ⟨rfl, rfl⟩)
        go_ret
        exact ⟨ret_int Hz.out.symm, hB⟩
      · rcases hv2 : inB x 0 400 with _ | _
        · have Hz := Lib.hid (copC_x (x := x) hp hv hv2)
          rw [hv] at hq
          rw [hv2] at hq2
          have Hq := Lib.hid hq; have Hq2 := Lib.hid hq2; clear hq hv hq2 hv2 hp
          go_wp2_with (first | (go_at_call 37; refine (Hq.out _).mono ?_; rintro e w' ⟨rfl, rfl⟩) | (go_at_call 40; refine (Hq2.out _).mono ?_; rintro e w' ⟨rfl, rfl⟩))
          go_ret
          exact ⟨ret_int Hz.out.symm, hB⟩
        · have Hz := Lib.hid (copC_ok (x := x) hp hv hv2)
          rw [hv] at hq
          rw [hv2] at hq2
          have Hq := Lib.hid hq; have Hq2 := Lib.hid hq2; clear hq hv hq2 hv2 hp
          go_wp2_with (first | (go_at_call 37; refine (Hq.out _).mono ?_; rintro e w' ⟨rfl, rfl⟩) | (go_at_call 40; refine (Hq2.out _).mono ?_; rintro e w' ⟨rfl, rfl⟩))
          go_ret
          exact ⟨ret_int Hz.out.symm, hB⟩

/-- The error of a code. -/
def copE (s : Ers) (c : Int) : Value := if c = 0 then .nilIface else if c = 1 then errV s.einvalid else errV s.erange
theorem copE_code (s : Ers) (n : Nat) (g : Nat → Nat → Int) (x : Int) : IsCode s (copE s (copC n g x)) (copC n g x) := by
  rcases copC_cases n g x with h | h | h
  · rw [h.1]; exact .ok
  · rw [h]; exact .einvalid
  · rw [h]; exact .erange

set_option maxRecDepth 100000 in
set_option maxHeartbeats 1000000 in
theorem checkCopies_any (s : Ers) (A : Option Addr) (n cap : Nat) (g : Nat → Nat → Int) (hn : n ≤ 1048576) (w : World) (hr : PrsIn w A n g) (hE : ErrEnv s w) :
    Calls Tryd.prog 41 #[.slice A n cap] w fun e w' => e = .returned (copE s (copC n g 0)) ∧ Below w.heap.size w w' := by
  have hp := arePrints_any A n cap g hn w hr
  have HE := Lib.hid hE; clear hE hr
  have hq := fun W => inRange_any (n : Int) 1 8 W
  rcases hv : prsB g n with _ | _
  · rw [copC_bad hv]
    rw [hv] at hp
    have Hp := Lib.hid hp; clear hp hv hq
    go_enter Tryd.func41, Tryd.ntmps41
    go_wp2_with fail
    refine Hp.out.mono ?_; rintro e w2 ⟨rfl, hb2⟩
    have ce := (HE.out.below hb2 (Nat.le_refl _)).c_einvalid
    go_wp2_with fail
    go_ret
    exact ⟨rfl, hb2⟩
  rw [hv] at hp
  have Hp := Lib.hid hp; clear hp
  rcases h1 : inB (n : Int) 1 8 with _ | _
  · rw [copC_n hv h1]
    rw [h1] at hq
    have Hq := Lib.hid hq; clear hq hv h1
    go_enter Tryd.func41, Tryd.ntmps41
    go_wp2_with fail
    refine Hp.out.mono ?_; rintro e w2 ⟨rfl, hb2⟩
    have ce := (HE.out.below hb2 (Nat.le_refl _)).c_erange
    go_wp2_with (go_at_call 55; refine (Hq.out _).mono ?_; rintro e w' ⟨rfl, rfl⟩)
    go_ret
    exact ⟨rfl, hb2⟩
  · rw [copC_ok hv h1 (by rfl)]
    rw [h1] at hq
    have Hq := Lib.hid hq; clear hq hv h1
    go_enter Tryd.func41, Tryd.ntmps41
    go_wp2_with fail
    refine Hp.out.mono ?_; rintro e w2 ⟨rfl, hb2⟩
    go_wp2_with (go_at_call 55; refine (Hq.out _).mono ?_; rintro e w' ⟨rfl, rfl⟩)
    go_ret
    exact ⟨rfl, hb2⟩

/-! ### WHERE A PRINT IS DARKER -/
/-- The mask of the cells of which p holds. -/
def mkB (p : Nat → Bool) : BitVec 64 := BitVec.ofNat 64 (maskN p 64)
theorem mkB_bvI (p : Nat → Bool) : bvI (mkB p) = ((maskN p 64 : Nat) : Int) := by
  have := maskN_lt p 64 (Nat.le_refl _)
  unfold bvI mkB
  rw [BitVec.toNat_ofNat]; omega
theorem mkB_bit (p : Nat → Bool) {k : Nat} (hk : k < 64) : (mkB p).getLsbD k = p k := by
  unfold mkB
  rw [BitVec.getLsbD_ofNat, maskN_bit]
  simp [hk]
theorem mkB_ext {p : Nat → Bool} {m : BitVec 64} (h : ∀ k, k < 64 → m.getLsbD k = p k) : m = mkB p := BitVec.eq_of_getLsbD_eq fun i hi => by rw [h i hi, mkB_bit p hi]
def drkP (f g : Nat → Int) (x : Int) (k : Nat) : Bool := decide (x < f k - g k)

theorem bitOfC_any (k : Nat) (hk : k < 64) (w : World) : Calls Tryd.prog 60 #[.int .i64 (k : Int)] w fun e w' => e = .returned (.int .u64 ((2 ^ k : Nat) : Int)) ∧ w = w' := by
  go_enter Tryd.func60, Tryd.ntmps60
  go_wp2_with (refine wpList_shl1 (κ := .i64) (k := k) _ _ rfl rfl rfl rfl hk ?_)
  go_ret
  exact ⟨rfl, rfl⟩

end Go.Proofs.YtgnnngaihaefmaaDoor

/-
  A setting with some filters: what the program's and the reference's functions return, for every setting and every list of at most 1048576 factors. Condition of the program's: its table of times holds its three numbers, its variables their own errors.
-/
import Derived.Test.YtakmekidnfeciaaDoorTimesOf
import Derived.Test.YtakmekidnfeciaaDoorMore2
namespace Go.Proofs.YtakmekidnfeciaaDoor
open Go.RowKit

theorem moreV_set' (a b c t : Int) : ∃ x y z, moreV a b c t = setV x y z := by
  unfold moreV
  split
  · exact ⟨_, _, _, rfl⟩
  · exact ⟨_, _, _, rfl⟩
def sumF (xs : Nat → Int) : Nat → Int
  | 0 => 0
  | k + 1 => sumF xs k + fac (xs k)
theorem sumF_bd {xs : Nat → Int} : ∀ (k : Nat), allIn 1 1000 xs k = true → 0 ≤ sumF xs k ∧ sumF xs k ≤ 36 * k
  | 0, _ => ⟨by simp [sumF], by simp [sumF]⟩
  | k + 1, h => by
    simp only [allIn, Bool.and_eq_true] at h
    have h1 := sumF_bd k h.1
    have h2 := inB_true.1 h.2
    have h3 := fac_bd (xs k) h2.2
    simp only [sumF]
    constructor
    · omega
    · have : ((k + 1 : Nat) : Int) = k + 1 := by omega
      rw [this]; omega
def wfC (a b c : Int) (n : Nat) (xs : Nat → Int) : Int := if okS a b c = true then (if n ≤ 4 then (if allIn 1 1000 xs n = true then moreC a b c (sumF xs n) else 2) else 3) else 1
def wfV (a b c : Int) (n : Nat) (xs : Nat → Int) : Value := if okS a b c = true then (if n ≤ 4 then (if allIn 1 1000 xs n = true then moreV a b c (sumF xs n) else setV 0 0 0) else setV 0 0 0) else setV 0 0 0
theorem wf_bad {a b c : Int} {n : Nat} {xs : Nat → Int} (h : okS a b c = false) : wfC a b c n xs = 1 ∧ wfV a b c n xs = setV 0 0 0 := by simp [wfC, wfV, h]
theorem wf_many {a b c : Int} {n : Nat} {xs : Nat → Int} (h : okS a b c = true) (h2 : ¬ n ≤ 4) : wfC a b c n xs = 3 ∧ wfV a b c n xs = setV 0 0 0 := by simp [wfC, wfV, h, h2]
theorem wf_no {a b c : Int} {n : Nat} {xs : Nat → Int} (h : okS a b c = true) (h2 : n ≤ 4) (h3 : allIn 1 1000 xs n = false) : wfC a b c n xs = 2 ∧ wfV a b c n xs = setV 0 0 0 := by simp [wfC, wfV, h, h2, h3]
theorem wf_yes {a b c : Int} {n : Nat} {xs : Nat → Int} (h : okS a b c = true) (h2 : n ≤ 4) (h3 : allIn 1 1000 xs n = true) : wfC a b c n xs = moreC a b c (sumF xs n) ∧ wfV a b c n xs = moreV a b c (sumF xs n) := by simp [wfC, wfV, h, h2, h3]

set_option maxHeartbeats 2000000 in
theorem withFilters_any (s : Ers) (a b c : Int) (g n cap : Nat) (xs : Nat → Int) (ha : -128 ≤ a) (ha' : a ≤ 127) (hb : -128 ≤ b) (hb' : b ≤ 127) (hc : -128 ≤ c) (hc' : c ≤ 127) (w : World) (hr : w.rowIs g 2 n (fun j => .int .i64 (xs j))) (hT : TimEnv w) (hE : ErrEnv s w) :
    Calls Tryd.prog 93 #[setV a b c, .slice (some ⟨g, 0, none⟩) n cap] w (CodedV s (wfV a b c n xs) (wfC a b c n xs) w.heap.size w) := by
  have ci := hE.c_einvalid
  have lt_i := cell_lt ci
  have cl := hE.c_elimit
  have lt_l := cell_lt cl
  rcases h1 : okS a b c with _ | _
  · rw [(wf_bad h1).1, (wf_bad h1).2]
    go_enter Tryd.func93, Tryd.ntmps93
    go_wp2_with fail
    refine (implValid_any _ _ _ ha ha' hb hb' hc hc' _).mono ?_; rintro e w1 ⟨rfl, hb1⟩
    obtain ⟨hc1, hf1⟩ := bcell hb1
    have hz1 : w.heap.size + 1 < w1.heap.size := by have := hb1.size; simp at this; omega
    have k1 : Below w.heap.size w w1 := (((Below.refl _ _).alloc (Nat.le_refl _) _).alloc (by simp) _).trans (hb1.mono (by simp; omega))
    have ce1 := below_cellOf k1 ci (Nat.le_refl _)
    go_wp2_with fail
    go_region
    all_goals
      go_wp2
      refine bodyPost_ret (v := .tuple #[setV 0 0 0, errV s.einvalid]) (by simp [results, Tryd.results93, go_sem, hc1]) rfl ⟨_, .einvalid, rfl, ?_⟩
      repeat (first | exact Below.refl _ _ | assumption | apply Below.drew | apply below_drewN | (refine Below.alloc ?_ (by first | omega | (simp; done) | (simp; omega)) _) | (refine Below.setCell ?_ (by first | omega | (simp; done) | (simp; omega)) _))
  · by_cases h4 : n ≤ 4
    · have hmore := fun (W : World) (hW : ErrEnv s W) => moreLight_any s a b c (sumF xs n) ha ha' hb hb' hc hc' W hW
      obtain ⟨x, y, z, hv⟩ := moreV_set' a b c (sumF xs n)
      rw [hv] at hmore
      have hyes := fun h => wf_yes (a := a) (b := b) (c := c) (n := n) (xs := xs) h1 h4 h
      rw [hv] at hyes
      have hno := fun h => wf_no (a := a) (b := b) (c := c) (n := n) (xs := xs) h1 h4 h
      have Hm := Lib.hid hmore; clear hmore
      have Hyes := Lib.hid hyes; clear hyes
      have Hno := Lib.hid hno; clear hno hv
      have ne := errNe
      have nn := nilNe
      go_enter Tryd.func93, Tryd.ntmps93
      go_wp2_with fail
      refine (implValid_any _ _ _ ha ha' hb hb' hc hc' _).mono ?_; rintro e w1 ⟨rfl, hb1⟩
      obtain ⟨hc1, hf1⟩ := bcell hb1
      have hz1 : w.heap.size + 1 < w1.heap.size := by have := hb1.size; simp at this; omega
      have k1 : Below w.heap.size w w1 := (((Below.refl _ _).alloc (Nat.le_refl _) _).alloc (by simp) _).trans (hb1.mono (by simp; omega))
      have hr1 := rowIs_below hr k1 hr.lt
      go_wp2_with fail
      go_loopw [6, 23] (fun t i wr => ∃ k : Nat, k ≤ n ∧ i = .int .i64 k ∧ t = .int .i64 (sumF xs k) ∧ allIn 1 1000 xs k = true ∧ Below w1.heap.size w1 wr) (fun _ i _ => n - (intOf i).toNat)
      case atStart => exact ⟨0, Nat.zero_le _, rfl, rfl, rfl, Below.refl _ _⟩
      case round =>
        obtain ⟨k, hk, rfl, rfl, hall, hB⟩ := hrel
        have hbd := sumF_bd k hall
        obtain ⟨hcr, hfr⟩ := bcell hB
        have hz0 : w.heap.size < w1.heap.size := by omega
        have hzr0 : w.heap.size < wr.heap.size := by have := hB.size; omega
        have hzr : w.heap.size + 1 < wr.heap.size := by have := hB.size; omega
        have kr : Below w.heap.size w wr := k1.trans (hB.mono k1.size)
        by_cases hkn : k < n
        · have c1 : wr.cell? ⟨g, k, none⟩ = some (.int .i64 (xs k)) := (rowIs_below hr1 hB hr1.lt).cell hkn
          have hfac := factorThirds_any s (xs k)
          rcases hi : inB (xs k) 1 1000 with _ | _
          · have hal : allIn 1 1000 xs n = false := allIn_mono (k := k + 1) hkn (by simp [allIn, hi])
            have e3 : facR (xs k) = 0 := by simp [facR, hi]
            have e4 : facC (xs k) = 2 := by simp [facC, hi]
            rw [e3, e4] at hfac
            have Hf := Lib.hid hfac; clear hfac e3 e4
            have Hal := Lib.hid hal; clear hal
            have Ha := Lib.hid hall; clear hall
            go_wp2_with fail
            refine (Hf.out _ (hT.below kr (Nat.le_refl _)) (hE.below kr (Nat.le_refl _))).mono ?_; rintro e w2 ⟨v, hv, rfl, hb2⟩
            have hve := hv.two rfl
            subst hve
            obtain ⟨hc2, hf2⟩ := bcell hb2
            have hz2 : w.heap.size + 1 < w2.heap.size := by have := hb2.size; omega
            have k2 : Below w.heap.size w w2 := kr.trans (hb2.mono kr.size)
            go_wp2_with fail
            rw [(Hno.out Hal.out).1, (Hno.out Hal.out).2]
            refine bodyPost_ret (v := .tuple #[setV 0 0 0, errV s.erange]) (by simp [results, Tryd.results93, go_sem, hc2, hzr, hcr, hc1, hz1]) rfl ⟨_, .erange, rfl, ?_⟩
            repeat (first | exact Below.refl _ _ | assumption | apply Below.drew | apply below_drewN | (refine Below.alloc ?_ (by first | omega | (simp; done) | (simp; omega)) _) | (refine Below.setCell ?_ (by first | omega | (simp; done) | (simp; omega)) _))
          · have hi' := inB_true.1 hi
            have hall1 : allIn 1 1000 xs (k + 1) = true := by simp [allIn, hall, hi]
            have e3 : facR (xs k) = fac (xs k) := by simp [facR, hi]
            have e4 : facC (xs k) = 0 := by simp [facC, hi]
            rw [e3, e4] at hfac
            have Hf := Lib.hid hfac; clear hfac e3 e4
            have Ha := Lib.hid hall; clear hall
            have Ha1 := Lib.hid hall1; clear hall1
            have hb3 := fac_bd (xs k) hi'.2
            go_wp2_with fail
            refine (Hf.out _ (hT.below kr (Nat.le_refl _)) (hE.below kr (Nat.le_refl _))).mono ?_; rintro e w2 ⟨v, hv, rfl, hb2⟩
            have hve := hv.zero rfl
            subst hve
            go_wp2_with fail
            go_roundw
            case rel => exact ⟨k + 1, by omega, by go_num, rfl, Ha1.out, hB.trans (hb2.mono hB.size)⟩
            case measure => simp [intOf]; omega
        · have e : k = n := by omega
          subst e
          have Ha := Lib.hid hall; clear hall
          go_wp2_with fail
          refine (Hm.out _ (hE.below kr (Nat.le_refl _))).mono ?_; rintro e w3 ⟨v, hv, rfl, hb3⟩
          obtain ⟨hc3, hf3⟩ := bcell hb3
          have hz3 : w.heap.size + 1 < w3.heap.size := by have := hb3.size; omega
          have k3 : Below w.heap.size w w3 := kr.trans (hb3.mono kr.size)
          go_wp2_with fail
          rw [(Hyes.out Ha.out).1, (Hyes.out Ha.out).2]
          refine bodyPost_ret (v := .tuple #[setV x y z, v]) (by simp [results, Tryd.results93, go_sem, hc3, hzr, hcr, hc1, hz1]) rfl ⟨v, hv, rfl, ?_⟩
          repeat (first | exact Below.refl _ _ | assumption | apply Below.drew | apply below_drewN | (refine Below.alloc ?_ (by first | omega | (simp; done) | (simp; omega)) _) | (refine Below.setCell ?_ (by first | omega | (simp; done) | (simp; omega)) _))
    · rw [(wf_many h1 h4).1, (wf_many h1 h4).2]
      go_enter Tryd.func93, Tryd.ntmps93
      go_wp2_with fail
      refine (implValid_any _ _ _ ha ha' hb hb' hc hc' _).mono ?_; rintro e w1 ⟨rfl, hb1⟩
      obtain ⟨hc1, hf1⟩ := bcell hb1
      have hz1 : w.heap.size + 1 < w1.heap.size := by have := hb1.size; simp at this; omega
      have k1 : Below w.heap.size w w1 := (((Below.refl _ _).alloc (Nat.le_refl _) _).alloc (by simp) _).trans (hb1.mono (by simp; omega))
      have ce1 := below_cellOf k1 cl (Nat.le_refl _)
      go_wp2_with fail
      go_region
      all_goals
        go_wp2
        refine bodyPost_ret (v := .tuple #[setV 0 0 0, errV s.elimit]) (by simp [results, Tryd.results93, go_sem, hc1]) rfl ⟨_, .elimit, rfl, ?_⟩
        repeat (first | exact Below.refl _ _ | assumption | apply Below.drew | apply below_drewN | (refine Below.alloc ?_ (by first | omega | (simp; done) | (simp; omega)) _) | (refine Below.setCell ?_ (by first | omega | (simp; done) | (simp; omega)) _))

theorem wfV_set (a b c : Int) (n : Nat) (xs : Nat → Int) : ∃ x y z, wfV a b c n xs = setV x y z := by
  unfold wfV
  split
  · split
    · split
      · exact moreV_set' _ _ _ _
      · exact ⟨_, _, _, rfl⟩
    · exact ⟨_, _, _, rfl⟩
  · exact ⟨_, _, _, rfl⟩

set_option maxHeartbeats 1000000 in
theorem WithFilters_any (s : Ers) (a b c : Int) (g n cap : Nat) (xs : Nat → Int) (ha : -128 ≤ a) (ha' : a ≤ 127) (hb : -128 ≤ b) (hb' : b ≤ 127) (hc : -128 ≤ c) (hc' : c ≤ 127) (w : World) (hr : w.rowIs g 2 n (fun j => .int .i64 (xs j))) (hT : TimEnv w) (hE : ErrEnv s w) :
    Calls Tryd.prog 51 #[setV a b c, .slice (some ⟨g, 0, none⟩) n cap] w fun e w' => e = .returned (.tuple #[wfV a b c n xs, .int .i64 (wfC a b c n xs)]) ∧ Below w.heap.size w w' := by
  obtain ⟨x, y, z, hv⟩ := wfV_set a b c n xs
  have hm := fun (W : World) hrW hTW hEW => withFilters_any s a b c g n cap xs ha ha' hb hb' hc hc' W hrW hTW hEW
  rw [hv] at hm
  have Hm := Lib.hid hm; clear hm
  rw [hv]; clear hv
  have k0 : Below w.heap.size w ((w.alloc (.cells #[.int .i8 a, .int .i8 b, .int .i8 c] 46)).alloc (.cells #[.int .i8 0, .int .i8 0, .int .i8 0] 46)) := ((Below.refl _ _).alloc (Nat.le_refl _) _).alloc (by simp) _
  go_enter Tryd.func51, Tryd.ntmps51
  go_wp2_with fail
  refine (Hm.out _ (rowIs_below hr k0 hr.lt) (hT.below k0 (Nat.le_refl _)) (hE.below k0 (Nat.le_refl _))).mono ?_; rintro e w1 ⟨v, hv, rfl, hb1⟩
  obtain ⟨hc1, hf1⟩ := bcell hb1
  have hz1 : w.heap.size + 1 < w1.heap.size := by have := hb1.size; simp at this; omega
  have k1 : Below w.heap.size w w1 := k0.trans (hb1.mono k0.size)
  go_wp2_with fail
  refine (codedSet_any hv x y z _ (hE.below k1 (Nat.le_refl _))).mono ?_; rintro e w3 ⟨rfl, hb3⟩
  obtain ⟨hc3, hf3⟩ := bcell hb3
  have hz3 : w.heap.size + 1 < w3.heap.size := by have := hb3.size; omega
  have k3 : Below w.heap.size w w3 := k1.trans (hb3.mono k1.size)
  go_wp2_with fail
  refine bodyPost_ret (v := .tuple #[setV x y z, .int .i64 (wfC a b c n xs)]) (by simp [results, Tryd.results51, go_sem, hc3, hc1, hz1]) rfl ⟨rfl, ?_⟩
  repeat (first | exact Below.refl _ _ | assumption | apply Below.drew | apply below_drewN | (refine Below.alloc ?_ (by first | omega | (simp; done) | (simp; omega)) _) | (refine Below.setCell ?_ (by first | omega | (simp; done) | (simp; omega)) _))
end Go.Proofs.YtakmekidnfeciaaDoor

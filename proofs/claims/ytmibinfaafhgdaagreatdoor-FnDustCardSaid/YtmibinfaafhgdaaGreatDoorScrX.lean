/-
  Scratches: what both sides' functions return. Condition of the program's: its variables hold their own errors.
-/
import Derived.Test.YtmibinfaafhgdaaGreatDoorMedX
namespace Go.Proofs.YtmibinfaafhgdaaGreatDoor
open Go.RowKit

/-- Cells in which the first n copies are all darker, all lighter. -/
def drkN (f : Nat → Int) (g : Nat → Nat → Int) (x : Int) (n k : Nat) : Bool := (List.range n).all fun i => drkP (g i) f x k
def ligN (f : Nat → Int) (g : Nat → Nat → Int) (x : Int) (n k : Nat) : Bool := (List.range n).all fun i => drkP f (g i) x k
theorem drkN_zero (f : Nat → Int) (g : Nat → Nat → Int) (x : Int) (k : Nat) : drkN f g x 0 k = true := rfl
theorem ligN_zero (f : Nat → Int) (g : Nat → Nat → Int) (x : Int) (k : Nat) : ligN f g x 0 k = true := rfl
theorem drkN_succ (f : Nat → Int) (g : Nat → Nat → Int) (x : Int) (n k : Nat) : drkN f g x (n + 1) k = (drkN f g x n k && drkP (g n) f x k) := by simp [drkN, List.range_succ]
theorem ligN_succ (f : Nat → Int) (g : Nat → Nat → Int) (x : Int) (n k : Nat) : ligN f g x (n + 1) k = (ligN f g x n k && drkP f (g n) x k) := by simp [ligN, List.range_succ]
theorem mkB_and (p q : Nat → Bool) : mkB p &&& mkB q = mkB fun k => p k && q k := mkB_ext fun k hk => by rw [BitVec.getLsbD_and, mkB_bit p hk, mkB_bit q hk]
theorem mkB_or (p q : Nat → Bool) : mkB p ||| mkB q = mkB fun k => p k || q k := mkB_ext fun k hk => by rw [BitVec.getLsbD_or, mkB_bit p hk, mkB_bit q hk]
theorem mkB_all : (18446744073709551615 : Int) = bvI (mkB fun _ => true) := by
  rw [mkB_bvI]
  decide +kernel
/-- The code and the cells. -/
def scrC (f : Nat → Int) (n : Nat) (g : Nat → Nat → Int) (x : Int) : Int := if dnsB f = true then copC n g x else 1
def scrP (f : Nat → Int) (n : Nat) (g : Nat → Nat → Int) (x : Int) (k : Nat) : Bool := drkN f g x n k || ligN f g x n k
def scrT (f : Nat → Int) (n : Nat) (g : Nat → Nat → Int) (x : Int) : Array Value := if scrC f n g x = 0 then #[.int .u64 (bvI (mkB (scrP f n g x))), .int .i64 0] else #[.int .u64 0, .int .i64 (scrC f n g x)]
theorem codedMaskC_any {s : Ers} {v : Value} {c : Int} (h : IsCode s v c) (x : Int) (w : World) (hE : ErrEnv s w) :
    Calls Tryz.prog 38 #[.int .u64 x, v] w fun e w' => e = .returned (.tuple #[.int .u64 x, .int .i64 c]) ∧ w = w' := by
  go_enter Tryz.func38, Tryz.ntmps38
  go_wp2_with fail
  refine (codeOf_any h _ hE).mono ?_; rintro e w1 ⟨rfl, rfl⟩
  go_wp2_with fail
  go_ret2
  exact ⟨rfl, rfl⟩

/-- What the program's own function hands back. -/
def scrR (s : Ers) (f : Nat → Int) (n : Nat) (g : Nat → Nat → Int) (x : Int) : Array Value := if scrC f n g x = 0 then #[.int .u64 (bvI (mkB (scrP f n g x))), .nilIface] else #[.int .u64 0, copE s (scrC f n g x)]

set_option maxRecDepth 100000 in
set_option maxHeartbeats 4000000 in
theorem scratchIn_any (s : Ers) (f : Nat → Int) (A : Option Addr) (n cap : Nat) (g : Nat → Nat → Int) (x : Int) (hn : n ≤ 1048576) (hf : S16 f) (hs : ∀ i, i < n → S16 (g i)) (w : World) (hr : PrsIn w A n g) (hE : ErrEnv s w) :
    Calls Tryz.prog 42 #[.agg (arrV .i16 64 f), .slice A n cap, .int .i64 x] w fun e w' => e = .returned (.tuple (scrR s f n g x)) ∧ Below w.heap.size w w' := by
  have a1 := HasArr.new w 29 .i16 64 f
  have k0 := (Below.refl w.heap.size w).alloc (Nat.le_refl _) (.cells (arrV .i16 64 f) 29)
  have hv := fun W => ValidPrint_any f W
  have HE := Lib.hid hE; clear hE
  have HR := Lib.hid (hr.below k0 (Nat.le_refl _)); clear hr
  unfold scrR scrC
  rcases h0 : dnsB f with _ | _
  · rw [h0] at hv
    simp only [Bool.false_eq_true, if_false, show ¬ (1 : Int) = 0 by omega]
    show Calls _ _ _ _ fun e w' => e = .returned (.tuple #[.int .u64 0, errV s.einvalid]) ∧ _
    have Hv := Lib.hid hv; clear hv h0 hf hs
    go_enter Tryz.func42, Tryz.ntmps42
    go_wp2_with (refine wpList_load_arr a1 _ _ rfl rfl rfl Tryz.underlying29 sizePrint ?_)
    refine (Hv.out _).mono ?_; rintro e w2 ⟨rfl, hb2⟩
    have k2 := k0.trans (hb2.mono k0.size)
    have ce := (HE.out.below k2 (Nat.le_refl _)).c_einvalid
    clear a1 hb2
    go_wp2_with fail
    go_quiet (fail)
    go_wp2
    go_ret2
    exact ⟨rfl, below_drewA k2 nq⟩
  rw [h0] at hv
  simp only [if_true]
  have Hv := Lib.hid hv; clear hv h0
  have Hck := Lib.hid (fun W h1 h2 => checkCopiesWithin_any s A n cap g x hn W h1 h2)
  by_cases hc : copC n g x = 0
  rotate_left
  · rw [if_neg hc]
    obtain ⟨a, ha⟩ : ∃ a, copE s (copC n g x) = errV a := by
      rcases copC_cases n g x with h | h | h
      · exact absurd h.1 hc
      · exact ⟨s.einvalid, by rw [h]; rfl⟩
      · exact ⟨s.erange, by rw [h]; rfl⟩
    rw [ha] at Hck ⊢
    clear hc ha hf hs
    go_enter Tryz.func42, Tryz.ntmps42
    go_wp2_with (refine wpList_load_arr a1 _ _ rfl rfl rfl Tryz.underlying29 sizePrint ?_)
    refine (Hv.out _).mono ?_; rintro e w2 ⟨rfl, hb2⟩
    have k2 := k0.trans (hb2.mono k0.size)
    have HR2 := Lib.hid (HR.out.below hb2 (Nat.le_refl _))
    clear a1 hb2
    go_wp2_with fail
    refine (Hck.out _ HR2.out (HE.out.below k2 (Nat.le_refl _))).mono ?_; rintro e w3 ⟨rfl, hb3⟩
    have k3 := k2.trans (hb3.mono k2.size)
    go_wp2_with fail
    go_ret2
    exact ⟨rfl, k3⟩
  rw [if_pos hc]
  rw [hc] at Hck
  have hc3 : n ≤ 8 := by
    rcases copC_cases n g x with h | h | h
    · exact h.2.2.1.2
    · rw [h] at hc; cases hc
    · rw [h] at hc; cases hc
  have Hck' : Hid (∀ W, PrsIn W A n g → ErrEnv s W → Calls Tryz.prog 68 #[.slice A n cap, .int .i64 x] W fun e w' => e = .returned .nilIface ∧ Below W.heap.size W w') := Lib.hid (fun W h1 h2 => Hck.out W h1 h2)
  have Hf := Lib.hid hf
  have Hs := Lib.hid hs
  have Hd1 := Lib.hid (fun i hi W => darkerIn_any (g i) f (hs i hi) hf x W)
  have Hd2 := Lib.hid (fun i hi W => darkerIn_any f (g i) hf (hs i hi) x W)
  clear Hck hf hs hc
  go_enter Tryz.func42, Tryz.ntmps42
  go_wp2_with (refine wpList_load_arr a1 _ _ rfl rfl rfl Tryz.underlying29 sizePrint ?_)
  refine (Hv.out _).mono ?_; rintro e w2 ⟨rfl, hb2⟩
  have k2 := k0.trans (hb2.mono k0.size)
  have HR2 := Lib.hid (HR.out.below hb2 (Nat.le_refl _))
  have a2 := a1.below hb2 a1.lt
  clear a1 hb2
  go_wp2_with fail
  refine (Hck'.out _ HR2.out (HE.out.below k2 (Nat.le_refl _))).mono ?_; rintro e w3 ⟨rfl, hb3⟩
  have k3 := k2.trans (hb3.mono k2.size)
  have HR3 := Lib.hid (HR2.out.below hb3 (Nat.le_refl _))
  have a3 := Lib.hid (a2.below hb3 a2.lt)
  clear a2 hb3 HR2 HR
  go_wp2_with fail
  go_loopw [9, 10, 25] (fun dv lv iv wr => ∃ k : Nat, k ≤ n ∧ iv = .int .i64 (k : Int) ∧ dv = .int .u64 (bvI (mkB (drkN f g x k))) ∧ lv = .int .u64 (bvI (mkB (ligN f g x k))) ∧ Below w3.heap.size w3 wr) (fun _ _ iv _ => n - (intOf iv).toNat)
  case atStart =>
    refine ⟨0, Nat.zero_le _, rfl, congrArg (Value.int .u64) ?_, congrArg (Value.int .u64) ?_, Below.refl _ _⟩
    · exact mkB_all
    · exact mkB_all
  case round =>
    obtain ⟨k, hk, rfl, rfl, rfl, hB⟩ := hrel
    by_cases hkn : k < n
    · rcases HR3.out with h0 | ⟨b, o, rfl, hlt, hc⟩
      · exfalso; omega
      have p0 := (hc k hkn).below hB hlt
      clear hc
      have c3 := a3.out.below hB a3.out.lt
      have t1 := (Below.refl wr.heap.size wr).alloc (Nat.le_refl _) (.cells (arrV .i16 64 (g k)) 29)
      have z0 := HasArr.zero wr 29 (b := wr.heap.size) rfl
      have z1 := z0.setRow .i16 (g k)
      have kB := below_setRow ((Below.refl wr.heap.size wr).alloc (Nat.le_refl _) (.cells #[.int .i16 0, .int .i16 0, .int .i16 0, .int .i16 0, .int .i16 0, .int .i16 0, .int .i16 0, .int .i16 0, .int .i16 0, .int .i16 0, .int .i16 0, .int .i16 0, .int .i16 0, .int .i16 0, .int .i16 0, .int .i16 0, .int .i16 0, .int .i16 0, .int .i16 0, .int .i16 0, .int .i16 0, .int .i16 0, .int .i16 0, .int .i16 0, .int .i16 0, .int .i16 0, .int .i16 0, .int .i16 0, .int .i16 0, .int .i16 0, .int .i16 0, .int .i16 0, .int .i16 0, .int .i16 0, .int .i16 0, .int .i16 0, .int .i16 0, .int .i16 0, .int .i16 0, .int .i16 0, .int .i16 0, .int .i16 0, .int .i16 0, .int .i16 0, .int .i16 0, .int .i16 0, .int .i16 0, .int .i16 0, .int .i16 0, .int .i16 0, .int .i16 0, .int .i16 0, .int .i16 0, .int .i16 0, .int .i16 0, .int .i16 0, .int .i16 0, .int .i16 0, .int .i16 0, .int .i16 0, .int .i16 0, .int .i16 0, .int .i16 0, .int .i16 0] 29)) (b := wr.heap.size) (by omega) (arrV .i16 64 (g k))
      have c4 := c3.below kB c3.lt
      have hd1 := Lib.hid (fun W => Hd1.out k hkn W)
      have hd2 := Lib.hid (fun W => Hd2.out k hkn W)
      have HD := Lib.hid (And.intro (mkB_and (drkN f g x k) (drkP (g k) f x)) (mkB_and (ligN f g x k) (drkP f (g k) x)))
      have Hsu := Lib.hid (And.intro (funext fun j => drkN_succ f g x k j) (funext fun j => ligN_succ f g x k j))
      have KB := Lib.hid kB; clear kB c3 t1
      have HB := Lib.hid hB; clear hB
      generalize mkB (drkP (g k) f x) = D1 at *
      generalize mkB (drkP f (g k) x) = D2 at *
      generalize mkB (drkN f g x k) = M1 at *
      generalize mkB (ligN f g x k) = M2 at *
      go_wp2_with (first | (refine wpList_load_part p0 _ _ rfl rfl rfl Tryz.underlying29 sizePrint ?_) | (refine wpList_store_arr z0 _ _ _ rfl rfl rfl rfl sizePrint ?_) | (refine wpList_load_arr z1 _ _ rfl rfl rfl Tryz.underlying29 sizePrint ?_) | (refine wpList_load_arr c4 _ _ rfl rfl rfl Tryz.underlying29 sizePrint ?_))
      refine (hd1.out _).mono ?_; rintro e w5 ⟨rfl, hb5⟩
      have z5 := z1.below hb5 z1.lt
      have c5 := c4.below hb5 c4.lt
      have k5 := KB.out.trans (hb5.mono KB.out.size)
      clear z0 z1 c4 p0 hb5
      go_wp2_with (first | (refine wpList_load_arr z5 _ _ rfl rfl rfl Tryz.underlying29 sizePrint ?_) | (refine wpList_load_arr c5 _ _ rfl rfl rfl Tryz.underlying29 sizePrint ?_) | (refine wpList_yield rfl (run_and_bv (a := M1) (b := D1) rfl rfl rfl) ?_))
      refine (hd2.out _).mono ?_; rintro e w6 ⟨rfl, hb6⟩
      have k6 := k5.trans (hb6.mono k5.size)
      clear z5 c5 hb6 k5
      go_wp2_with (refine wpList_yield rfl (run_and_bv (a := M2) (b := D2) rfl rfl rfl) ?_)
      go_roundw
      case rel => exact ⟨k + 1, by omega, by go_num, by rw [HD.out.1, ← Hsu.out.1], by rw [HD.out.2, ← Hsu.out.2], HB.out.trans (k6.mono HB.out.size)⟩
      case measure => simp [intOf]; omega
    · obtain rfl : k = n := by omega
      have HO := Lib.hid (mkB_or (drkN f g x k) (ligN f g x k))
      have Hsp : Hid (scrP f k g x = fun j => drkN f g x k j || ligN f g x k j) := Lib.hid rfl
      generalize mkB (drkN f g x k) = M1 at *
      generalize mkB (ligN f g x k) = M2 at *
      go_wp2_with (refine wpList_yield rfl (run_or_bv (a := M1) (b := M2) rfl rfl rfl) ?_)
      go_ret2
      exact ⟨by rw [Hsp.out, ← HO.out]; rfl, k3.trans (hB.mono k3.size)⟩
end Go.Proofs.YtmibinfaafhgdaaGreatDoor

namespace Go.Proofs.YtmibinfaafhgdaaGreatDoor
open Go.RowKit

theorem bitC_of (k c : Nat) (hk : k < 64) : (1#64 <<< k).getLsbD c = decide (c = k) := by
  rw [BitVec.getLsbD_shiftLeft, BitVec.getLsbD_one]
  by_cases e : c = k
  · subst e; simp [hk]
  · by_cases h : c < k
    · simp [e, h]
    · have : ¬ c - k = 0 := by omega
      simp [e, this]
/-- A mask's first k cells. -/
def upP (P : Nat → Bool) (k c : Nat) : Bool := decide (c < k) && P c
theorem mkB_up0 (P : Nat → Bool) : mkB (upP P 0) = 0#64 := (mkB_ext (p := upP P 0) fun j _ => by simp [upP]).symm
theorem mkB_up_yes {P : Nat → Bool} {k : Nat} (hk : k < 64) (h : P k = true) : mkB (upP P k) ||| 1#64 <<< k = mkB (upP P (k + 1)) := mkB_ext fun j hj => by
  rw [BitVec.getLsbD_or, mkB_bit _ hj, bitC_of k j hk]
  unfold upP
  by_cases e : j = k
  · subst e; simp [h]
  · have : decide (j < k + 1) = decide (j < k) := decide_eq_decide.2 (by omega)
    rw [this]; simp [e]
theorem mkB_up_no {P : Nat → Bool} {k : Nat} (h : P k = false) : mkB (upP P k) = mkB (upP P (k + 1)) := mkB_ext fun j hj => by
  rw [mkB_bit _ hj]
  unfold upP
  by_cases e : j = k
  · subst e; simp [h]
  · have : decide (j < k + 1) = decide (j < k) := decide_eq_decide.2 (by omega)
    rw [this]
theorem mkB_up64 (P : Nat → Bool) : mkB (upP P 64) = mkB P := mkB_ext fun j hj => by
  rw [mkB_bit _ hj]; simp [upP, hj]

set_option maxRecDepth 100000 in
set_option maxHeartbeats 4000000 in
theorem specScratchIn_any (f : Nat → Int) (A : Option Addr) (n cap : Nat) (g : Nat → Nat → Int) (x : Int) (hn : n ≤ 1048576) (hf : S16 f) (hs : ∀ i, i < n → S16 (g i)) (w : World) (hr : PrsIn w A n g) :
    Calls Tryz.prog 21 #[.agg (arrV .i16 64 f), .slice A n cap, .int .i64 x] w fun e w' => e = .returned (.tuple (scrT f n g x)) ∧ Below w.heap.size w w' := by
  have a1 := HasArr.new w 29 .i16 64 f
  have k0 := (Below.refl w.heap.size w).alloc (Nat.le_refl _) (.cells (arrV .i16 64 f) 29)
  have HR := Lib.hid (hr.below k0 (Nat.le_refl _)); clear hr
  have hd := l03PrintAt_any w.heap.size 0 f hf _ (PartA.of_arr a1)
  rcases h0 : dnsB f with _ | _
  · have hz : scrT f n g x = #[.int .u64 0, .int .i64 1] := by simp [scrT, scrC, h0]
    rw [hz]
    rw [h0] at hd
    have Hd := Lib.hid hd; clear hd h0 hf hs hz a1 HR
    go_enter Tryz.func21, Tryz.ntmps21
    go_wp2_with fail
    refine Hd.out.mono ?_; rintro e w2 ⟨rfl, hb2⟩
    have k2 := k0.trans (hb2.mono k0.size)
    go_wp2_with fail
    go_ret2
    exact ⟨rfl, k2⟩
  rw [h0] at hd
  have Hd := Lib.hid hd; clear hd
  have Hc := Lib.hid (fun W h => l07Copies_any A n cap g x hn hs W h)
  by_cases hc : copC n g x = 0
  rotate_left
  · have hz : scrT f n g x = #[.int .u64 0, .int .i64 (copC n g x)] := by simp [scrT, scrC, h0, hc]
    rw [hz]
    generalize copC n g x = C at *
    clear h0 hf hs hz a1
    go_enter Tryz.func21, Tryz.ntmps21
    go_wp2_with fail
    refine Hd.out.mono ?_; rintro e w2 ⟨rfl, hb2⟩
    have k2 := k0.trans (hb2.mono k0.size)
    have HR2 := Lib.hid (HR.out.below hb2 (Nat.le_refl _))
    clear hb2
    go_wp2_with fail
    refine (Hc.out _ HR2.out).mono ?_; rintro e w3 ⟨rfl, hb3⟩
    have k3 := k2.trans (hb3.mono k2.size)
    clear hb3
    go_wp2_with fail
    go_ret2
    exact ⟨rfl, k3⟩
  have hz : scrT f n g x = #[.int .u64 (bvI (mkB (upP (scrP f n g x) 64))), .int .i64 0] := by rw [mkB_up64]; simp [scrT, scrC, h0, hc]
  rw [hz]
  have hcc : (1 ≤ n ∧ n ≤ 8) ∧ 0 ≤ x ∧ x ≤ 400 := by
    rcases copC_cases n g x with h | h | h
    · exact h.2.2
    · rw [h] at hc; cases hc
    · rw [h] at hc; cases hc
  rw [hc] at Hc
  obtain ⟨⟨hn1, hn8⟩, hx0, hx4⟩ := hcc
  have Hf := Lib.hid hf
  have Hs := Lib.hid hs
  clear h0 hc hz hf hs
  go_enter Tryz.func21, Tryz.ntmps21
  go_wp2_with fail
  refine Hd.out.mono ?_; rintro e w2 ⟨rfl, hb2⟩
  have k2 := k0.trans (hb2.mono k0.size)
  have HR2 := Lib.hid (HR.out.below hb2 (Nat.le_refl _))
  have a2 := a1.below hb2 a1.lt
  clear hb2 a1 HR Hd
  go_wp2_with fail
  refine (Hc.out _ HR2.out).mono ?_; rintro e w3 ⟨rfl, hb3⟩
  have k3 := k2.trans (hb3.mono k2.size)
  have HR3 := Lib.hid (HR2.out.below hb3 (Nat.le_refl _))
  have a3 := Lib.hid (a2.below hb3 a2.lt)
  clear hb3 a2 HR2 Hc
  have K3 := Lib.hid k3; clear k3 k2 k0
  go_wp2_with fail
  go_loopw [9, 10] (fun ov kv wr => ∃ k : Nat, k ≤ 64 ∧ kv = .int .i64 (k : Int) ∧ ov = .int .u64 (bvI (mkB (upP (scrP f n g x) k))) ∧ Below w3.heap.size w3 wr) (fun _ kv _ => 64 - (intOf kv).toNat)
  case atStart => exact ⟨0, by omega, rfl, congrArg (Value.int .u64) (by rw [mkB_up0]; rfl), Below.refl _ _⟩
  case round =>
    obtain ⟨k, hk, rfl, rfl, hB⟩ := hrel
    by_cases hkn : k < 64
    rotate_left
    · obtain rfl : k = 64 := by omega
      go_wp2_with fail
      go_ret2
      exact ⟨rfl, K3.out.trans (hB.mono K3.out.size)⟩
    have hw : IntKind.u64.wrap (k : Int) = (k : Int) := by rw [IntKind.wrap_u64]; omega
    have HB0 := Lib.hid hB; clear hB
    go_wp2_with fail
    go_loopw [11, 12, 13] (fun dv lv iv wr => ∃ (i : Nat) (D L : Bool), i ≤ n ∧ dv = .bool D ∧ lv = .bool L ∧ iv = .int .i64 (i : Int) ∧ D = drkN f g x i k ∧ L = ligN f g x i k ∧ Below w3.heap.size w3 wr) (fun _ _ iv _ => n - (intOf iv).toNat)
    case atStart => exact ⟨0, true, true, by omega, rfl, rfl, rfl, rfl, rfl, HB0.out⟩
    case round =>
      obtain ⟨i, D, L, hi, rfl, rfl, rfl, hD, hL, hB⟩ := hrel
      have HD := Lib.hid hD; clear hD
      have HL := Lib.hid hL; clear hL
      by_cases hin : i < n
      · rcases HR3.out with h0 | ⟨b, o, rfl, hlt, hc⟩
        · exfalso; omega
        have p0 := (hc i hin).below hB hlt
        have c1 := p0 k hkn
        have c2 := (a3.out.below hB a3.out.lt).cell hkn
        have b1 := Hs.out i hin k hkn
        have b2 := Hf.out k hkn
        have hk' : (k : Int) < 64 := by omega
        have HB := Lib.hid hB
        clear hc p0 hB
        have hN : Hid ((D && decide (x < g i k - f k)) = drkN f g x (i + 1) k ∧ (L && decide (g i k - f k < -x)) = ligN f g x (i + 1) k) := by
          refine Lib.hid ⟨?_, ?_⟩
          · rw [drkN_succ, ← HD.out]; rfl
          · rw [ligN_succ, ← HL.out]
            congr 1
            exact decide_eq_decide.2 (by omega)
        clear HD HL
        generalize g i k = G at *
        generalize f k = F at *
        have e1 : IntKind.i64.wrap (G - F) = G - F := IntWalk.i64_in _ (by omega)
        have e2 : IntKind.i64.wrap (-x) = -x := IntWalk.i64_in _ (by omega)
        rcases D with _ | _ <;> rcases L with _ | _
        all_goals
          go_wp2_with fail
          go_quiet (fail)
          go_wp2
          go_roundw
          case rel => exact ⟨i + 1, _, _, by omega, rfl, rfl, by go_num, hN.out.1, hN.out.2, below_drewA HB.out nq⟩
          case measure => simp [intOf]; omega
      · obtain rfl : i = n := by omega
        have HB := Lib.hid hB; clear hB
        have hP : scrP f i g x k = (D || L) := by unfold scrP; rw [HD.out, HL.out]
        have h1b : ((1 : Int) : Int) = bvI 1#64 := rfl
        rcases D with _ | _ <;> rcases L with _ | _
        · have HN := Lib.hid (mkB_up_no hP); clear hP HD HL
          generalize mkB (upP (scrP f i g x) k) = M at *
          go_wp2_with fail
          go_roundw
          case rel => exact ⟨k + 1, by omega, by go_num, by rw [HN.out], HB.out⟩
          case measure => simp [intOf]; omega
        all_goals
          have HN := Lib.hid (mkB_up_yes hkn hP); clear hP HD HL
          generalize mkB (upP (scrP f i g x) k) = M at *
          go_wp2_with (first | (refine wpList_yield rfl (run_shl_bv (κ := .u64) (a := 1#64) (k := k) rfl rfl rfl hkn) ?_) | (refine wpList_yield rfl (run_or_bv (a := M) (b := 1#64 <<< k) rfl rfl rfl) ?_))
          go_roundw
          case rel => exact ⟨k + 1, by omega, by go_num, by rw [HN.out], HB.out⟩
          case measure => simp [intOf]; omega

theorem scr_code (s : Ers) (f : Nat → Int) (n : Nat) (g : Nat → Nat → Int) (x : Int) : ∃ (m : Int) (v : Value) (c : Int), scrR s f n g x = #[.int .u64 m, v] ∧ IsCode s v c ∧ scrT f n g x = #[.int .u64 m, .int .i64 c] := by
  unfold scrR scrT
  by_cases h : scrC f n g x = 0
  · rw [if_pos h, if_pos h]; exact ⟨_, _, _, rfl, .ok, rfl⟩
  · rw [if_neg h, if_neg h]
    refine ⟨_, _, _, rfl, ?_, rfl⟩
    unfold scrC
    split
    · exact copE_code s n g x
    · exact .einvalid

set_option maxRecDepth 100000 in
set_option maxHeartbeats 2000000 in
theorem ScratchIn_any (s : Ers) (f : Nat → Int) (A : Option Addr) (n cap : Nat) (g : Nat → Nat → Int) (x : Int) (hn : n ≤ 1048576) (hf : S16 f) (hs : ∀ i, i < n → S16 (g i)) (w : World) (hr : PrsIn w A n g) (hE : ErrEnv s w) :
    Calls Tryz.prog 20 #[.agg (arrV .i16 64 f), .slice A n cap, .int .i64 x] w fun e w' => e = .returned (.tuple (scrT f n g x)) ∧ Below w.heap.size w w' := by
  have a1 := HasArr.new w 29 .i16 64 f
  have k0 := (Below.refl w.heap.size w).alloc (Nat.le_refl _) (.cells (arrV .i16 64 f) 29)
  have HS := Lib.hid (scratchIn_any s f A n cap g x hn hf hs _ (hr.below k0 (Nat.le_refl _)) (hE.below k0 (Nat.le_refl _)))
  have HE := Lib.hid hE
  obtain ⟨m, v, c, h1, h2, h3⟩ := scr_code s f n g x
  rw [h1] at HS
  rw [h3]
  clear hf hs hr hE h1 h3
  go_enter Tryz.func20, Tryz.ntmps20
  go_wp2_with (refine wpList_load_arr a1 _ _ rfl rfl rfl Tryz.underlying29 sizePrint ?_)
  refine HS.out.mono ?_; rintro e w2 ⟨rfl, hb2⟩
  have k2 := k0.trans (hb2.mono k0.size)
  have HE2 := Lib.hid (HE.out.below k2 (Nat.le_refl _))
  clear hb2 a1 k0 HE
  go_wp2_with (go_at_call 38; refine (codedMaskC_any h2 m _ HE2.out).mono ?_; rintro e w3 ⟨rfl, rfl⟩)
  go_ret2
  exact ⟨rfl, k2⟩
end Go.Proofs.YtmibinfaafhgdaaGreatDoor

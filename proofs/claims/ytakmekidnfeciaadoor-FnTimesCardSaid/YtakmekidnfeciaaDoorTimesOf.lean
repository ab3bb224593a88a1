/-
  The sum of several times: what the program's and the reference's functions return, for every list of at most 1048576 numbers. Condition of the program's: its table of times holds its three numbers, its variables their own errors.
-/
import Derived.Test.YtakmekidnfeciaaDoorTimes2
import Derived.Test.YtakmekidnfeciaaDoorInts
namespace Go.Proofs.YtakmekidnfeciaaDoor
open Go.RowKit

theorem IsCode.zero {s : Ers} {v : Value} {c : Int} (h : IsCode s v c) (hc : c = 0) : v = .nilIface := by
  cases h <;> simp at hc ⊢
theorem IsCode.two {s : Ers} {v : Value} {c : Int} (h : IsCode s v c) (hc : c = 2) : v = errV s.erange := by
  cases h <;> simp at hc ⊢

def allIn (lo hi : Int) (xs : Nat → Int) : Nat → Bool
  | 0 => true
  | k + 1 => allIn lo hi xs k && inB (xs k) lo hi
def sumT (xs : Nat → Int) : Nat → Int
  | 0 => 0
  | k + 1 => sumT xs k + tm (xs k)
theorem allIn_mono {lo hi : Int} {xs : Nat → Int} {k n : Nat} (h : k ≤ n) (hf : allIn lo hi xs k = false) : allIn lo hi xs n = false := by
  induction n with
  | zero => obtain rfl : k = 0 := by omega
            exact hf
  | succ n ih =>
    rcases Nat.lt_or_ge n k with h1 | h1
    · obtain rfl : k = n + 1 := by omega
      exact hf
    · simp [allIn, ih h1]
theorem sumT_bd {xs : Nat → Int} : ∀ (k : Nat), allIn 0 36 xs k = true → 0 ≤ sumT xs k ∧ sumT xs k ≤ 5160960 * k
  | 0, _ => ⟨by simp [sumT], by simp [sumT]⟩
  | k + 1, h => by
    simp only [allIn, Bool.and_eq_true] at h
    have h1 := sumT_bd k h.1
    have h2 := inB_true.1 h.2
    have h3 := tm_bd (xs k) h2.1 (by omega)
    simp only [sumT]
    constructor
    · omega
    · have : ((k + 1 : Nat) : Int) = k + 1 := by omega
      rw [this]; omega
def tsOk (n : Nat) (xs : Nat → Int) : Bool := decide (n ≤ 100) && allIn 0 36 xs n
def tsR (n : Nat) (xs : Nat → Int) : Int := if tsOk n xs = true then sumT xs n else 0
def tsC (n : Nat) (xs : Nat → Int) : Int := if tsOk n xs = true then 0 else 2
theorem ts_no {n : Nat} {xs : Nat → Int} (h : tsOk n xs = false) : tsR n xs = 0 ∧ tsC n xs = 2 := by simp [tsR, tsC, h]
theorem ts_yes {n : Nat} {xs : Nat → Int} (h : tsOk n xs = true) : tsR n xs = sumT xs n ∧ tsC n xs = 0 := by simp [tsR, tsC, h]

set_option maxHeartbeats 1000000 in
theorem specTimesOf_any (b n cap : Nat) (xs : Nat → Int) (hn : n ≤ 1048576) (w : World) (hr : w.rowIs b 2 n (fun j => .int .i64 (xs j))) :
    Calls Tryd.prog 28 #[.slice (some ⟨b, 0, none⟩) n cap] w fun e w' => e = .returned (.tuple #[.int .i64 (tsR n xs), .int .i64 (tsC n xs)]) ∧ Below w.heap.size w w' := by
  by_cases h100 : n ≤ 100
  · go_enter Tryd.func28, Tryd.ntmps28
    go_wp2
    go_loopw [4, 5] (fun t i wr => ∃ k : Nat, k ≤ n ∧ i = .int .i64 k ∧ t = .int .i64 (sumT xs k) ∧ allIn 0 36 xs k = true ∧ Below w.heap.size w wr) (fun _ i _ => n - (intOf i).toNat)
    case atStart => exact ⟨0, Nat.zero_le _, rfl, rfl, rfl, Below.refl _ _⟩
    case round =>
      obtain ⟨k, hk, rfl, rfl, hall, hB⟩ := hrel
      have hbd := sumT_bd k hall
      by_cases hkn : k < n
      · have c1 : wr.cell? ⟨b, k, none⟩ = some (.int .i64 (xs k)) := by rw [hB.cell (p := ⟨b, k, none⟩) hr.lt]; exact hr.cell hkn
        rcases hi : inB (xs k) 0 36 with _ | _
        · have hno : tsOk n xs = false := by
            have : allIn 0 36 xs n = false := allIn_mono (k := k + 1) hkn (by simp [allIn, hi])
            simp [tsOk, this]
          obtain ⟨e1, e2⟩ := ts_no hno
          have E1 := Lib.hid e1; clear e1
          have E2 := Lib.hid e2; clear e2 hno
          have Ha := Lib.hid hall; clear hall
          go_wp2_with fail
          refine (l00In_any _ _ _ _).mono ?_; rintro e w2 ⟨rfl, rfl⟩
          go_wp2_with fail
          go_ret2
          exact ⟨by rw [E1.out, E2.out]; rfl, hB⟩
        · have hi' := inB_true.1 hi
          have hall1 : allIn 0 36 xs (k + 1) = true := by simp [allIn, hall, hi]
          have Ha := Lib.hid hall; clear hall
          have Ha1 := Lib.hid hall1; clear hall1
          have hb3 := tm_bd (xs k) hi'.1 (by omega)
          go_wp2_with fail
          refine (l00In_any _ _ _ _).mono ?_; rintro e w2 ⟨rfl, rfl⟩
          go_wp2_with fail
          refine (l01Time_any _ (by omega) (by omega) _).mono ?_; rintro e w2 ⟨rfl, hb2⟩
          go_wp2_with fail
          go_roundw
          case rel => exact ⟨k + 1, by omega, by go_num, rfl, Ha1.out, hB.trans (hb2.mono hB.size)⟩
          case measure => simp [intOf]; omega
      · have e : k = n := by omega
        have hyes : tsOk n xs = true := by rw [← e]; simp [tsOk, hall]; omega
        obtain ⟨e1, e2⟩ := ts_yes hyes
        have E1 := Lib.hid e1; clear e1
        have E2 := Lib.hid e2; clear e2 hyes
        have Ha := Lib.hid hall; clear hall
        have He := Lib.hid e; clear e
        go_wp2
        go_ret2
        exact ⟨by rw [E1.out, E2.out, ← He.out]; rfl, hB⟩
  · obtain ⟨e1, e2⟩ := ts_no (n := n) (xs := xs) (by simp [tsOk, h100])
    rw [e1, e2]; clear e1 e2
    go_enter Tryd.func28, Tryd.ntmps28
    go_wp2
    go_ret2
    exact ⟨rfl, Below.refl _ _⟩

theorem errNe (a : Addr) (w : World) : (binOp .neq 73 (errV a) .nilIface).run Tryd.prog w = .ok (.bool true) w := by kernel_rfl
theorem nilNe (w : World) : (binOp .neq 73 .nilIface .nilIface).run Tryd.prog w = .ok (.bool false) w := by kernel_rfl

set_option maxHeartbeats 1000000 in
theorem timesOf_any (s : Ers) (b n cap : Nat) (xs : Nat → Int) (w : World) (hr : w.rowIs b 2 n (fun j => .int .i64 (xs j))) (hT : TimEnv w) (hE : ErrEnv s w) :
    Calls Tryd.prog 68 #[.slice (some ⟨b, 0, none⟩) n cap] w (Coded s (.int .i64 (tsR n xs)) (tsC n xs) w.heap.size w) := by
  have ce := hE.c_erange
  by_cases h100 : n ≤ 100
  · have ne := errNe
    have nn := nilNe
    go_enter Tryd.func68, Tryd.ntmps68
    go_wp2
    go_loopw [4, 15] (fun t i wr => ∃ k : Nat, k ≤ n ∧ i = .int .i64 k ∧ t = .int .i64 (sumT xs k) ∧ allIn 0 36 xs k = true ∧ Below w.heap.size w wr) (fun _ i _ => n - (intOf i).toNat)
    case atStart => exact ⟨0, Nat.zero_le _, rfl, rfl, rfl, Below.refl _ _⟩
    case round =>
      obtain ⟨k, hk, rfl, rfl, hall, hB⟩ := hrel
      have hbd := sumT_bd k hall
      by_cases hkn : k < n
      · have c1 : wr.cell? ⟨b, k, none⟩ = some (.int .i64 (xs k)) := by rw [hB.cell (p := ⟨b, k, none⟩) hr.lt]; exact hr.cell hkn
        have htime := timeOf_any s (xs k)
        rcases hi : inB (xs k) 0 36 with _ | _
        · have hno : tsOk n xs = false := by
            have : allIn 0 36 xs n = false := allIn_mono (k := k + 1) hkn (by simp [allIn, hi])
            simp [tsOk, this]
          obtain ⟨e1, e2⟩ := ts_no hno
          have e3 : timeR (xs k) = 0 := by simp [timeR, hi]
          have e4 : timeC (xs k) = 2 := by simp [timeC, hi]
          rw [e3, e4] at htime
          have Ht := Lib.hid htime; clear htime e3 e4
          have E1 := Lib.hid e1; clear e1
          have E2 := Lib.hid e2; clear e2 hno
          have Ha := Lib.hid hall; clear hall
          go_wp2_with fail
          refine (Ht.out _ (hT.below hB (Nat.le_refl _)) (hE.below hB (Nat.le_refl _))).mono ?_; rintro e w2 ⟨v, hv, rfl, hb2⟩
          have hve := hv.two rfl
          subst hve
          go_wp2_with fail
          go_ret2
          rw [E1.out, E2.out]
          exact ⟨_, .erange, rfl, hB.trans (hb2.mono hB.size)⟩
        · have hi' := inB_true.1 hi
          have hall1 : allIn 0 36 xs (k + 1) = true := by simp [allIn, hall, hi]
          have e3 : timeR (xs k) = tm (xs k) := by simp [timeR, hi]
          have e4 : timeC (xs k) = 0 := by simp [timeC, hi]
          rw [e3, e4] at htime
          have Ht := Lib.hid htime; clear htime e3 e4
          have Ha := Lib.hid hall; clear hall
          have Ha1 := Lib.hid hall1; clear hall1
          have hb3 := tm_bd (xs k) hi'.1 (by omega)
          go_wp2_with fail
          refine (Ht.out _ (hT.below hB (Nat.le_refl _)) (hE.below hB (Nat.le_refl _))).mono ?_; rintro e w2 ⟨v, hv, rfl, hb2⟩
          have hve := hv.zero rfl
          subst hve
          go_wp2_with fail
          go_roundw
          case rel => exact ⟨k + 1, by omega, by go_num, rfl, Ha1.out, hB.trans (hb2.mono hB.size)⟩
          case measure => simp [intOf]; omega
      · have e : k = n := by omega
        have hyes : tsOk n xs = true := by rw [← e]; simp [tsOk, hall]; omega
        obtain ⟨e1, e2⟩ := ts_yes hyes
        have E1 := Lib.hid e1; clear e1
        have E2 := Lib.hid e2; clear e2 hyes
        have Ha := Lib.hid hall; clear hall
        have He := Lib.hid e; clear e
        go_wp2
        go_ret2
        rw [E1.out, E2.out, ← He.out]
        exact ⟨_, .ok, rfl, hB⟩
  · obtain ⟨e1, e2⟩ := ts_no (n := n) (xs := xs) (by simp [tsOk, h100])
    rw [e1, e2]; clear e1 e2
    go_enter Tryd.func68, Tryd.ntmps68
    go_wp2_with fail
    go_quiet (fail)
    go_wp2
    go_ret2
    exact ⟨_, .erange, rfl, below_drewN (Below.refl _ _) _⟩

set_option maxHeartbeats 400000 in
theorem TimesOf_any (s : Ers) (b n cap : Nat) (xs : Nat → Int) (w : World) (hr : w.rowIs b 2 n (fun j => .int .i64 (xs j))) (hT : TimEnv w) (hE : ErrEnv s w) :
    Calls Tryd.prog 30 #[.slice (some ⟨b, 0, none⟩) n cap] w fun e w' => e = .returned (.tuple #[.int .i64 (tsR n xs), .int .i64 (tsC n xs)]) ∧ Below w.heap.size w w' := by
  go_enter Tryd.func30, Tryd.ntmps30
  go_wp2_with fail
  refine (timesOf_any s b n cap xs _ hr hT hE).mono ?_; rintro e w1 ⟨v, hv, rfl, hb1⟩
  go_wp2_with fail
  refine (codedInt_any hv _ _ (hE.below hb1 (Nat.le_refl _))).mono ?_; rintro e w2 ⟨rfl, rfl⟩
  go_wp2_with fail
  go_ret2
  exact ⟨rfl, hb1⟩
end Go.Proofs.YtakmekidnfeciaaDoor

/-
  The darkest frame: what both sides' functions return. Condition of the program's: its variables hold their own errors, the library's table of de Bruijn what its text lays.
-/
import Derived.Test.YtkmpfbjenddhjaaDoorSumE
import Derived.Test.YtkmpfbjenddhjaaDoorFrs
namespace Go.Proofs.YtkmpfbjenddhjaaDoor
open Go.RowKit

/-! ### PLAIN -/
/-- The sum of a frame's densities. -/
def totB (f : Nat → Int) : Int := sumB f 18446744073709551615#64 64
theorem ones_bit {j : Nat} (h : j < 64) : (18446744073709551615#64 : BitVec 64).getLsbD j = true := by
  have : ∀ k : Fin 64, (18446744073709551615#64 : BitVec 64).getLsbD k.val = true := by decide
  exact this ⟨j, h⟩
theorem tot_succ (f : Nat → Int) {j : Nat} (h : j < 64) : sumB f 18446744073709551615#64 (j + 1) = sumB f 18446744073709551615#64 j + f j := by
  show sumB f 18446744073709551615#64 j + (if (18446744073709551615#64 : BitVec 64).getLsbD j = true then f j else 0) = _
  rw [ones_bit h]; simp
theorem totB_bd {f : Nat → Int} (h : dnsB f = true) : ∀ j, j ≤ 64 → 0 ≤ sumB f 18446744073709551615#64 j ∧ sumB f 18446744073709551615#64 j ≤ 400 * (j : Int)
  | 0, _ => by simp [sumB]
  | j + 1, hj => by
    have h1 := totB_bd h j (by omega)
    have h2 := dnsB_bd h (k := j) (by omega)
    rw [tot_succ f (by omega)]
    omega
/-- The first frame of those that are darkest, and its sum. -/
def dk (t : Nat → Int) : Nat → Nat × Int
  | 0 => (0, -1)
  | k + 1 => if (dk t k).2 < t k then (k, t k) else dk t k
theorem dk_yes {t : Nat → Int} {k : Nat} (h : (dk t k).2 < t k) : dk t (k + 1) = (k, t k) := if_pos h
theorem dk_no {t : Nat → Int} {k : Nat} (h : ¬ (dk t k).2 < t k) : dk t (k + 1) = dk t k := if_neg h
theorem dk_bd {t : Nat → Int} {n : Nat} (ht : ∀ k, k < n → 0 ≤ t k ∧ t k ≤ 25600) : ∀ k, k ≤ n → (dk t k).1 ≤ k ∧ -1 ≤ (dk t k).2 ∧ (dk t k).2 ≤ 25600 ∧ (1 ≤ k → 0 ≤ (dk t k).2)
  | 0, _ => by simp [dk]
  | k + 1, hk => by
    have h1 := dk_bd ht k (by omega)
    have h2 := ht k (by omega)
    by_cases h : (dk t k).2 < t k
    · rw [dk_yes h]
      refine ⟨by show k ≤ k + 1; omega, by show -1 ≤ t k; omega, h2.2, fun _ => h2.1⟩
    · rw [dk_no h]
      exact ⟨by omega, h1.2.1, h1.2.2.1, fun _ => by omega⟩
theorem dk_one {t : Nat → Int} (h : 0 ≤ t 0) : dk t 1 = (0, t 0) := by
  have : (dk t 0).2 < t 0 := by show (-1 : Int) < t 0; omega
  rw [dk_yes this]
/-- What the program has behind k frames. -/
def dkP (t : Nat → Int) (k : Nat) : Nat × Int := dk t (if k = 0 then 1 else k)
theorem dkP_0 {t : Nat → Int} (h : 0 ≤ t 0) : dkP t 0 = (0, t 0) := dk_one h
theorem dkP_yes {t : Nat → Int} {k : Nat} (h : (dkP t k).2 < t k) (h0 : 0 ≤ t 0) : dkP t (k + 1) = (k, t k) := by
  cases k with
  | zero => rw [dkP_0 h0] at h; exact absurd h (by show ¬ t 0 < t 0; omega)
  | succ k => exact dk_yes h
theorem dkP_no {t : Nat → Int} {k : Nat} (h : ¬ (dkP t k).2 < t k) (h0 : 0 ≤ t 0) : dkP t (k + 1) = dkP t k := by
  cases k with
  | zero => rfl
  | succ k => exact dk_no h
theorem dkP_n {t : Nat → Int} {n : Nat} (h : n ≠ 0) : dkP t n = dk t n := by unfold dkP; rw [if_neg h]
/-- What DarkestFrame returns. -/
def darT (X : Int) (n : Nat) (g : Nat → Nat → Int) : Array Value :=
  if shtB X n g = true then (if n = 0 then #[.int .i64 0, .int .i64 0, .int .i64 6] else #[.int .i64 ((dk (fun i => totB (g i)) n).1 : Nat), .int .i64 (dk (fun i => totB (g i)) n).2, .int .i64 0]) else #[.int .i64 0, .int .i64 0, .int .i64 1]
theorem darT_bad {X : Int} {n : Nat} {g : Nat → Nat → Int} (h : shtB X n g = false) : darT X n g = #[.int .i64 0, .int .i64 0, .int .i64 1] := by simp [darT, h]
theorem darT_none {X : Int} {g : Nat → Nat → Int} (h : shtB X 0 g = true) : darT X 0 g = #[.int .i64 0, .int .i64 0, .int .i64 6] := by simp [darT, h]
theorem darT_ok {X : Int} {n : Nat} {g : Nat → Nat → Int} (h : shtB X n g = true) (hn : n ≠ 0) : darT X n g = #[.int .i64 ((dk (fun i => totB (g i)) n).1 : Nat), .int .i64 (dk (fun i => totB (g i)) n).2, .int .i64 0] := by simp [darT, h, hn]

/-! ### THE REFERENCE -/
set_option maxRecDepth 100000 in
set_option maxHeartbeats 4000000 in
theorem specDarkestFrame_any (X : Int) (A : Option Addr) (n cap : Nat) (g : Nat → Nat → Int) (hn : n ≤ 1048576) (hX : -128 ≤ X ∧ X ≤ 127) (hs : ∀ i, i < n → S16 (g i)) (w : World) (hr : PrsIn w A n g) :
    Calls Tryd.prog 19 #[.agg #[.int .i8 X, .slice A n cap]] w fun e w' => e = .returned (.tuple (darT X n g)) ∧ Below w.heap.size w w' := by
  have k0 := (Below.refl w.heap.size w).alloc (Nat.le_refl _) (.cells #[.int .i8 X, .slice A n cap] 29)
  have hq := l07Ok_any w.heap.size X A n cap g hn hX hs _ (by simp) (by simp) (hr.below k0 (Nat.le_refl _))
  have d1 : (w.alloc (.cells #[.int .i8 X, .slice A n cap] 29)).cell? ⟨w.heap.size, 1, none⟩ = some (.slice A n cap) := by simp
  have HR := Lib.hid (hr.below k0 (Nat.le_refl _)); clear hr
  rcases hv : shtB X n g with _ | _
  · rw [darT_bad hv]
    rw [hv] at hq
    have Hq := Lib.hid hq; clear hq hv hs d1
    go_enter Tryd.func19, Tryd.ntmps19
    go_wp2_with fail
    refine Hq.out.mono ?_; rintro e w2 ⟨rfl, hb2⟩
    have k2 := k0.trans (hb2.mono k0.size)
    go_wp2_with fail
    go_ret3
    exact ⟨rfl, k2⟩
  · rw [hv] at hq
    have hd := prsB_iff.1 (shtB_iff.1 hv).2.2
    have hn12 := (shtB_iff.1 hv).2.1
    have HT := Lib.hid (fun k hk => show 0 ≤ totB (g k) ∧ totB (g k) ≤ 25600 from totB_bd (hd k hk) 64 (Nat.le_refl _))
    have HD := Lib.hid hd; clear hd
    have HV := Lib.hid hv; clear hv
    have Hq := Lib.hid hq; clear hq hs
    go_enter Tryd.func19, Tryd.ntmps19
    go_wp2_with fail
    refine Hq.out.mono ?_; rintro e w2 ⟨rfl, hb2⟩
    have k2 := k0.trans (hb2.mono k0.size)
    have e1 := below_cellOf hb2 d1 (Nat.le_refl _)
    have HR2 := Lib.hid (HR.out.below hb2 (Nat.le_refl _))
    clear hb2 d1 HR k0 Hq
    go_wp2_with fail
    go_loop [5, 6, 7] (fun bv mv iv => ∃ k : Nat, k ≤ n ∧ iv = .int .i64 (k : Int) ∧ bv = .int .i64 ((dk (fun i => totB (g i)) k).1 : Nat) ∧ mv = .int .i64 (dk (fun i => totB (g i)) k).2) (fun _ _ iv => n - (intOf iv).toNat)
    case atStart => exact ⟨0, by omega, rfl, rfl, rfl⟩
    case round =>
      obtain ⟨k, hk, rfl, rfl, rfl⟩ := hrel
      have hbd := dk_bd (t := fun i => totB (g i)) (n := n) HT.out k hk
      have hyes := dk_yes (t := fun i => totB (g i)) (k := k)
      have hno := dk_no (t := fun i => totB (g i)) (k := k)
      by_cases hkn : k < n
      · rcases HR2.out with h0 | ⟨b, o, rfl, hlt, hc⟩
        · exfalso; omega
        have HC := Lib.hid (hc k hkn); clear hc
        have hkn' : (k : Int) < n := by omega
        have hTk := HT.out k hkn
        have hdn := Lib.hid (HD.out k hkn)
        have hfin : Hid (totB (g k) = sumB (g k) 18446744073709551615#64 64) := Lib.hid rfl
        have hb3 : Hid ((dk (fun i => totB (g i)) k).1 ≤ k ∧ -1 ≤ (dk (fun i => totB (g i)) k).2 ∧ (dk (fun i => totB (g i)) k).2 ≤ 25600) := Lib.hid ⟨hbd.1, hbd.2.1, hbd.2.2.1⟩
        have Hyes := Lib.hid hyes; have Hno := Lib.hid hno; clear hyes hno hbd
        generalize hD : dk (fun i => totB (g i)) k = D at *
        obtain ⟨I, M⟩ := D
        simp only at hb3 Hyes Hno ⊢
        go_wp2_with fail
        go_loop [8, 9] (fun sv jv => ∃ j : Nat, j ≤ 64 ∧ jv = .int .i64 (j : Int) ∧ sv = .int .i64 (sumB (g k) 18446744073709551615#64 j)) (fun _ jv => 64 - (intOf jv).toNat)
        case atStart => exact ⟨0, by omega, rfl, rfl⟩
        case round =>
          obtain ⟨j, hj, rfl, rfl⟩ := hrel
          by_cases hj64 : j < 64
          · have cj := HC.out j hj64
            have hj' : (j : Int) < 64 := by omega
            have hsb := totB_bd hdn.out j hj
            have hgb := dnsB_bd hdn.out hj64
            have hts := Lib.hid (tot_succ (g k) hj64)
            generalize sumB (g k) 18446744073709551615#64 j = S at *
            generalize g k j = Y at *
            go_wp2_with fail
            go_round
            case rel => exact ⟨j + 1, by omega, by go_num, by rw [hts.out]⟩
            case measure => simp [intOf]; omega
          · obtain rfl : j = 64 := by omega
            rw [← hfin.out]
            have hb4 := hb3.out
            generalize totB (g k) = T at *
            by_cases hlt2 : M < T
            · have h4 := Lib.hid (Hyes.out hlt2); clear Hyes Hno
              go_wp2_with fail
              go_round
              case rel => exact ⟨k + 1, by omega, by go_num, by rw [h4.out], by rw [h4.out]⟩
              case measure => simp [intOf]; omega
            · have h4 := Lib.hid (Hno.out (by omega)); clear Hyes Hno
              have hlt3 : decide (M < T) = false := decide_eq_false hlt2
              go_wp2_with fail
              go_round
              case rel => exact ⟨k + 1, by omega, by go_num, by rw [h4.out], by rw [h4.out]⟩
              case measure => simp [intOf]; omega
      · obtain rfl : k = n := by omega
        clear hyes hno
        have hr0 : Hid (k = 0 → darT X k g = #[.int .i64 0, .int .i64 0, .int .i64 6]) := Lib.hid fun h => by subst h; exact darT_none HV.out
        have hr1 := Lib.hid (fun h : k ≠ 0 => darT_ok HV.out h)
        by_cases hk0 : k = 0
        · subst hk0
          have hM : (dk (fun i => totB (g i)) 0).2 = -1 := rfl
          have hr2 := Lib.hid (hr0.out rfl); clear hr0 hr1
          rw [hM]
          go_wp2_with fail
          go_ret3
          exact ⟨by rw [hr2.out]; rfl, k2⟩
        · have hM := hbd.2.2.2 (by omega)
          have hr2 := Lib.hid (hr1.out hk0); clear hr0 hr1 hbd
          generalize dk (fun i => totB (g i)) k = D at *
          obtain ⟨I, M⟩ := D
          simp only at hM hr2 ⊢
          go_wp2_with fail
          go_ret3
          exact ⟨by rw [hr2.out]; rfl, k2⟩

/-! ### THE PROGRAM -/
/-- Block q is a variable that holds an index and an amount. -/
def ChBox (W : World) (q : Nat) (a b : Int) : Prop := W.heap[q]? = some (.cells #[.int .i64 a, .int .i64 b] 73 (0, 0))
theorem ChBox.lt {W : World} {q : Nat} {a b : Int} (h : ChBox W q a b) : q < W.heap.size := (Array.getElem?_eq_some_iff.1 h).1
theorem ChBox.cell0 {W : World} {q : Nat} {a b : Int} (h : ChBox W q a b) : W.cell? ⟨q, 0, none⟩ = some (.int .i64 a) := by rw [cell_of_row W q 0 _ _ _ h]; rfl
theorem ChBox.cell1 {W : World} {q : Nat} {a b : Int} (h : ChBox W q a b) : W.cell? ⟨q, 1, none⟩ = some (.int .i64 b) := by rw [cell_of_row W q 1 _ _ _ h]; rfl
theorem ChBox.free {W : World} {q : Nat} {a b : Int} (h : ChBox W q a b) (k : Nat) : W.frozen? ⟨q, k, none⟩ = false := frozen_of_row W q k _ _ h
theorem ChBox.new (W : World) (a b : Int) : ChBox (W.alloc (.cells #[.int .i64 a, .int .i64 b] 73)) W.heap.size a b := World.alloc_heap_new W _
theorem ChBox.below {W W' : World} {B q : Nat} {a b : Int} (h : ChBox W q a b) (hb : Below B W W') (hB : q < B) : ChBox W' q a b := (hb.block q hB).trans h
theorem ChBox.set {W : World} {q : Nat} {a b : Int} (h : ChBox W q a b) (a' b' : Int) : ChBox ((W.setCell ⟨q, 0, none⟩ (.int .i64 a')).setCell ⟨q, 1, none⟩ (.int .i64 b')) q a' b' :=
  heap_setCell_same _ q 1 _ _ _ (heap_setCell_same _ q 0 _ _ _ h)
theorem ChBox.other {W : World} {q : Nat} {a b : Int} (h : ChBox W q a b) {p : Addr} (hne : q ≠ p.block) (v : Value) : ChBox (W.setCell p v) q a b := (Below.heap_setCell W p v q hne).trans h

theorem sumFull_any (f : Nat → Int) (hf : S16 f) (w : World) (hT : DbEnv w) :
    Calls Tryd.prog 58 #[.agg (arrV .i16 64 f), .int .u64 18446744073709551615] w fun e w' => e = .returned (.int .i64 (totB f)) ∧ Below w.heap.size w w' :=
  sumIn_any f hf 18446744073709551615#64 w hT

/-- An index and an amount with an error. -/
def chE (a b : Int) (v : Value) : Value := .tuple #[.agg #[.int .i64 a, .int .i64 b], v]

set_option maxRecDepth 100000 in
set_option maxHeartbeats 2000000 in
theorem darkestFrame_bad (s : Ers) (X : Int) (A : Option Addr) (n cap : Nat) (g : Nat → Nat → Int) (hn : n ≤ 1048576) (hX : -128 ≤ X ∧ X ≤ 127) (hv : shtB X n g = false) (w : World) (hr : PrsIn w A n g) (hE : ErrEnv s w) :
    Calls Tryd.prog 40 #[.agg #[.int .i8 X, .slice A n cap]] w fun e w' => e = .returned (chE 0 0 (errV s.einvalid)) ∧ Below w.heap.size w w' := by
  have k0 := ((Below.refl w.heap.size w).alloc (Nat.le_refl _) (.cells #[.int .i8 X, .slice A n cap] 29)).alloc (by simp) (.cells #[.int .i64 0, .int .i64 0] 73)
  have hq := framesOf_any s X A n cap g hn hX none 0 0 (fun _ => 0) (by omega) _ (hr.below k0 (Nat.le_refl _)) (.inl rfl) (hE.below k0 (Nat.le_refl _))
  rw [frmC_bad hv, frmR_1] at hq
  have b0 : ChBox ((w.alloc (.cells #[.int .i8 X, .slice A n cap] 29)).alloc (.cells #[.int .i64 0, .int .i64 0] 73)) (w.heap.size + 1) 0 0 := by
    have := ChBox.new (w.alloc (.cells #[.int .i8 X, .slice A n cap] 29)) 0 0
    rwa [World.size_alloc] at this
  have Hq := Lib.hid hq; clear hq hv hr hE
  go_enter Tryd.func40, Tryd.ntmps40
  go_wp2_with fail
  refine Hq.out.mono ?_; rintro e w2 ⟨rfl, hb2⟩
  have k2 := k0.trans (hb2.mono k0.size)
  have b2 := b0.below hb2 b0.lt
  have c0 := b2.cell0
  have c1 := b2.cell1
  have f0 := b2.free 0
  have f1 := b2.free 1
  clear hb2 Hq
  go_wp2_with fail
  have b3 := b2.set 0 0
  refine bodyPost_ret (v := chE 0 0 (errV s.einvalid)) (by simp [results, Tryd.results40, go_sem, b3.cell0, b3.cell1, chE]) rfl ⟨rfl, (k2.setCell (by simp) _).setCell (by simp) _⟩
end Go.Proofs.YtkmpfbjenddhjaaDoor

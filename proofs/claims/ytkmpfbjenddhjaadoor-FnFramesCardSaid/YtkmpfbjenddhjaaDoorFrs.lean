/-
  Frames of a sheet and their places: what both sides' functions return. Condition of the program's: its variables hold their own errors.
-/
import Derived.Test.YtkmpfbjenddhjaaDoorSht
import Derived.Test.YtkmpfbjenddhjaaDoorShtR
import Derived.Test.YtkmpfbjenddhjaaDoorErrs
import Derived.Test.YtkmpfbjenddhjaaDoorInts
namespace Go.Proofs.YtkmpfbjenddhjaaDoor
open Go.RowKit

/-- The code of a sheet and a frame. -/
def askC (X : Int) (n : Nat) (g : Nat → Nat → Int) (i : Int) : Int := if shtB X n g = true then (if inB i 0 ((n : Int) - 1) = true then 0 else 2) else 1
theorem askC_bad {X : Int} {n : Nat} {g : Nat → Nat → Int} {i : Int} (h : shtB X n g = false) : askC X n g i = 1 := by simp [askC, h]
theorem askC_no {X : Int} {n : Nat} {g : Nat → Nat → Int} {i : Int} (h : shtB X n g = true) (h' : inB i 0 ((n : Int) - 1) = false) : askC X n g i = 2 := by simp [askC, h, h']
theorem askC_ok {X : Int} {n : Nat} {g : Nat → Nat → Int} {i : Int} (h : shtB X n g = true) (h' : inB i 0 ((n : Int) - 1) = true) : askC X n g i = 0 := by simp [askC, h, h']

set_option maxRecDepth 100000 in
set_option maxHeartbeats 1000000 in
theorem l07Asked_any (b : Nat) (X : Int) (A : Option Addr) (n cap : Nat) (g : Nat → Nat → Int) (i : Int) (hn : n ≤ 1048576) (hX : -128 ≤ X ∧ X ≤ 127) (hs : ∀ i, i < n → S16 (g i)) (w : World)
    (c0 : w.cell? ⟨b, 0, none⟩ = some (.int .i8 X)) (c1 : w.cell? ⟨b, 1, none⟩ = some (.slice A n cap)) (hr : PrsIn w A n g) :
    Calls Tryd.prog 28 #[.pointer (some ⟨b, 0, none⟩), .int .i64 i] w fun e w' => e = .returned (.int .i64 (askC X n g i)) ∧ Below w.heap.size w w' := by
  have hq := l07Ok_any b X A n cap g hn hX hs w c0 c1 hr
  clear hr hs
  rcases hv : shtB X n g with _ | _
  · rw [askC_bad hv]
    rw [hv] at hq
    have Hq := Lib.hid hq; clear hq hv c0 c1
    go_enter Tryd.func28, Tryd.ntmps28
    go_wp2_with fail
    refine Hq.out.mono ?_; rintro e w2 ⟨rfl, hb2⟩
    go_wp2_with fail
    go_ret
    exact ⟨rfl, hb2⟩
  · rw [hv] at hq
    have Hq := Lib.hid hq; clear hq
    have hin := fun W => l00In_any i 0 ((n : Int) - 1) W
    rcases hi : inB i 0 ((n : Int) - 1) with _ | _
    · rw [askC_no hv hi]
      rw [hi] at hin
      have Hin := Lib.hid hin; clear hin hi hv
      go_enter Tryd.func28, Tryd.ntmps28
      go_wp2_with fail
      refine Hq.out.mono ?_; rintro e w2 ⟨rfl, hb2⟩
      have e1 := below_cellOf hb2 c1 (Nat.le_refl _)
      clear c0 c1
      go_wp2_with (go_at_call 51; refine (Hin.out _).mono ?_; rintro e w' ⟨rfl, rfl⟩)
      go_ret
      exact ⟨rfl, hb2⟩
    · rw [askC_ok hv hi]
      rw [hi] at hin
      have Hin := Lib.hid hin; clear hin hi hv
      go_enter Tryd.func28, Tryd.ntmps28
      go_wp2_with fail
      refine Hq.out.mono ?_; rintro e w2 ⟨rfl, hb2⟩
      have e1 := below_cellOf hb2 c1 (Nat.le_refl _)
      clear c0 c1
      go_wp2_with (go_at_call 51; refine (Hin.out _).mono ?_; rintro e w' ⟨rfl, rfl⟩)
      go_ret
      exact ⟨rfl, hb2⟩

/-! ### THE PROGRAM: FRAMES AND AN ERROR -/
/-- The code of a sheet and some frames. -/
def frmC (X : Int) (n : Nat) (g : Nat → Nat → Int) (m : Nat) (xs : Nat → Int) : Int := if shtB X n g = true then (if ((List.range m).all fun j => inB (xs j) 0 ((n : Int) - 1)) = true then 0 else 2) else 1
/-- What is handed back: the frames, or an error. -/
def frmR (s : Ers) (A : Option Addr) (n cap : Nat) (C : Int) : Array Value := if C = 0 then #[.slice A n cap, .nilIface] else if C = 1 then #[.slice none 0 0, errV s.einvalid] else #[.slice none 0 0, errV s.erange]
theorem frmR_0 (s : Ers) (A : Option Addr) (n cap : Nat) : frmR s A n cap 0 = #[.slice A n cap, .nilIface] := rfl
theorem frmR_1 (s : Ers) (A : Option Addr) (n cap : Nat) : frmR s A n cap 1 = #[.slice none 0 0, errV s.einvalid] := rfl
theorem frmR_2 (s : Ers) (A : Option Addr) (n cap : Nat) : frmR s A n cap 2 = #[.slice none 0 0, errV s.erange] := rfl
theorem frmC_bad {X : Int} {n m : Nat} {g : Nat → Nat → Int} {xs : Nat → Int} (h : shtB X n g = false) : frmC X n g m xs = 1 := by simp [frmC, h]
theorem frmC_none {X : Int} {n : Nat} {g : Nat → Nat → Int} {xs : Nat → Int} (h : shtB X n g = true) : frmC X n g 0 xs = 0 := by simp [frmC, h]
theorem frmC_one {X : Int} {n : Nat} {g : Nat → Nat → Int} (i : Int) : frmC X n g 1 (fun _ => i) = askC X n g i := by simp [frmC, askC, List.range_succ]

set_option maxHeartbeats 1000000 in
theorem frHas_any (A : Option Addr) (n cap : Nat) (i : Int) (hn : n ≤ 1048576) (w : World) :
    Calls Tryd.prog 62 #[.slice A n cap, .int .i64 i] w fun e w' => e = .returned (.bool (inB i 0 ((n : Int) - 1))) ∧ w = w' := by
  have hin := Lib.hid (fun W => inRange_any i 0 ((n : Int) - 1) W)
  go_enter Tryd.func62, Tryd.ntmps62
  go_wp2_with fail
  refine (hin.out _).mono ?_; rintro e w' ⟨rfl, rfl⟩
  go_wp2_with fail
  go_ret
  exact ⟨rfl, rfl⟩

set_option maxRecDepth 100000 in
set_option maxHeartbeats 2000000 in
theorem framesOf_any (s : Ers) (X : Int) (A : Option Addr) (n cap : Nat) (g : Nat → Nat → Int) (hn : n ≤ 1048576) (hX : -128 ≤ X ∧ X ≤ 127) (B : Option Addr) (m c : Nat) (xs : Nat → Int) (hm : m ≤ 1048576) (w : World) (hr : PrsIn w A n g) (hi : IntsIn w B m xs) (hE : ErrEnv s w) :
    Calls Tryd.prog 45 #[.agg #[.int .i8 X, .slice A n cap], .slice B m c] w fun e w' => e = .returned (.tuple (frmR s A n cap (frmC X n g m xs))) ∧ Below w.heap.size w w' := by
  have k0 := (Below.refl w.heap.size w).alloc (Nat.le_refl _) (.cells #[.int .i8 X, .slice A n cap] 29)
  have hq := ValidSheet_any X A n cap g hn hX _ (hr.below k0 (Nat.le_refl _))
  have d1 : (w.alloc (.cells #[.int .i8 X, .slice A n cap] 29)).cell? ⟨w.heap.size, 1, none⟩ = some (.slice A n cap) := by simp
  have Hi := Lib.hid (hi.below k0 (Nat.le_refl _)); clear hi
  have HE := Lib.hid hE; clear hE hr
  rcases hv : shtB X n g with _ | _
  · rw [frmC_bad hv, frmR_1]
    rw [hv] at hq
    have Hq := Lib.hid hq; clear hq hv d1
    go_enter Tryd.func45, Tryd.ntmps45
    go_wp2_with fail
    refine Hq.out.mono ?_; rintro e w2 ⟨rfl, hb2⟩
    have k2 := k0.trans (hb2.mono k0.size)
    have ce := (HE.out.below k2 (Nat.le_refl _)).c_einvalid
    go_wp2_with fail
    go_quiet (fail)
    go_wp2
    go_ret2
    exact ⟨rfl, below_drewA k2 nq⟩
  · rw [hv] at hq
    have Hq := Lib.hid hq; clear hq
    have HV := Lib.hid hv; clear hv
    go_enter Tryd.func45, Tryd.ntmps45
    go_wp2_with fail
    refine Hq.out.mono ?_; rintro e w2 ⟨rfl, hb2⟩
    have k2 := k0.trans (hb2.mono k0.size)
    have e1 := below_cellOf hb2 d1 (Nat.le_refl _)
    have Hi2 := Lib.hid (Hi.out.below hb2 (Nat.le_refl _))
    clear d1 hb2 Hi k0
    go_wp2_with fail
    go_loop [17] (fun jv => ∃ j : Nat, j ≤ m ∧ jv = .int .i64 (j : Int) ∧ ∀ i, i < j → inB (xs i) 0 ((n : Int) - 1) = true) (fun jv => m - (intOf jv).toNat)
    case atStart => exact ⟨0, Nat.zero_le _, rfl, fun j hj => by omega⟩
    case round =>
      obtain ⟨j, hj, rfl, hall⟩ := hrel
      have HA := Lib.hid hall; clear hall
      clear e1
      by_cases hjm : j < m
      · rcases Hi2.out with h0 | ⟨b, o, rfl, hlt, hc⟩
        · exfalso; omega
        have cj := hc j hjm
        clear hc
        have hj' : (j : Int) < m := by omega
        have hh := fun W => frHas_any A n cap (xs j) hn W
        rcases hx : inB (xs j) 0 ((n : Int) - 1) with _ | _
        · have hC : frmC X n g m xs = 2 := by
            have hno : ¬ ((List.range m).all fun j => inB (xs j) 0 ((n : Int) - 1)) = true := fun h => by
              have := List.all_eq_true.1 h j (List.mem_range.2 hjm)
              rw [hx] at this; cases this
            simp only [frmC, HV.out, if_true, if_neg hno]
          rw [hx] at hh
          have Hh := Lib.hid hh
          have HC := Lib.hid hC
          clear hh hx hC
          have ce := (HE.out.below k2 (Nat.le_refl _)).c_erange
          generalize xs j = x at *
          go_wp2_with fail
          refine (Hh.out _).mono ?_; rintro e w' ⟨rfl, rfl⟩
          go_wp2_with fail
          go_quiet (fail)
          go_wp2
          go_ret2
          exact ⟨by rw [HC.out, frmR_2]; rfl, below_drewA k2 nq⟩
        · rw [hx] at hh
          have Hh := Lib.hid hh
          have HX := Lib.hid hx
          clear hh hx
          generalize hxe : xs j = x at *
          have HXE := Lib.hid hxe; clear hxe
          go_wp2_with fail
          refine (Hh.out _).mono ?_; rintro e w' ⟨rfl, rfl⟩
          go_wp2_with fail
          go_round
          case rel => exact ⟨j + 1, by omega, by go_num, fun i hi => by
            by_cases e : i = j
            · subst e; rw [HXE.out]; exact HX.out
            · exact HA.out i (by omega)⟩
          case measure => simp [intOf]; omega
      · obtain rfl : j = m := by omega
        have hC : frmC X n g j xs = 0 := by
          have hyes : ((List.range j).all fun k => inB (xs k) 0 ((n : Int) - 1)) = true := List.all_eq_true.2 fun k hk => HA.out k (List.mem_range.1 hk)
          simp only [frmC, HV.out, if_true, if_pos hyes]
        have HC := Lib.hid hC
        clear hC
        go_wp2_with fail
        go_ret2
        exact ⟨by rw [HC.out, frmR_0]; rfl, k2⟩

/-! ### PlaceOf -/
/-- What PlaceOf returns. -/
def plaT (X : Int) (n : Nat) (g : Nat → Nat → Int) (i : Int) : Array Value := if askC X n g i = 0 then #[.int .i64 (i % X), .int .i64 (i.tdiv X), .int .i64 0] else #[.int .i64 0, .int .i64 0, .int .i64 (askC X n g i)]
theorem tmod_bd {a X : Int} (_ : 0 ≤ a) (hX : 1 ≤ X) : 0 ≤ a % X ∧ a % X < X := by
  exact ⟨Int.emod_nonneg _ (by omega), Int.emod_lt_of_pos _ (by omega)⟩

set_option maxRecDepth 100000 in
set_option maxHeartbeats 1000000 in
theorem PlaceOf_any (s : Ers) (X : Int) (A : Option Addr) (n cap : Nat) (g : Nat → Nat → Int) (i : Int) (hn : n ≤ 1048576) (hX : -128 ≤ X ∧ X ≤ 127) (bi : -9223372036854775808 ≤ i ∧ i ≤ 9223372036854775807) (w : World) (hr : PrsIn w A n g) (hE : ErrEnv s w) :
    Calls Tryd.prog 21 #[.agg #[.int .i8 X, .slice A n cap], .int .i64 i] w fun e w' => e = .returned (.tuple (plaT X n g i)) ∧ Below w.heap.size w w' := by
  have k0 := ((Below.refl w.heap.size w).alloc (Nat.le_refl _) (.cells #[.int .i8 X, .slice A n cap] 29)).alloc (by simp) (.cells #[.int .i64 i] 2)
  have hi : IntsIn ((w.alloc (.cells #[.int .i8 X, .slice A n cap] 29)).alloc (.cells #[.int .i64 i] 2)) (some ⟨w.heap.size + 1, 0, none⟩) 1 (fun _ => i) :=
    .inr ⟨_, 0, rfl, by simp, fun j hj => by obtain rfl : j = 0 := by omega
                                             simp⟩
  have hq := framesOf_any s X A n cap g hn hX (some ⟨w.heap.size + 1, 0, none⟩) 1 1 (fun _ => i) (by omega) _ (hr.below k0 (Nat.le_refl _)) hi (hE.below k0 (Nat.le_refl _))
  rw [frmC_one] at hq
  have d0 : ((w.alloc (.cells #[.int .i8 X, .slice A n cap] 29)).alloc (.cells #[.int .i64 i] 2)).cell? ⟨w.heap.size, 0, none⟩ = some (.int .i8 X) := by simp
  have HE := Lib.hid hE; clear hE hr hi
  unfold plaT
  rcases hsh : shtB X n g with _ | _
  · rw [askC_bad hsh] at hq ⊢
    rw [if_neg (by decide)]
    rw [frmR_1] at hq
    have Hq := Lib.hid hq; clear hq hsh d0
    go_enter Tryd.func21, Tryd.ntmps21
    go_wp2_with fail
    refine Hq.out.mono ?_; rintro e w2 ⟨rfl, hb2⟩
    have k2 := k0.trans (hb2.mono k0.size)
    go_wp2_with fail
    refine (codeOf_any .einvalid _ (HE.out.below k2 (Nat.le_refl _))).mono ?_; rintro e w3 ⟨rfl, rfl⟩
    go_wp2_with fail
    go_ret3
    exact ⟨rfl, k2⟩
  rcases hin : inB i 0 ((n : Int) - 1) with _ | _
  · rw [askC_no hsh hin] at hq ⊢
    rw [if_neg (by decide)]
    rw [frmR_2] at hq
    have Hq := Lib.hid hq; clear hq hsh d0
    go_enter Tryd.func21, Tryd.ntmps21
    go_wp2_with fail
    refine Hq.out.mono ?_; rintro e w2 ⟨rfl, hb2⟩
    have k2 := k0.trans (hb2.mono k0.size)
    go_wp2_with fail
    refine (codeOf_any .erange _ (HE.out.below k2 (Nat.le_refl _))).mono ?_; rintro e w3 ⟨rfl, rfl⟩
    go_wp2_with fail
    go_ret3
    exact ⟨rfl, k2⟩
  · rw [askC_ok hsh hin] at hq ⊢
    rw [if_pos rfl]
    rw [frmR_0] at hq
    have hin' := inB_true.1 hin
    have h1 := (shtB_iff.1 hsh).1.1
    have h2 := (shtB_iff.1 hsh).1.2
    have h0 := hin'.1
    have m1 := tmod_bd hin'.1 h1
    have m2 := tdiv_bd hin'.1 h1
    have m3 := m1.1
    have m4 := m1.2
    have m5 := m2.1
    have m6 := m2.2
    have hX0 : ¬ X = 0 := by omega
    clear hin hin' hsh m1 m2
    have Hq := Lib.hid hq; clear hq
    go_enter Tryd.func21, Tryd.ntmps21
    go_wp2_with fail
    refine Hq.out.mono ?_; rintro e w2 ⟨rfl, hb2⟩
    have k2 := k0.trans (hb2.mono k0.size)
    have e0 := below_cellOf hb2 d0 (Nat.le_refl _)
    clear d0 hb2
    go_wp2_with fail
    go_quiet (fail)
    go_wp2
    go_ret3
    exact ⟨rfl, below_drewA k2 nq⟩
end Go.Proofs.YtkmpfbjenddhjaaDoor

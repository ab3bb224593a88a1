/-
  The light for another paper, for all lights: by the program and by the reference, for every two lists of at most 1048576 points. Condition of the program's: its variables hold their own errors.
-/
import Derived.Test.YtkhahffdacopdaaDoorConv
namespace Go.Proofs.YtkhahffdacopdaaDoor
open Go.RowKit

/-- The table. -/
def cvtV (n : Nat) (xs ys : Nat → Int) (f : Nat → Int) (k : Nat) : Int := leaR f (dens n xs ys (k : Int))

theorem errNeT (x : Addr) (w : World) : (binOp .neq 63 (errV x) .nilIface).run Tryd.prog w = .ok (.bool true) w := by kernel_rfl
theorem nilNeT (w : World) : (binOp .neq 63 .nilIface .nilIface).run Tryd.prog w = .ok (.bool false) w := by kernel_rfl

section
variable (g n cap : Nat) (xs ys : Nat → Int) (g' m cap' : Nat) (us vs : Nat → Int)
set_option maxRecDepth 100000 in
set_option maxHeartbeats 4000000 in
theorem specConvertTable_any (hn : n ≤ 1048576) (hs : SmallP n xs ys) (hm : m ≤ 1048576) (hs' : SmallP m us vs) (w : World) (hr : PtRow w g n xs ys) (hr' : PtRow w g' m us vs) :
    Calls Tryd.prog 44 #[.slice (some ⟨g, 0, none⟩) n cap, .slice (some ⟨g', 0, none⟩) m cap'] w (LstC (twoC n xs ys m us vs) (lenC (twoC n xs ys m us vs) 37) (cvtV n xs ys (shdF m us vs 0)) w) := by
  have hlt := hr.lt
  have hlt' := hr'.lt
  have hk := fun W hW => l02Ok_any g n cap xs ys hn hs W hW
  have hk' := fun W hW => l02Ok_any g' m cap' us vs hm hs' W hW
  rcases h : validC n xs ys with _ | _
  · rw [two_1 h, lenC_1]
    rw [h] at hk
    have Hk := Lib.hid hk; clear hk h
    generalize cvtV n xs ys (shdF m us vs 0) = F
    go_enter Tryd.func44, Tryd.ntmps44
    go_wp2_with fail
    refine (Hk.out _ hr).mono ?_; rintro e w1 ⟨rfl, hb1⟩
    go_wp2_with fail
    go_ret2
    exact ⟨_, rfl, .nil _ _ _ _ _ _ _ _, hb1.alloc hb1.size _⟩
  rw [h] at hk
  have Hk := Lib.hid hk; clear hk
  rcases h2 : validC m us vs with _ | _
  · rw [two_1' h2, lenC_1]
    rw [h2] at hk'
    have Hk' := Lib.hid hk'; clear hk' h h2
    generalize cvtV n xs ys (shdF m us vs 0) = F
    go_enter Tryd.func44, Tryd.ntmps44
    go_wp2_with fail
    refine (Hk.out _ hr).mono ?_; rintro e w1 ⟨rfl, hb1⟩
    go_wp2_with fail
    refine (Hk'.out _ (hr'.below hb1 hlt')).mono ?_; rintro e w2 ⟨rfl, hb2⟩
    have k2 := hb1.trans (hb2.mono hb1.size)
    go_wp2_with fail
    go_ret2
    exact ⟨_, rfl, .nil _ _ _ _ _ _ _ _, k2.alloc k2.size _⟩
  rw [h2] at hk'
  have Hk' := Lib.hid hk'; clear hk'
  rw [two_0 h h2, lenC_0]
  have hat := fun (x : Int) (h0 : 0 ≤ x) (h1 : x ≤ 36) W hW => l02At_any g n cap xs ys hn (validC_crv h).1 x (by omega) (by omega) W hW
  have hle := fun y W hW => l05Least_any g' m cap' us vs 0 y hm (validC_crv h2).1 (by omega) (by omega) W hW
  have hF : ∀ k : Nat, cvtV n xs ys (shdF m us vs 0) k = leaR (shdF m us vs 0) (dens n xs ys (k : Int)) := fun _ => rfl
  generalize cvtV n xs ys (shdF m us vs 0) = F at *
  generalize shdF m us vs 0 = f at *
  generalize dens n xs ys = dn at *
  have Hat := Lib.hid hat; clear hat
  have HF := Lib.hid hF; clear hF
  have Hle := Lib.hid hle; clear hle h h2
  go_enter Tryd.func44, Tryd.ntmps44
  go_wp2_with fail
  refine (Hk.out _ hr).mono ?_; rintro e w1 ⟨rfl, hb1⟩
  go_wp2_with fail
  refine (Hk'.out _ (hr'.below hb1 hlt')).mono ?_; rintro e w2 ⟨rfl, hb2⟩
  have k2 := hb1.trans (hb2.mono hb1.size)
  have z2 := k2.size
  have o2 := World.ownsRow_lit (size := 1) (e := 2) (base := w.heap.size) w2 #[] 0 z2 (Nat.zero_le _) rfl
  have k3 := k2.alloc k2.size (.cells #[] 2)
  go_wp2_with fail
  go_loopw [6, 7] (fun lv iv wr => ∃ k : Nat, iv = .int .i64 k ∧ k ≤ 37 ∧ wr.ownsRow w.heap.size 2 1 lv k (tabV F k) ∧ Below w.heap.size w wr) (fun _ iv _ => 37 - (intOf iv).toNat)
  case atStart => exact ⟨0, rfl, by omega, o2, k3⟩
  case round =>
    clear o2 k2 k3 hb1 hb2
    obtain ⟨k, rfl, hk, hown, k2⟩ := hrel
    by_cases hkn : k < 37
    rotate_left
    · obtain rfl : k = 37 := by omega
      go_wp2_with fail
      go_ret2
      exact ⟨_, rfl, mine_own hown, k2⟩
    have kn : (k : Int) ≤ 36 := by omega
    have hv := HF.out k
    have ha := Hat.out (k : Int) (by omega) kn
    generalize dn (k : Int) = D at *
    have hl := Hle.out D
    rw [← hv] at hl
    clear hv
    generalize hV : F k = V at *
    have HV := Lib.hid hV; clear hV
    have Ha := Lib.hid ha; clear ha
    have Hl := Lib.hid hl; clear hl
    have hfar := fun jj hjj => hown.lt jj hjj
    go_wp2_with fail
    refine (Ha.out _ (hr.below k2 hlt)).mono ?_; rintro x w3 ⟨rfl, hb3⟩
    have k3 := k2.trans (hb3.mono k2.size)
    have own3 := own_belowT hown hb3
    go_wp2_with fail
    refine (Hl.out _ (hr'.below k3 hlt')).mono ?_; rintro x w4 ⟨rfl, hb4⟩
    have k4 := k3.trans (hb4.mono k3.size)
    have own4 := own_belowT own3 hb4
    have z4 := k4.size
    clear hb3 hb4 k2 k3 hown own3
    go_wp2_with (at_builtin; refine wpList_append1 rfl _ _ rfl rfl own4 rfl (by omega) (by omega) HV.out ?_)
    intro v' w5 hown5 hg2 hat
    have k5 : Below w.heap.size w w5 := k4.grown hg2 k4.size (fun jj hjj => (hfar jj hjj).1)
    clear hg2 k4 own4 hat
    go_wp2_with fail
    go_roundw
    case rel => exact ⟨k + 1, by go_num, by omega, hown5, k5⟩
    case measure => simp [intOf]; omega

set_option maxRecDepth 100000 in
set_option maxHeartbeats 4000000 in
theorem convertTable_any (s : Ers) (hn : n ≤ 1048576) (hs : SmallP n xs ys) (hm : m ≤ 1048576) (hs' : SmallP m us vs) (w : World) (hr : PtRow w g n xs ys) (hr' : PtRow w g' m us vs) (hE : ErrEnv s w) :
    Calls Tryd.prog 78 #[.slice (some ⟨g, 0, none⟩) n cap, .slice (some ⟨g', 0, none⟩) m cap'] w (LstE s (twoC n xs ys m us vs) (lenC (twoC n xs ys m us vs) 37) (cvtV n xs ys (shdF m us vs 0)) w) := by
  have hlt := hr.lt
  have hlt' := hr'.lt
  have hk := fun W hW => ValidCurve_any g n cap xs ys hn hs W hW
  have hk' := fun W hW => ValidCurve_any g' m cap' us vs hm hs' W hW
  rcases h : validC n xs ys with _ | _
  · rw [two_1 h, lenC_1]
    rw [h] at hk
    have Hk := Lib.hid hk; clear hk h
    generalize cvtV n xs ys (shdF m us vs 0) = F
    go_enter Tryd.func78, Tryd.ntmps78
    go_wp2_with fail
    refine (Hk.out _ hr).mono ?_; rintro e w1 ⟨rfl, hb1⟩
    have ce := (hE.below hb1 (Nat.le_refl _)).c_einvalid
    go_wp2_with fail
    go_quiet (fail)
    go_wp2
    go_ret2
    exact ⟨_, _, .einvalid, rfl, .nil _ _ _ _ _ _ _ _, below_drewL hb1 _⟩
  rw [h] at hk
  have Hk := Lib.hid hk; clear hk
  rcases h2 : validC m us vs with _ | _
  · rw [two_1' h2, lenC_1]
    rw [h2] at hk'
    have Hk' := Lib.hid hk'; clear hk' h h2
    generalize cvtV n xs ys (shdF m us vs 0) = F
    go_enter Tryd.func78, Tryd.ntmps78
    go_wp2_with fail
    refine (Hk.out _ hr).mono ?_; rintro e w1 ⟨rfl, hb1⟩
    go_wp2_with fail
    refine (Hk'.out _ (hr'.below hb1 hlt')).mono ?_; rintro e w2 ⟨rfl, hb2⟩
    have k2 := hb1.trans (hb2.mono hb1.size)
    have ce := (hE.below k2 (Nat.le_refl _)).c_einvalid
    go_wp2_with fail
    go_quiet (fail)
    go_wp2
    go_ret2
    exact ⟨_, _, .einvalid, rfl, .nil _ _ _ _ _ _ _ _, below_drewL k2 _⟩
  rw [h2] at hk'
  have Hk' := Lib.hid hk'; clear hk'
  rw [two_0 h h2, lenC_0]
  have hsh := fun W hW => shadesOf_any g' m cap' us vs 0 hm (validC_crv h2).1 (by omega) (by omega) W hW
  have hsh' := fun W hW => shadesOf_any g n cap xs ys 0 hn (validC_crv h).1 (by omega) (by omega) W hW
  have hF : ∀ k : Nat, cvtV n xs ys (shdF m us vs 0) k = leaR (shdF m us vs 0) (shdF n xs ys 0 k) := fun k => by unfold cvtV; rw [show shdF n xs ys 0 k = dens n xs ys (k : Int) from darkV_0 _ _ _ _]
  generalize cvtV n xs ys (shdF m us vs 0) = F at *
  generalize shdF m us vs 0 = f at *
  generalize shdF n xs ys 0 = u at *
  have hle := fun y W hE => leastLight_any s f y W hE
  have Hsh := Lib.hid hsh; clear hsh
  have Hsh' := Lib.hid hsh'; clear hsh'
  have HF := Lib.hid hF; clear hF
  have Hle := Lib.hid hle; clear hle h h2
  have hix := fun k (hk : k < 37) W => run_index_arrS (P := Tryd.prog) (κ' := .i64) (κ := .i64) u Tryd.underlying104 Tryd.underlying2 sizeI64S hk W
  have Hix := Lib.hid hix; clear hix
  have ne := errNeT
  have nn := nilNeT
  have HE := Lib.hid hE; clear hE
  go_enter Tryd.func78, Tryd.ntmps78
  go_wp2_with fail
  refine (Hk.out _ hr).mono ?_; rintro e w1 ⟨rfl, hb1⟩
  go_wp2_with fail
  refine (Hk'.out _ (hr'.below hb1 hlt')).mono ?_; rintro e w2 ⟨rfl, hb2⟩
  have k2 := hb1.trans (hb2.mono hb1.size)
  have z2 := k2.size
  have o2 := World.ownsRow_lit (size := 1) (e := 2) (base := w.heap.size) w2 #[] 0 z2 (Nat.zero_le _) rfl
  have k3 := k2.alloc k2.size (.cells #[] 2)
  go_wp2_with fail
  refine (Hsh.out _ (hr'.below k3 hlt')).mono ?_; rintro e w4 ⟨rfl, hb4⟩
  have k4 := k3.trans (hb4.mono k3.size)
  have o4 := own_belowT o2 hb4
  have z4 : w2.heap.size < w4.heap.size := by have := hb4.size; simp at this; omega
  have a4 := HasArr.zero37 w4 104 (b := w4.heap.size) rfl
  have a5 := a4.setRow .i64 f
  have k5 := below_setRow (k4.alloc k4.size (.cells #[.int .i64 0, .int .i64 0, .int .i64 0, .int .i64 0, .int .i64 0, .int .i64 0, .int .i64 0, .int .i64 0, .int .i64 0, .int .i64 0, .int .i64 0, .int .i64 0, .int .i64 0, .int .i64 0, .int .i64 0, .int .i64 0, .int .i64 0, .int .i64 0, .int .i64 0, .int .i64 0, .int .i64 0, .int .i64 0, .int .i64 0, .int .i64 0, .int .i64 0, .int .i64 0, .int .i64 0, .int .i64 0, .int .i64 0, .int .i64 0, .int .i64 0, .int .i64 0, .int .i64 0, .int .i64 0, .int .i64 0, .int .i64 0, .int .i64 0] 104)) (b := w4.heap.size) k4.size (arrV .i64 37 f)
  have kp := below_setRow ((Below.refl w4.heap.size w4).alloc (Nat.le_refl _) (.cells #[.int .i64 0, .int .i64 0, .int .i64 0, .int .i64 0, .int .i64 0, .int .i64 0, .int .i64 0, .int .i64 0, .int .i64 0, .int .i64 0, .int .i64 0, .int .i64 0, .int .i64 0, .int .i64 0, .int .i64 0, .int .i64 0, .int .i64 0, .int .i64 0, .int .i64 0, .int .i64 0, .int .i64 0, .int .i64 0, .int .i64 0, .int .i64 0, .int .i64 0, .int .i64 0, .int .i64 0, .int .i64 0, .int .i64 0, .int .i64 0, .int .i64 0, .int .i64 0, .int .i64 0, .int .i64 0, .int .i64 0, .int .i64 0, .int .i64 0] 104)) (b := w4.heap.size) (Nat.le_refl _) (arrV .i64 37 f)
  have o5 := own_belowT o4 kp
  clear hb1 hb2 hb4 k2 k3 k4 o2 o4 kp
  go_wp2_with (refine wpList_store_arr a4 _ _ _ rfl rfl rfl rfl sizeShades ?_)
  generalize ((w4.alloc (.cells #[.int .i64 0, .int .i64 0, .int .i64 0, .int .i64 0, .int .i64 0, .int .i64 0, .int .i64 0, .int .i64 0, .int .i64 0, .int .i64 0, .int .i64 0, .int .i64 0, .int .i64 0, .int .i64 0, .int .i64 0, .int .i64 0, .int .i64 0, .int .i64 0, .int .i64 0, .int .i64 0, .int .i64 0, .int .i64 0, .int .i64 0, .int .i64 0, .int .i64 0, .int .i64 0, .int .i64 0, .int .i64 0, .int .i64 0, .int .i64 0, .int .i64 0, .int .i64 0, .int .i64 0, .int .i64 0, .int .i64 0, .int .i64 0, .int .i64 0] 104)).setRow w4.heap.size (arrV .i64 37 f)) = W5 at *
  clear a4
  refine (Hsh'.out _ (hr.below k5 hlt)).mono ?_; rintro e w6 ⟨rfl, hb6⟩
  have k6 := k5.trans (hb6.mono k5.size)
  have o6 := own_belowT o5 hb6
  have a6 := a5.below hb6 a5.lt
  clear hb6 k5 o5 a5
  generalize hA : w4.heap.size = A at *
  clear hA
  have z5 : w.heap.size ≤ A := by omega
  go_wp2_with fail
  go_loopw [6, 26] (fun lv iv wr => ∃ k : Nat, iv = .int .i64 k ∧ k ≤ 37 ∧ wr.ownsRow w.heap.size 2 1 lv k (tabV F k) ∧ lv.ownBlock ≠ some A ∧ HasArr wr A 104 .i64 37 f ∧ Below w.heap.size w wr) (fun _ iv _ => 37 - (intOf iv).toNat)
  case atStart => exact ⟨0, rfl, by omega, o6, by simp [Value.ownBlock]; omega, a6, k6⟩
  case round =>
    clear o6 a6 k6
    obtain ⟨k, rfl, hk, hown, hne, hA, k2⟩ := hrel
    by_cases hkn : k < 37
    rotate_left
    · obtain rfl : k = 37 := by omega
      go_wp2_with fail
      go_ret2
      exact ⟨_, _, .ok, rfl, mine_own hown, k2⟩
    have kn : (k : Int) < 37 := by omega
    have ix := Hix.out k hkn wr
    have hv := HF.out k
    generalize u k = D at *
    have hl := Hle.out D
    have hor := lea_or f D
    rw [← hv] at hor
    clear hv
    generalize hV : F k = V at *
    have HV := Lib.hid hV; clear hV
    have hAl := hA.lt
    have hfar := fun jj hjj => hown.lt jj hjj
    generalize leaC f D = C at *
    generalize leaK f D = K at *
    rcases hor with ⟨rfl, rfl⟩ | ⟨rfl, rfl, hK⟩
    · rw [ifOk_6] at hl
      have Hl := Lib.hid hl; clear hl
      clear nn
      go_wp2_with (refine wpList_load_arr hA _ _ rfl rfl rfl Tryd.underlying104 sizeShades ?_)
      refine (Hl.out _ (HE.out.below k2 (Nat.le_refl _))).mono ?_; rintro x w3 ⟨v, hv, rfl, hb3⟩
      cases hv
      have k3 := k2.trans (hb3.mono k2.size)
      have own3 := own_belowT hown hb3
      have A3 := hA.below hb3 hAl
      have z3 := k3.size
      have z33 := hb3.size
      clear hb3 k2 hown hA
      go_wp2_with (at_builtin; refine wpList_append1 rfl _ _ rfl rfl own3 rfl (by omega) (by omega) HV.out ?_)
      intro v' w5 hown5 hg2 hat
      have A5 := A3.farS hg2 (Ne.symm hne)
      have k5 : Below w.heap.size w w5 := k3.grown hg2 k3.size (fun jj hjj => (hfar jj hjj).1)
      have hne5 : v'.ownBlock ≠ some A := by
        rcases hat with h1 | h1
        · rw [h1]; exact hne
        · rw [h1]; intro e; injection e with e; omega
      clear hg2 k3 own3 A3 hat hne
      go_wp2_with fail
      go_roundw
      case rel => exact ⟨k + 1, by go_num, by omega, hown5, hne5, A5, k5⟩
      case measure => simp [intOf]; omega
    · rw [ifOk_0] at hl
      have Hl := Lib.hid hl; clear hl
      clear ne
      go_wp2_with (refine wpList_load_arr hA _ _ rfl rfl rfl Tryd.underlying104 sizeShades ?_)
      refine (Hl.out _ (HE.out.below k2 (Nat.le_refl _))).mono ?_; rintro x w3 ⟨v, hv, rfl, hb3⟩
      cases hv
      have k3 := k2.trans (hb3.mono k2.size)
      have own3 := own_belowT hown hb3
      have A3 := hA.below hb3 hAl
      have z3 := k3.size
      have z33 := hb3.size
      clear hb3 k2 hown hA
      go_wp2_with (at_builtin; refine wpList_append1 rfl _ _ rfl rfl own3 rfl (by omega) (by omega) HV.out ?_)
      intro v' w5 hown5 hg2 hat
      have A5 := A3.farS hg2 (Ne.symm hne)
      have k5 : Below w.heap.size w w5 := k3.grown hg2 k3.size (fun jj hjj => (hfar jj hjj).1)
      have hne5 : v'.ownBlock ≠ some A := by
        rcases hat with h1 | h1
        · rw [h1]; exact hne
        · rw [h1]; intro e; injection e with e; omega
      clear hg2 k3 own3 A3 hat hne
      go_wp2_with fail
      go_roundw
      case rel => exact ⟨k + 1, by go_num, by omega, hown5, hne5, A5, k5⟩
      case measure => simp [intOf]; omega

set_option maxHeartbeats 1000000 in
theorem ConvertTable_any (s : Ers) (hn : n ≤ 1048576) (hs : SmallP n xs ys) (hm : m ≤ 1048576) (hs' : SmallP m us vs) (w : World) (hr : PtRow w g n xs ys) (hr' : PtRow w g' m us vs) (hE : ErrEnv s w) :
    Calls Tryd.prog 45 #[.slice (some ⟨g, 0, none⟩) n cap, .slice (some ⟨g', 0, none⟩) m cap'] w (LstC (twoC n xs ys m us vs) (lenC (twoC n xs ys m us vs) 37) (cvtV n xs ys (shdF m us vs 0)) w) := by
  have hl := convertTable_any g n cap xs ys g' m cap' us vs s hn hs hm hs' w hr hr' hE
  unfold LstE at hl
  generalize lenC (twoC n xs ys m us vs) 37 = N at *
  generalize twoC n xs ys m us vs = C at *
  generalize cvtV n xs ys (shdF m us vs 0) = F at *
  have Hl := Lib.hid hl; clear hl
  go_enter Tryd.func45, Tryd.ntmps45
  go_wp2_with fail
  refine Hl.out.mono ?_; rintro e w1 ⟨v, x, hx, rfl, hm, hb1⟩
  obtain ⟨A, cap, rfl, hm⟩ := hm
  go_wp2_with fail
  refine (codedInts_any hx _ _ _ _ (hE.below hb1 (Nat.le_refl _))).mono ?_; rintro e w2 ⟨rfl, rfl⟩
  go_wp2_with fail
  go_ret2
  exact ⟨_, rfl, ⟨A, cap, rfl, hm⟩, hb1⟩

theorem specConvertTable_ex (b0 n0 c0 : Nat) (xs ys : Nat → Int) (b1 m0 c1 : Nat) (us vs : Nat → Int) (hn : n0 ≤ 1048576) (hs : SmallP n0 xs ys) (hm : m0 ≤ 1048576) (hs' : SmallP m0 us vs) (w : World) (hr : PtRow w b0 n0 xs ys) (hr' : PtRow w b1 m0 us vs) :
    Calls Tryd.prog 44 #[.slice (some ⟨b0, 0, none⟩) n0 c0, .slice (some ⟨b1, 0, none⟩) m0 c1] w (LstC (twoC n0 xs ys m0 us vs) (lenC (twoC n0 xs ys m0 us vs) 37) (cvtV n0 xs ys (shdF m0 us vs 0)) w) := specConvertTable_any b0 n0 c0 xs ys b1 m0 c1 us vs hn hs hm hs' w hr hr'
theorem ConvertTable_ex (s : Ers) (b0 n0 c0 : Nat) (xs ys : Nat → Int) (b1 m0 c1 : Nat) (us vs : Nat → Int) (hn : n0 ≤ 1048576) (hs : SmallP n0 xs ys) (hm : m0 ≤ 1048576) (hs' : SmallP m0 us vs) (w : World) (hr : PtRow w b0 n0 xs ys) (hr' : PtRow w b1 m0 us vs) (hE : ErrEnv s w) :
    Calls Tryd.prog 45 #[.slice (some ⟨b0, 0, none⟩) n0 c0, .slice (some ⟨b1, 0, none⟩) m0 c1] w (LstC (twoC n0 xs ys m0 us vs) (lenC (twoC n0 xs ys m0 us vs) 37) (cvtV n0 xs ys (shdF m0 us vs 0)) w) := ConvertTable_any b0 n0 c0 xs ys b1 m0 c1 us vs s hn hs hm hs' w hr hr' hE
end
end Go.Proofs.YtkhahffdacopdaaDoor

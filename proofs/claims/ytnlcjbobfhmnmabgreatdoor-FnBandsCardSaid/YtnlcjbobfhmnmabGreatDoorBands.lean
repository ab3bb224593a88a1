/-
  The densities of a paper in the bands of a strip, with their codes: by the program and by the reference, for every strip and list of at most 1048576 points. Condition of the program's: its variables hold their own errors and its table of times.
-/
import Derived.Test.YtnlcjbobfhmnmabGreatDoorStripC
import Derived.Test.YtnlcjbobfhmnmabGreatDoorShade
namespace Go.Proofs.YtnlcjbobfhmnmabGreatDoor
open Go.RowKit

/-- The code of a strip, a paper and a density. -/
def bndC (a b c : Int) (n : Nat) (xs ys : Nat → Int) (d : Int) : Int := if (okT a b c && validC n xs ys) = true then (if inB d 0 400 = true then 0 else 2) else 1
theorem bnd_1 {a b c : Int} {n : Nat} {xs ys : Nat → Int} {d : Int} (h : okT a b c = false) : bndC a b c n xs ys d = 1 := by simp [bndC, h]
theorem bnd_1' {a b c : Int} {n : Nat} {xs ys : Nat → Int} {d : Int} (h : validC n xs ys = false) : bndC a b c n xs ys d = 1 := by simp [bndC, h]
theorem bnd_2 {a b c : Int} {n : Nat} {xs ys : Nat → Int} {d : Int} (h : okT a b c = true) (h2 : validC n xs ys = true) (h3 : inB d 0 400 = false) : bndC a b c n xs ys d = 2 := by simp [bndC, h, h2, h3]
theorem bnd_0 {a b c : Int} {n : Nat} {xs ys : Nat → Int} {d : Int} (h : okT a b c = true) (h2 : validC n xs ys = true) (h3 : inB d 0 400 = true) : bndC a b c n xs ys d = 0 := by simp [bndC, h, h2, h3]
/-- The density in a band of a light. -/
def bndV (n : Nat) (xs ys : Nat → Int) (d : Int) (L : Nat → Int) (j : Nat) : Int := shdF n xs ys d (L j).toNat
theorem bndV_dark {n : Nat} {xs ys : Nat → Int} {d : Int} {L : Nat → Int} {j : Nat} (h : 0 ≤ L j) : bndV n xs ys d L j = darkV n xs ys d (L j) := by
  unfold bndV shdF; rw [Int.toNat_of_nonneg h]

set_option maxRecDepth 100000 in
set_option maxHeartbeats 4000000 in
theorem bandsByL_any (s : Ers) (a b c : Int) (ha : -128 ≤ a) (ha' : a ≤ 127) (hb : -128 ≤ b) (hb' : b ≤ 127) (hc : -128 ≤ c) (hc' : c ≤ 127) (g n cap : Nat) (xs ys : Nat → Int) (d : Int) (hn : n ≤ 1048576) (hs : SmallP n xs ys) (w : World) (hr : PtRow w g n xs ys) (hE : ErrEnv s w) :
    Calls Tryz.prog 40 #[stV a b c, .func (.func 36) #[stV a b c] #[], .slice (some ⟨g, 0, none⟩) n cap, .int .i64 d] w (LstE s (bndC a b c n xs ys d) (lenC (bndC a b c n xs ys d) c.toNat) (bndV n xs ys d (fun j : Nat => a + b * (j : Int))) w) := by
  have k0 : Below w.heap.size w (w.alloc (.cells #[.int .i8 a, .int .i8 b, .int .i8 c] 26)) := (Below.refl _ _).alloc (Nat.le_refl _) _
  have hlt := hr.lt
  have hv := fun W => ValidStrip_any a b c ha ha' hb hb' hc hc' W
  have hk := fun W hr => ValidCurve_any g n cap xs ys hn hs W hr
  have hp := fun W => isDensity_any d W
  rcases h : okT a b c with _ | _
  · rw [bnd_1 h, lenC_1]
    rw [h] at hv
    have Hv := Lib.hid hv; clear hv h
    generalize bndV n xs ys d (fun j : Nat => a + b * (j : Int)) = F
    go_enter Tryz.func40, Tryz.ntmps40
    go_wp2_with fail
    refine (Hv.out _).mono ?_; rintro e w1 ⟨rfl, hb1⟩
    have k1 := k0.trans (hb1.mono k0.size)
    have ce := (hE.below k1 (Nat.le_refl _)).c_einvalid
    go_wp2_with fail
    go_quiet (fail)
    go_wp2
    go_ret2
    exact ⟨_, _, .einvalid, rfl, .nil _ _ _ _ _ _ _ _, below_drewL k1 _⟩
  rw [h] at hv
  have Hv := Lib.hid hv; clear hv
  rcases h2 : validC n xs ys with _ | _
  · rw [bnd_1' h2, lenC_1]
    rw [h2] at hk
    have Hk := Lib.hid hk; clear hk h2 h
    generalize bndV n xs ys d (fun j : Nat => a + b * (j : Int)) = F
    go_enter Tryz.func40, Tryz.ntmps40
    go_wp2_with fail
    refine (Hv.out _).mono ?_; rintro e w1 ⟨rfl, hb1⟩
    have k1 := k0.trans (hb1.mono k0.size)
    go_wp2_with fail
    refine (Hk.out _ (hr.below k1 hlt)).mono ?_; rintro e w2 ⟨rfl, hb2⟩
    have k2 := k1.trans (hb2.mono k1.size)
    have ce := (hE.below k2 (Nat.le_refl _)).c_einvalid
    go_wp2_with fail
    go_quiet (fail)
    go_wp2
    go_ret2
    exact ⟨_, _, .einvalid, rfl, .nil _ _ _ _ _ _ _ _, below_drewL k2 _⟩
  rw [h2] at hk
  have Hk := Lib.hid hk; clear hk
  rcases h3 : inB d 0 400 with _ | _
  · rw [bnd_2 h h2 h3, lenC_2]
    rw [h3] at hp
    have Hp := Lib.hid hp; clear hp h2 h h3
    generalize bndV n xs ys d (fun j : Nat => a + b * (j : Int)) = F
    go_enter Tryz.func40, Tryz.ntmps40
    go_wp2_with fail
    refine (Hv.out _).mono ?_; rintro e w1 ⟨rfl, hb1⟩
    have k1 := k0.trans (hb1.mono k0.size)
    go_wp2_with fail
    refine (Hk.out _ (hr.below k1 hlt)).mono ?_; rintro e w2 ⟨rfl, hb2⟩
    have k2 := k1.trans (hb2.mono k1.size)
    go_wp2_with fail
    refine (Hp.out _).mono ?_; rintro e w3 ⟨rfl, rfl⟩
    have ce := (hE.below k2 (Nat.le_refl _)).c_erange
    go_wp2_with fail
    go_quiet (fail)
    go_wp2
    go_ret2
    exact ⟨_, _, .erange, rfl, .nil _ _ _ _ _ _ _ _, below_drewL k2 _⟩
  rw [bnd_0 h h2 h3, lenC_0]
  rw [h3] at hp
  have Hp := Lib.hid hp; clear hp
  have hdb := inB_true.1 h3
  have hl := fun W => stLights_any a b c (okT_ok h) W
  have hbd : ∀ (k : Nat), (k : Int) < c → 0 ≤ (fun j : Nat => a + b * (j : Int)) k ∧ (fun j : Nat => a + b * (j : Int)) k ≤ 36 := fun (k : Nat) (hk : (k : Int) < c) => (okT_ok h).light (k := k) (by omega) hk
  have hc1 := (okT_ok h).c1
  have hc0 := (okT_ok h).c0
  have hsh := fun W hW => shadesOf_any g n cap xs ys d hn (validC_crv h2).1 hdb.1 hdb.2 W hW
  have hX : ∀ (L : Nat → Int) j, bndV n xs ys d L j = shdF n xs ys d (L j).toNat := fun _ _ => rfl
  unfold bndV
  generalize shdF n xs ys d = f at *
  generalize (fun j : Nat => a + b * (j : Int)) = F at *
  have hba := fun gg cp W hW => bandsAt_any f gg c.toNat cp F (by omega) (by omega) (fun j hj => hbd j (by omega)) W hW
  have Hl := Lib.hid hl; clear hl
  have Hsh := Lib.hid hsh; clear hsh
  have Hba := Lib.hid hba; clear hba hX hbd h h2 h3
  go_enter Tryz.func40, Tryz.ntmps40
  go_wp2_with fail
  refine (Hv.out _).mono ?_; rintro e w1 ⟨rfl, hb1⟩
  have k1 := k0.trans (hb1.mono k0.size)
  go_wp2_with fail
  refine (Hk.out _ (hr.below k1 hlt)).mono ?_; rintro e w2 ⟨rfl, hb2⟩
  have k2 := k1.trans (hb2.mono k1.size)
  go_wp2_with fail
  refine (Hp.out _).mono ?_; rintro e w3 ⟨rfl, rfl⟩
  go_wp2_with fail
  refine (Hsh.out _ (hr.below k2 hlt)).mono ?_; rintro e w4 ⟨rfl, hb4⟩
  have k4 := k2.trans (hb4.mono k2.size)
  have z4 := k4.size
  go_wp2_with fail
  refine (Hl.out _).mono ?_; rintro e w5 ⟨gg, cp, rfl, hg, hrow, hb5⟩
  have k5 := k4.trans (hb5.mono k4.size)
  have z5 := k5.size
  go_wp2_with fail
  refine (Hba.out _ _ _ hrow).mono ?_; rintro e w6 ⟨gh, cq, rfl, hg6, hrow6, hb6⟩
  go_wp2_with fail
  go_ret2
  exact ⟨_, _, .ok, rfl, mine_irow hrow6 (by omega), k5.trans (hb6.mono k5.size)⟩

set_option maxRecDepth 100000 in
set_option maxHeartbeats 2000000 in
theorem BandsOf_any (s : Ers) (a b c : Int) (ha : -128 ≤ a) (ha' : a ≤ 127) (hb : -128 ≤ b) (hb' : b ≤ 127) (hc : -128 ≤ c) (hc' : c ≤ 127) (g n cap : Nat) (xs ys : Nat → Int) (d : Int) (hn : n ≤ 1048576) (hs : SmallP n xs ys) (w : World) (hr : PtRow w g n xs ys) (hE : ErrEnv s w) :
    Calls Tryz.prog 13 #[stV a b c, .slice (some ⟨g, 0, none⟩) n cap, .int .i64 d] w (LstC (bndC a b c n xs ys d) (lenC (bndC a b c n xs ys d) c.toNat) (bndV n xs ys d (fun j : Nat => a + b * (j : Int))) w) := by
  have k0 : Below w.heap.size w (w.alloc (.cells #[.int .i8 a, .int .i8 b, .int .i8 c] 26)) := (Below.refl _ _).alloc (Nat.le_refl _) _
  have hl := bandsByL_any s a b c ha ha' hb hb' hc hc' g n cap xs ys d hn hs _ (hr.below k0 hr.lt) (hE.below k0 (Nat.le_refl _))
  unfold LstE at hl
  generalize lenC (bndC a b c n xs ys d) c.toNat = N at *
  generalize bndC a b c n xs ys d = C at *
  generalize bndV n xs ys d (fun j : Nat => a + b * (j : Int)) = F at *
  have Hl := Lib.hid hl; clear hl
  go_enter Tryz.func13, Tryz.ntmps13
  go_wp2_with fail
  refine Hl.out.mono ?_; rintro e w1 ⟨v, x, hx, rfl, hm, hb1⟩
  have k1 := k0.trans (hb1.mono k0.size)
  obtain ⟨A, cap, rfl, hm⟩ := hm
  go_wp2_with fail
  refine (codedInts_any hx _ _ _ _ (hE.below k1 (Nat.le_refl _))).mono ?_; rintro e w2 ⟨rfl, rfl⟩
  go_wp2_with fail
  go_ret2
  exact ⟨_, rfl, Mine.mono ⟨A, cap, rfl, hm⟩ k0.size (Nat.le_refl _), k1⟩

set_option maxRecDepth 100000 in
set_option maxHeartbeats 4000000 in
theorem l05Bands_false (a b c : Int) (ha : -128 ≤ a) (ha' : a ≤ 127) (hb : -128 ≤ b) (hb' : b ≤ 127) (hc : -128 ≤ c) (hc' : c ≤ 127) (g n cap : Nat) (xs ys : Nat → Int) (d : Int) (hn : n ≤ 1048576) (hs : SmallP n xs ys) (w : World) (hr : PtRow w g n xs ys) :
    Calls Tryz.prog 41 #[stV a b c, .slice (some ⟨g, 0, none⟩) n cap, .int .i64 d, .bool false] w (LstC (bndC a b c n xs ys d) (lenC (bndC a b c n xs ys d) c.toNat) (bndV n xs ys d (fun j : Nat => a + b * (j : Int))) w) := by
  have k0 : Below w.heap.size w (w.alloc (.cells #[.int .i8 a, .int .i8 b, .int .i8 c] 26)) := (Below.refl _ _).alloc (Nat.le_refl _) _
  have S0 := StAt.new w 26 a b c
  have hlt := hr.lt
  have hv := fun W => l05Ok_any a b c ha ha' hb hb' hc hc' W
  have hk := fun W hr => l02Ok_any g n cap xs ys hn hs W hr
  have hp := fun W => l02Density_any d W
  rcases h : okT a b c with _ | _
  · rw [bnd_1 h, lenC_1]
    rw [h] at hv
    have Hv := Lib.hid hv; clear hv h
    generalize bndV n xs ys d (fun j : Nat => a + b * (j : Int)) = F
    go_enter Tryz.func41, Tryz.ntmps41
    go_wp2_with fail
    refine (Hv.out _).mono ?_; rintro e w1 ⟨rfl, hb1⟩
    have k1 := k0.trans (hb1.mono k0.size)
    go_wp2_with fail
    go_ret2
    exact ⟨_, rfl, .nil _ _ _ _ _ _ _ _, k1.alloc k1.size _⟩
  rw [h] at hv
  have Hv := Lib.hid hv; clear hv
  rcases h2 : validC n xs ys with _ | _
  · rw [bnd_1' h2, lenC_1]
    rw [h2] at hk
    have Hk := Lib.hid hk; clear hk h2 h
    generalize bndV n xs ys d (fun j : Nat => a + b * (j : Int)) = F
    go_enter Tryz.func41, Tryz.ntmps41
    go_wp2_with fail
    refine (Hv.out _).mono ?_; rintro e w1 ⟨rfl, hb1⟩
    have k1 := k0.trans (hb1.mono k0.size)
    go_wp2_with fail
    refine (Hk.out _ (hr.below k1 hlt)).mono ?_; rintro e w2 ⟨rfl, hb2⟩
    have k2 := k1.trans (hb2.mono k1.size)
    go_wp2_with fail
    go_ret2
    exact ⟨_, rfl, .nil _ _ _ _ _ _ _ _, k2.alloc k2.size _⟩
  rw [h2] at hk
  have Hk := Lib.hid hk; clear hk
  rcases h3 : inB d 0 400 with _ | _
  · rw [bnd_2 h h2 h3, lenC_2]
    rw [h3] at hp
    have Hp := Lib.hid hp; clear hp h2 h h3
    generalize bndV n xs ys d (fun j : Nat => a + b * (j : Int)) = F
    go_enter Tryz.func41, Tryz.ntmps41
    go_wp2_with fail
    refine (Hv.out _).mono ?_; rintro e w1 ⟨rfl, hb1⟩
    have k1 := k0.trans (hb1.mono k0.size)
    go_wp2_with fail
    refine (Hk.out _ (hr.below k1 hlt)).mono ?_; rintro e w2 ⟨rfl, hb2⟩
    have k2 := k1.trans (hb2.mono k1.size)
    go_wp2_with fail
    refine (Hp.out _).mono ?_; rintro e w3 ⟨rfl, rfl⟩
    go_wp2_with fail
    go_ret2
    exact ⟨_, rfl, .nil _ _ _ _ _ _ _ _, k2.alloc k2.size _⟩
  rw [bnd_0 h h2 h3, lenC_0]
  rw [h3] at hp
  have Hp := Lib.hid hp; clear hp
  have hdb := inB_true.1 h3
  have hl0 := fun W => l05Lights_any a b c (okT_ok h) W
  have hl := fun W => l05Lights_any a b c (okT_ok h) W
  have hbd : ∀ (k : Nat), (k : Int) < c → 0 ≤ (fun j : Nat => a + b * (j : Int)) k ∧ (fun j : Nat => a + b * (j : Int)) k ≤ 36 := fun (k : Nat) (hk : (k : Int) < c) => (okT_ok h).light (k := k) (by omega) hk
  have hc1 := (okT_ok h).c1
  have hc0 := (okT_ok h).c0
  have hdk := fun (x : Int) (hx : 0 ≤ x) (hx' : x ≤ 36) W hW => l05Dark_any g n cap xs ys d x hn (validC_crv h2).1 hdb.1 hdb.2 (by omega) (by omega) W hW
  generalize hF : (fun j : Nat => a + b * (j : Int)) = F at *
  have hX := fun (k : Nat) (hk : 0 ≤ F k) => bndV_dark (n := n) (xs := xs) (ys := ys) (d := d) (L := F) (j := k) hk
  generalize bndV n xs ys d F = X at *
  generalize darkV n xs ys d = dk at *
  have Hl0 := Lib.hid hl0; clear hl0
  have Hl := Lib.hid hl; clear hl
  have Hdk := Lib.hid hdk; clear hdk
  have HX := Lib.hid hX; clear hX
  have Hbd := Lib.hid hbd; clear hbd h h2 h3 hF
  go_enter Tryz.func41, Tryz.ntmps41
  go_wp2_with fail
  refine (Hv.out _).mono ?_; rintro e w1 ⟨rfl, hb1⟩
  have k1 := k0.trans (hb1.mono k0.size)
  have S1 := S0.below hb1 S0.lt
  go_wp2_with fail
  refine (Hk.out _ (hr.below k1 hlt)).mono ?_; rintro e w2 ⟨rfl, hb2⟩
  have k2 := k1.trans (hb2.mono k1.size)
  have S2 := S1.below hb2 S1.lt
  go_wp2_with fail
  refine (Hp.out _).mono ?_; rintro e w3 ⟨rfl, rfl⟩
  have S9 := S2
  obtain ⟨s0, s1, s2⟩ := S9
  have z2 := k2.size
  go_wp2_with fail
  refine (Hl0.out _).mono ?_; rintro e w4 ⟨g4, cp4, rfl, hg4, hrow, hb4⟩
  have k4 := k2.trans (hb4.mono k2.size)
  have z4 := k4.size
  clear s0 s1 s2 S2 S1 S0
  have hgw : w.heap.size ≤ g4 := by omega
  go_wp2_with fail
  go_loopw [11] (fun iv wr => ∃ k : Nat, iv = .int .i64 k ∧ (k : Int) ≤ c ∧ IRow wr g4 c.toNat (mixC F X k) ∧ Below w.heap.size w wr) (fun iv _ => (c - intOf iv).toNat)
  case atStart => exact ⟨0, rfl, by omega, hrow.congr (fun j _ => by simp [mixC]), k4⟩
  case round =>
    clear hrow k4
    obtain ⟨k, rfl, hk, hrow, k4⟩ := hrel
    by_cases hkc : (k : Int) < c
    rotate_left
    · have e : c.toNat = k := by omega
      rw [e] at hrow ⊢
      have hx : ¬ (k : Int) < (c.toNat : Int) := by omega
      go_wp2_with fail
      go_ret2
      exact ⟨_, rfl, mine_irow (hrow.congr (ys := X) (fun j hj => by simp [mixC, hj])) (by omega), k4⟩
    have hfk := Hbd.out k hkc
    have hxk := HX.out k hfk.1
    have c1 := hrow.cell (k := k) (by omega)
    rw [mixC_at] at c1
    have kn : (k : Int) < (c.toNat : Int) := by omega
    have hst := fun (W : World) (h : IRow W g4 c.toNat (mixC F X k)) => (h.set (k := k) (by omega) (X k)).congr (fun j _ => mixC_step F X k j)
    have hdk := Hdk.out (F k) hfk.1 hfk.2 wr (hr.below k4 hlt)
    rw [← hxk] at hdk
    clear hxk
    generalize F k = Y at *
    generalize X k = V at *
    have Hdk1 := Lib.hid hdk; clear hdk
    have Hst := Lib.hid hst; clear hst
    go_wp2_with fail
    refine Hdk1.out.mono ?_; rintro x w6 ⟨rfl, hb6⟩
    have k6 := k4.trans (hb6.mono k4.size)
    have row6 := hrow.below hb6 hrow.lt
    have c4 := row6.cell (k := k) (by omega)
    have f4 := row6.free k
    clear hb6 k4 hrow c1
    have KK := Lib.hid (And.intro (Hst.out _ row6) (k6.setCell (p := ⟨g4, k, none⟩) hgw (.int .i64 V)))
    clear row6 k6
    go_wp2_with fail
    go_roundw
    case rel => exact ⟨k + 1, by go_num, by omega, KK.out.1, KK.out.2⟩
    case measure => simp [intOf]; omega

set_option maxRecDepth 100000 in
set_option maxHeartbeats 2000000 in
theorem specBandsOf_any (a b c : Int) (ha : -128 ≤ a) (ha' : a ≤ 127) (hb : -128 ≤ b) (hb' : b ≤ 127) (hc : -128 ≤ c) (hc' : c ≤ 127) (g n cap : Nat) (xs ys : Nat → Int) (d : Int) (hn : n ≤ 1048576) (hs : SmallP n xs ys) (w : World) (hr : PtRow w g n xs ys) :
    Calls Tryz.prog 14 #[stV a b c, .slice (some ⟨g, 0, none⟩) n cap, .int .i64 d] w (LstC (bndC a b c n xs ys d) (lenC (bndC a b c n xs ys d) c.toNat) (bndV n xs ys d (fun j : Nat => a + b * (j : Int))) w) := by
  have k0 : Below w.heap.size w (w.alloc (.cells #[.int .i8 a, .int .i8 b, .int .i8 c] 26)) := (Below.refl _ _).alloc (Nat.le_refl _) _
  have hl := l05Bands_false a b c ha ha' hb hb' hc hc' g n cap xs ys d hn hs _ (hr.below k0 hr.lt)
  unfold LstC at hl
  generalize lenC (bndC a b c n xs ys d) c.toNat = N at *
  generalize bndC a b c n xs ys d = C at *
  generalize bndV n xs ys d (fun j : Nat => a + b * (j : Int)) = F at *
  have Hl := Lib.hid hl; clear hl
  go_enter Tryz.func14, Tryz.ntmps14
  go_wp2_with fail
  refine Hl.out.mono ?_; rintro e w1 ⟨v, rfl, hm, hb1⟩
  go_wp2_with fail
  go_ret2
  exact ⟨_, rfl, hm.mono k0.size (Nat.le_refl _), k0.trans (hb1.mono k0.size)⟩

set_option maxRecDepth 100000 in
set_option maxHeartbeats 4000000 in
theorem bandsByC_any (s : Ers) (a b c : Int) (ha : -128 ≤ a) (ha' : a ≤ 127) (hb : -128 ≤ b) (hb' : b ≤ 127) (hc : -128 ≤ c) (hc' : c ≤ 127) (g n cap : Nat) (xs ys : Nat → Int) (d : Int) (hn : n ≤ 1048576) (hs : SmallP n xs ys) (w : World) (hr : PtRow w g n xs ys) (hT : TimEnv w) (hE : ErrEnv s w) :
    Calls Tryz.prog 40 #[stV a b c, .func (.func 37) #[stV a b c] #[], .slice (some ⟨g, 0, none⟩) n cap, .int .i64 d] w (LstE s (bndC a b c n xs ys d) (lenC (bndC a b c n xs ys d) c.toNat) (bndV n xs ys d (covT a b)) w) := by
  have k0 : Below w.heap.size w (w.alloc (.cells #[.int .i8 a, .int .i8 b, .int .i8 c] 26)) := (Below.refl _ _).alloc (Nat.le_refl _) _
  have hlt := hr.lt
  have hv := fun W => ValidStrip_any a b c ha ha' hb hb' hc hc' W
  have hk := fun W hr => ValidCurve_any g n cap xs ys hn hs W hr
  have hp := fun W => isDensity_any d W
  rcases h : okT a b c with _ | _
  · rw [bnd_1 h, lenC_1]
    rw [h] at hv
    have Hv := Lib.hid hv; clear hv h
    generalize bndV n xs ys d (covT a b) = F
    go_enter Tryz.func40, Tryz.ntmps40
    go_wp2_with fail
    refine (Hv.out _).mono ?_; rintro e w1 ⟨rfl, hb1⟩
    have k1 := k0.trans (hb1.mono k0.size)
    have ce := (hE.below k1 (Nat.le_refl _)).c_einvalid
    go_wp2_with fail
    go_quiet (fail)
    go_wp2
    go_ret2
    exact ⟨_, _, .einvalid, rfl, .nil _ _ _ _ _ _ _ _, below_drewL k1 _⟩
  rw [h] at hv
  have Hv := Lib.hid hv; clear hv
  rcases h2 : validC n xs ys with _ | _
  · rw [bnd_1' h2, lenC_1]
    rw [h2] at hk
    have Hk := Lib.hid hk; clear hk h2 h
    generalize bndV n xs ys d (covT a b) = F
    go_enter Tryz.func40, Tryz.ntmps40
    go_wp2_with fail
    refine (Hv.out _).mono ?_; rintro e w1 ⟨rfl, hb1⟩
    have k1 := k0.trans (hb1.mono k0.size)
    go_wp2_with fail
    refine (Hk.out _ (hr.below k1 hlt)).mono ?_; rintro e w2 ⟨rfl, hb2⟩
    have k2 := k1.trans (hb2.mono k1.size)
    have ce := (hE.below k2 (Nat.le_refl _)).c_einvalid
    go_wp2_with fail
    go_quiet (fail)
    go_wp2
    go_ret2
    exact ⟨_, _, .einvalid, rfl, .nil _ _ _ _ _ _ _ _, below_drewL k2 _⟩
  rw [h2] at hk
  have Hk := Lib.hid hk; clear hk
  rcases h3 : inB d 0 400 with _ | _
  · rw [bnd_2 h h2 h3, lenC_2]
    rw [h3] at hp
    have Hp := Lib.hid hp; clear hp h2 h h3
    generalize bndV n xs ys d (covT a b) = F
    go_enter Tryz.func40, Tryz.ntmps40
    go_wp2_with fail
    refine (Hv.out _).mono ?_; rintro e w1 ⟨rfl, hb1⟩
    have k1 := k0.trans (hb1.mono k0.size)
    go_wp2_with fail
    refine (Hk.out _ (hr.below k1 hlt)).mono ?_; rintro e w2 ⟨rfl, hb2⟩
    have k2 := k1.trans (hb2.mono k1.size)
    go_wp2_with fail
    refine (Hp.out _).mono ?_; rintro e w3 ⟨rfl, rfl⟩
    have ce := (hE.below k2 (Nat.le_refl _)).c_erange
    go_wp2_with fail
    go_quiet (fail)
    go_wp2
    go_ret2
    exact ⟨_, _, .erange, rfl, .nil _ _ _ _ _ _ _ _, below_drewL k2 _⟩
  rw [bnd_0 h h2 h3, lenC_0]
  rw [h3] at hp
  have Hp := Lib.hid hp; clear hp
  have hdb := inB_true.1 h3
  have hl := fun W hT hE => stCovered_any s a b c (okT_ok h) W hT hE
  have hbd : ∀ (k : Nat), (k : Int) < c → 0 ≤ (covT a b) k ∧ (covT a b) k ≤ 36 := fun (k : Nat) (hk : (k : Int) < c) => (okT_ok h).cov (k := k) hk
  have hc1 := (okT_ok h).c1
  have hc0 := (okT_ok h).c0
  have hsh := fun W hW => shadesOf_any g n cap xs ys d hn (validC_crv h2).1 hdb.1 hdb.2 W hW
  have hX : ∀ (L : Nat → Int) j, bndV n xs ys d L j = shdF n xs ys d (L j).toNat := fun _ _ => rfl
  unfold bndV
  generalize shdF n xs ys d = f at *
  generalize (covT a b) = F at *
  have hba := fun gg cp W hW => bandsAt_any f gg c.toNat cp F (by omega) (by omega) (fun j hj => hbd j (by omega)) W hW
  have Hl := Lib.hid hl; clear hl
  have Hsh := Lib.hid hsh; clear hsh
  have Hba := Lib.hid hba; clear hba hX hbd h h2 h3
  go_enter Tryz.func40, Tryz.ntmps40
  go_wp2_with fail
  refine (Hv.out _).mono ?_; rintro e w1 ⟨rfl, hb1⟩
  have k1 := k0.trans (hb1.mono k0.size)
  go_wp2_with fail
  refine (Hk.out _ (hr.below k1 hlt)).mono ?_; rintro e w2 ⟨rfl, hb2⟩
  have k2 := k1.trans (hb2.mono k1.size)
  go_wp2_with fail
  refine (Hp.out _).mono ?_; rintro e w3 ⟨rfl, rfl⟩
  go_wp2_with fail
  refine (Hsh.out _ (hr.below k2 hlt)).mono ?_; rintro e w4 ⟨rfl, hb4⟩
  have k4 := k2.trans (hb4.mono k2.size)
  have z4 := k4.size
  go_wp2_with fail
  refine (Hl.out _ (hT.below k4 (Nat.le_refl _)) (hE.below k4 (Nat.le_refl _))).mono ?_; rintro e w5 ⟨gg, cp, rfl, hg, hrow, hb5⟩
  have k5 := k4.trans (hb5.mono k4.size)
  have z5 := k5.size
  go_wp2_with fail
  refine (Hba.out _ _ _ hrow).mono ?_; rintro e w6 ⟨gh, cq, rfl, hg6, hrow6, hb6⟩
  go_wp2_with fail
  go_ret2
  exact ⟨_, _, .ok, rfl, mine_irow hrow6 (by omega), k5.trans (hb6.mono k5.size)⟩

set_option maxRecDepth 100000 in
set_option maxHeartbeats 2000000 in
theorem CoveredBands_any (s : Ers) (a b c : Int) (ha : -128 ≤ a) (ha' : a ≤ 127) (hb : -128 ≤ b) (hb' : b ≤ 127) (hc : -128 ≤ c) (hc' : c ≤ 127) (g n cap : Nat) (xs ys : Nat → Int) (d : Int) (hn : n ≤ 1048576) (hs : SmallP n xs ys) (w : World) (hr : PtRow w g n xs ys) (hT : TimEnv w) (hE : ErrEnv s w) :
    Calls Tryz.prog 15 #[stV a b c, .slice (some ⟨g, 0, none⟩) n cap, .int .i64 d] w (LstC (bndC a b c n xs ys d) (lenC (bndC a b c n xs ys d) c.toNat) (bndV n xs ys d (covT a b)) w) := by
  have k0 : Below w.heap.size w (w.alloc (.cells #[.int .i8 a, .int .i8 b, .int .i8 c] 26)) := (Below.refl _ _).alloc (Nat.le_refl _) _
  have hl := bandsByC_any s a b c ha ha' hb hb' hc hc' g n cap xs ys d hn hs _ (hr.below k0 hr.lt) (hT.below k0 (Nat.le_refl _)) (hE.below k0 (Nat.le_refl _))
  unfold LstE at hl
  generalize lenC (bndC a b c n xs ys d) c.toNat = N at *
  generalize bndC a b c n xs ys d = C at *
  generalize bndV n xs ys d (covT a b) = F at *
  have Hl := Lib.hid hl; clear hl
  go_enter Tryz.func15, Tryz.ntmps15
  go_wp2_with fail
  refine Hl.out.mono ?_; rintro e w1 ⟨v, x, hx, rfl, hm, hb1⟩
  have k1 := k0.trans (hb1.mono k0.size)
  obtain ⟨A, cap, rfl, hm⟩ := hm
  go_wp2_with fail
  refine (codedInts_any hx _ _ _ _ (hE.below k1 (Nat.le_refl _))).mono ?_; rintro e w2 ⟨rfl, rfl⟩
  go_wp2_with fail
  go_ret2
  exact ⟨_, rfl, Mine.mono ⟨A, cap, rfl, hm⟩ k0.size (Nat.le_refl _), k1⟩

set_option maxRecDepth 100000 in
set_option maxHeartbeats 4000000 in
theorem l05Bands_true (a b c : Int) (ha : -128 ≤ a) (ha' : a ≤ 127) (hb : -128 ≤ b) (hb' : b ≤ 127) (hc : -128 ≤ c) (hc' : c ≤ 127) (g n cap : Nat) (xs ys : Nat → Int) (d : Int) (hn : n ≤ 1048576) (hs : SmallP n xs ys) (w : World) (hr : PtRow w g n xs ys) :
    Calls Tryz.prog 41 #[stV a b c, .slice (some ⟨g, 0, none⟩) n cap, .int .i64 d, .bool true] w (LstC (bndC a b c n xs ys d) (lenC (bndC a b c n xs ys d) c.toNat) (bndV n xs ys d (covT a b)) w) := by
  have k0 : Below w.heap.size w (w.alloc (.cells #[.int .i8 a, .int .i8 b, .int .i8 c] 26)) := (Below.refl _ _).alloc (Nat.le_refl _) _
  have S0 := StAt.new w 26 a b c
  have hlt := hr.lt
  have hv := fun W => l05Ok_any a b c ha ha' hb hb' hc hc' W
  have hk := fun W hr => l02Ok_any g n cap xs ys hn hs W hr
  have hp := fun W => l02Density_any d W
  rcases h : okT a b c with _ | _
  · rw [bnd_1 h, lenC_1]
    rw [h] at hv
    have Hv := Lib.hid hv; clear hv h
    generalize bndV n xs ys d (covT a b) = F
    go_enter Tryz.func41, Tryz.ntmps41
    go_wp2_with fail
    refine (Hv.out _).mono ?_; rintro e w1 ⟨rfl, hb1⟩
    have k1 := k0.trans (hb1.mono k0.size)
    go_wp2_with fail
    go_ret2
    exact ⟨_, rfl, .nil _ _ _ _ _ _ _ _, k1.alloc k1.size _⟩
  rw [h] at hv
  have Hv := Lib.hid hv; clear hv
  rcases h2 : validC n xs ys with _ | _
  · rw [bnd_1' h2, lenC_1]
    rw [h2] at hk
    have Hk := Lib.hid hk; clear hk h2 h
    generalize bndV n xs ys d (covT a b) = F
    go_enter Tryz.func41, Tryz.ntmps41
    go_wp2_with fail
    refine (Hv.out _).mono ?_; rintro e w1 ⟨rfl, hb1⟩
    have k1 := k0.trans (hb1.mono k0.size)
    go_wp2_with fail
    refine (Hk.out _ (hr.below k1 hlt)).mono ?_; rintro e w2 ⟨rfl, hb2⟩
    have k2 := k1.trans (hb2.mono k1.size)
    go_wp2_with fail
    go_ret2
    exact ⟨_, rfl, .nil _ _ _ _ _ _ _ _, k2.alloc k2.size _⟩
  rw [h2] at hk
  have Hk := Lib.hid hk; clear hk
  rcases h3 : inB d 0 400 with _ | _
  · rw [bnd_2 h h2 h3, lenC_2]
    rw [h3] at hp
    have Hp := Lib.hid hp; clear hp h2 h h3
    generalize bndV n xs ys d (covT a b) = F
    go_enter Tryz.func41, Tryz.ntmps41
    go_wp2_with fail
    refine (Hv.out _).mono ?_; rintro e w1 ⟨rfl, hb1⟩
    have k1 := k0.trans (hb1.mono k0.size)
    go_wp2_with fail
    refine (Hk.out _ (hr.below k1 hlt)).mono ?_; rintro e w2 ⟨rfl, hb2⟩
    have k2 := k1.trans (hb2.mono k1.size)
    go_wp2_with fail
    refine (Hp.out _).mono ?_; rintro e w3 ⟨rfl, rfl⟩
    go_wp2_with fail
    go_ret2
    exact ⟨_, rfl, .nil _ _ _ _ _ _ _ _, k2.alloc k2.size _⟩
  rw [bnd_0 h h2 h3, lenC_0]
  rw [h3] at hp
  have Hp := Lib.hid hp; clear hp
  have hdb := inB_true.1 h3
  have hl0 := fun W => l05Lights_any a b c (okT_ok h) W
  have hl := fun W => l05Covered_any a b c (okT_ok h) W
  have hbd : ∀ (k : Nat), (k : Int) < c → 0 ≤ (covT a b) k ∧ (covT a b) k ≤ 36 := fun (k : Nat) (hk : (k : Int) < c) => (okT_ok h).cov (k := k) hk
  have hc1 := (okT_ok h).c1
  have hc0 := (okT_ok h).c0
  have hdk := fun (x : Int) (hx : 0 ≤ x) (hx' : x ≤ 36) W hW => l05Dark_any g n cap xs ys d x hn (validC_crv h2).1 hdb.1 hdb.2 (by omega) (by omega) W hW
  generalize hF : (covT a b) = F at *
  have hX := fun (k : Nat) (hk : 0 ≤ F k) => bndV_dark (n := n) (xs := xs) (ys := ys) (d := d) (L := F) (j := k) hk
  generalize bndV n xs ys d F = X at *
  generalize darkV n xs ys d = dk at *
  have Hl0 := Lib.hid hl0; clear hl0
  have Hl := Lib.hid hl; clear hl
  have Hdk := Lib.hid hdk; clear hdk
  have HX := Lib.hid hX; clear hX
  have Hbd := Lib.hid hbd; clear hbd h h2 h3 hF
  go_enter Tryz.func41, Tryz.ntmps41
  go_wp2_with fail
  refine (Hv.out _).mono ?_; rintro e w1 ⟨rfl, hb1⟩
  have k1 := k0.trans (hb1.mono k0.size)
  have S1 := S0.below hb1 S0.lt
  go_wp2_with fail
  refine (Hk.out _ (hr.below k1 hlt)).mono ?_; rintro e w2 ⟨rfl, hb2⟩
  have k2 := k1.trans (hb2.mono k1.size)
  have S2 := S1.below hb2 S1.lt
  go_wp2_with fail
  refine (Hp.out _).mono ?_; rintro e w3 ⟨rfl, rfl⟩
  have S9 := S2
  obtain ⟨s0, s1, s2⟩ := S9
  have z2 := k2.size
  go_wp2_with fail
  refine (Hl0.out _).mono ?_; rintro e w4 ⟨g4, cp4, rfl, hg4, hrow, hb4⟩
  have k4 := k2.trans (hb4.mono k2.size)
  have z4 := k4.size
  clear s0 s1 s2
  have S4 := S2.below hb4 S2.lt
  obtain ⟨s0, s1, s2⟩ := S4
  clear hrow hg4
  go_wp2_with fail
  refine (Hl.out _).mono ?_; rintro e w5 ⟨g4, cp4, rfl, hg4, hrow, hb5⟩
  have k4 := k4.trans (hb5.mono k4.size)
  clear s0 s1 s2 S2 S1 S0
  have hgw : w.heap.size ≤ g4 := by omega
  go_wp2_with fail
  go_loopw [11] (fun iv wr => ∃ k : Nat, iv = .int .i64 k ∧ (k : Int) ≤ c ∧ IRow wr g4 c.toNat (mixC F X k) ∧ Below w.heap.size w wr) (fun iv _ => (c - intOf iv).toNat)
  case atStart => exact ⟨0, rfl, by omega, hrow.congr (fun j _ => by simp [mixC]), k4⟩
  case round =>
    clear hrow k4
    obtain ⟨k, rfl, hk, hrow, k4⟩ := hrel
    by_cases hkc : (k : Int) < c
    rotate_left
    · have e : c.toNat = k := by omega
      rw [e] at hrow ⊢
      have hx : ¬ (k : Int) < (c.toNat : Int) := by omega
      go_wp2_with fail
      go_ret2
      exact ⟨_, rfl, mine_irow (hrow.congr (ys := X) (fun j hj => by simp [mixC, hj])) (by omega), k4⟩
    have hfk := Hbd.out k hkc
    have hxk := HX.out k hfk.1
    have c1 := hrow.cell (k := k) (by omega)
    rw [mixC_at] at c1
    have kn : (k : Int) < (c.toNat : Int) := by omega
    have hst := fun (W : World) (h : IRow W g4 c.toNat (mixC F X k)) => (h.set (k := k) (by omega) (X k)).congr (fun j _ => mixC_step F X k j)
    have hdk := Hdk.out (F k) hfk.1 hfk.2 wr (hr.below k4 hlt)
    rw [← hxk] at hdk
    clear hxk
    generalize F k = Y at *
    generalize X k = V at *
    have Hdk1 := Lib.hid hdk; clear hdk
    have Hst := Lib.hid hst; clear hst
    go_wp2_with fail
    refine Hdk1.out.mono ?_; rintro x w6 ⟨rfl, hb6⟩
    have k6 := k4.trans (hb6.mono k4.size)
    have row6 := hrow.below hb6 hrow.lt
    have c4 := row6.cell (k := k) (by omega)
    have f4 := row6.free k
    clear hb6 k4 hrow c1
    have KK := Lib.hid (And.intro (Hst.out _ row6) (k6.setCell (p := ⟨g4, k, none⟩) hgw (.int .i64 V)))
    clear row6 k6
    go_wp2_with fail
    go_roundw
    case rel => exact ⟨k + 1, by go_num, by omega, KK.out.1, KK.out.2⟩
    case measure => simp [intOf]; omega

set_option maxRecDepth 100000 in
set_option maxHeartbeats 2000000 in
theorem specCoveredBands_any (a b c : Int) (ha : -128 ≤ a) (ha' : a ≤ 127) (hb : -128 ≤ b) (hb' : b ≤ 127) (hc : -128 ≤ c) (hc' : c ≤ 127) (g n cap : Nat) (xs ys : Nat → Int) (d : Int) (hn : n ≤ 1048576) (hs : SmallP n xs ys) (w : World) (hr : PtRow w g n xs ys) :
    Calls Tryz.prog 16 #[stV a b c, .slice (some ⟨g, 0, none⟩) n cap, .int .i64 d] w (LstC (bndC a b c n xs ys d) (lenC (bndC a b c n xs ys d) c.toNat) (bndV n xs ys d (covT a b)) w) := by
  have k0 : Below w.heap.size w (w.alloc (.cells #[.int .i8 a, .int .i8 b, .int .i8 c] 26)) := (Below.refl _ _).alloc (Nat.le_refl _) _
  have hl := l05Bands_true a b c ha ha' hb hb' hc hc' g n cap xs ys d hn hs _ (hr.below k0 hr.lt)
  unfold LstC at hl
  generalize lenC (bndC a b c n xs ys d) c.toNat = N at *
  generalize bndC a b c n xs ys d = C at *
  generalize bndV n xs ys d (covT a b) = F at *
  have Hl := Lib.hid hl; clear hl
  go_enter Tryz.func16, Tryz.ntmps16
  go_wp2_with fail
  refine Hl.out.mono ?_; rintro e w1 ⟨v, rfl, hm, hb1⟩
  go_wp2_with fail
  go_ret2
  exact ⟨_, rfl, hm.mono k0.size (Nat.le_refl _), k0.trans (hb1.mono k0.size)⟩

end Go.Proofs.YtnlcjbobfhmnmabGreatDoor

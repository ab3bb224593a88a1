/-
  The steps that a print wants, by the reference. Condition: at most 1048576 points, numbers of int16.
-/
import Derived.Test.YtnlcjbobfhmnmaaDoorStfP
import Derived.Test.YtnlcjbobfhmnmaaDoorPrnX
import Derived.Test.YtnlcjbobfhmnmaaDoorDodge
namespace Go.Proofs.YtnlcjbobfhmnmaaDoor
open Go.RowKit

theorem own_belowW {w w' : World} {base size n : Nat} {e : TypeId} {v : Value} {l : List Value} (h : w.ownsRow base e size v n l) (hb : Below w.heap.size w w') : w'.ownsRow base e size v n l :=
  h.kept (row := none) ⟨hb.os, hb.tape, hb.output, hb.size, fun i hi _ => hb.block i hi⟩ (by cases v.ownBlock <;> simp)
/-- Numbers of masks as bit vectors. -/
def bvJ (a : BitVec 64) : Int := (a.toNat : Int)
theorem bvJ_bd (a : BitVec 64) : 0 ≤ bvJ a ∧ bvJ a ≤ 18446744073709551615 := by
  have := a.isLt
  unfold bvJ; omega
theorem wrap_bvJ (a : BitVec 64) : IntKind.u64.wrap (bvJ a) = bvJ a := by
  have := bvJ_bd a
  rw [IntKind.wrap_u64]; omega
section
variable {P : Program} {ρ : Operand → Value} {o : Oper} {w : World} {T T2 : TypeId} {x y : Operand} {a b : BitVec 64} {κ : IntKind} {k : Nat}
theorem run_andNot_bvJ (ho : o.op = .binOp .andNot T x y T2) (hx : ρ x = .int .u64 (bvJ a)) (hy : ρ y = .int .u64 (bvJ b)) :
    (execOp ρ o).run P w = .ok (.value (.int .u64 (bvJ (a &&& ~~~b)))) w := by
  have hw := wrap_bvJ (a &&& ~~~b)
  unfold bvJ at *
  unfold execOp
  simp [ho, hx, hy, binOp, Op.intBits, IntKind.bits, eqGuard, -BitVec.toNat_and, -BitVec.toNat_or, -BitVec.toNat_not]
  exact hw
end
theorem notU_bvJ (a : BitVec 64) : bits .xor .u64 IntKind.u64.max (bvJ a) = bvJ (~~~a) := by
  have h1 : BitVec.ofInt 64 IntKind.u64.max = BitVec.allOnes 64 := by decide
  have h2 : BitVec.ofInt 64 (bvJ a) = a := by unfold bvJ; rw [BitVec.ofInt_natCast]; simp
  have h3 : BitVec.allOnes 64 ^^^ a = ~~~a := BitVec.eq_of_getLsbD_eq fun i hi => by rw [BitVec.getLsbD_xor, BitVec.getLsbD_not, BitVec.getLsbD_allOnes]; simp [hi]
  show IntKind.u64.wrap ((BitVec.ofInt 64 IntKind.u64.max ^^^ BitVec.ofInt 64 (bvJ a)).toNat : Int) = _
  rw [h1, h2, h3]
  exact wrap_bvJ (~~~a)
theorem run_not_bvJ {P : Program} {ρ : Operand → Value} {o : Oper} {w : World} {T : TypeId} {x : Operand} {a : BitVec 64} (ho : o.op = .unOp .xor T x) (hx : ρ x = .int .u64 (bvJ a)) :
    (execOp ρ o).run P w = .ok (.value (.int .u64 (bvJ (~~~a)))) w := by
  have hw := notU_bvJ a
  unfold execOp
  simp [ho, hx, go_sem]
  exact hw

set_option maxRecDepth 100000 in
set_option maxHeartbeats 4000000 in

theorem bvJ_of {k : Nat} (hk : k < 18446744073709551616) : bvJ (BitVec.ofNat 64 k) = (k : Int) := by unfold bvJ; rw [BitVec.toNat_ofNat, Nat.mod_eq_of_lt hk]
theorem run_andNotN {P : Program} {ρ : Operand → Value} {o : Oper} {w : World} {T T2 : TypeId} {x y : Operand} {m n r : Nat} (hm : m < 18446744073709551616) (hn : n < 18446744073709551616) (hr : r < 18446744073709551616) (hb : ∀ j, (m.testBit j && !n.testBit j) = r.testBit j)
    (ho : o.op = .binOp .andNot T x y T2) (hx : ρ x = .int .u64 (m : Int)) (hy : ρ y = .int .u64 (n : Int)) : (execOp ρ o).run P w = .ok (.value (.int .u64 (r : Int))) w := by
  rw [← bvJ_of hm] at hx
  rw [← bvJ_of hn] at hy
  rw [run_andNot_bvJ ho hx hy, ← bvJ_of hr]
  have e : BitVec.ofNat 64 m &&& ~~~BitVec.ofNat 64 n = BitVec.ofNat 64 r := by
    apply BitVec.eq_of_getLsbD_eq
    intro j hj
    rw [BitVec.getLsbD_and, BitVec.getLsbD_not, BitVec.getLsbD_ofNat, BitVec.getLsbD_ofNat, BitVec.getLsbD_ofNat, ← hb j]
    simp [hj]
  rw [e]
theorem run_notN {P : Program} {ρ : Operand → Value} {o : Oper} {w : World} {T : TypeId} {x : Operand} {m : Nat} (hm : m < 18446744073709551616) (ho : o.op = .unOp .xor T x) (hx : ρ x = .int .u64 (m : Int)) :
    (execOp ρ o).run P w = .ok (.value (.int .u64 ((18446744073709551615 - m : Nat) : Int))) w := by
  rw [← bvJ_of hm] at hx
  rw [run_not_bvJ ho hx, ← bvJ_of (show 18446744073709551615 - m < 18446744073709551616 by omega)]
  have e : ~~~BitVec.ofNat 64 m = BitVec.ofNat 64 (18446744073709551615 - m) := by
    apply BitVec.eq_of_toNat_eq
    rw [BitVec.toNat_not, BitVec.toNat_ofNat, BitVec.toNat_ofNat, Nat.mod_eq_of_lt hm, Nat.mod_eq_of_lt (by omega)]
  rw [e]

set_option maxRecDepth 100000 in
set_option maxHeartbeats 2000000 in
theorem specStepsFor_bad (f : Nat → Int) (hf : S16 f) (b n cap : Nat) (xs ys : Nat → Int) (hn : n ≤ 1048576) (hs : SmallP n xs ys) (g : Nat → Int) (hg : S16 g) (w : World) (hr : PtRow w b n xs ys) (hb : sfB f n xs ys g = false) (T : Nat → Nat) :
    Calls Tryd.prog 15 #[.agg (arrV .i16 64 f), .slice (some ⟨b, 0, none⟩) n cap, .agg (arrV .i16 64 g)] w (SfOut T 1 w) := by
  have a1 := (HasArr.new w 31 .i16 64 f).alloc (.cells (arrV .i16 64 g) 28)
  have a2 : HasArr ((w.alloc (.cells (arrV .i16 64 f) 31)).alloc (.cells (arrV .i16 64 g) 28)) (w.heap.size + 1) 28 .i16 64 g := by
    have h := HasArr.new (w.alloc (.cells (arrV .i16 64 f) 31)) 28 .i16 64 g
    simpa using h
  have k0 := ((Below.refl w.heap.size w).alloc (Nat.le_refl _) (.cells (arrV .i16 64 f) 31)).alloc (by simp) (.cells (arrV .i16 64 g) 28)
  have r1 := hr.below k0 hr.lt
  have hd := fun W h => l03Negative_any w.heap.size 31 f hf W h
  have hv := fun W h => l02Ok_any b n cap xs ys hn hs W h
  have hp := fun W h => l03Print_any (w.heap.size + 1) 28 g hg W h
  rcases h1 : dnsB f with _ | _
  · rw [h1] at hd
    have Hd := Lib.hid hd; clear hd hv hp hb h1
    go_enter Tryd.func15, Tryd.ntmps15
    go_wp2_with fail
    refine (Hd.out _ a1).mono ?_; rintro e w1 ⟨rfl, hb1⟩
    have k1 := k0.trans (hb1.mono k0.size)
    clear a1 a2 k0 hb1 r1 Hd
    go_wp2_with fail
    go_ret2
    exact ⟨_, rfl, by rw [if_neg (by decide)]; exact Mine.nil _ _ _ _ _ _ _ _, k1.alloc k1.size _⟩
  rw [h1] at hd
  have Hd := Lib.hid hd; clear hd
  rcases h2 : validC n xs ys with _ | _
  · rw [h2] at hv
    have Hv := Lib.hid hv; clear hv hp hb h1 h2
    go_enter Tryd.func15, Tryd.ntmps15
    go_wp2_with fail
    refine (Hd.out _ a1).mono ?_; rintro e w0 ⟨rfl, hb0⟩
    have k9 := k0.trans (hb0.mono k0.size)
    have s1 := r1.below hb0 r1.lt
    clear a1 a2 k0 hb0 r1 Hd
    go_wp2_with fail
    refine (Hv.out _ s1).mono ?_; rintro e w1 ⟨rfl, hb1⟩
    have k1 := k9.trans (hb1.mono k9.size)
    clear k9 hb1 s1 Hv
    go_wp2_with fail
    go_ret2
    exact ⟨_, rfl, by rw [if_neg (by decide)]; exact Mine.nil _ _ _ _ _ _ _ _, k1.alloc k1.size _⟩
  rw [h2] at hv
  have Hv := Lib.hid hv; clear hv
  rcases h3 : dnsB g with _ | _
  · rw [h3] at hp
    have Hp := Lib.hid hp; clear hp hb h1 h2 h3
    go_enter Tryd.func15, Tryd.ntmps15
    go_wp2_with fail
    refine (Hd.out _ a1).mono ?_; rintro e w0 ⟨rfl, hb0⟩
    have k9 := k0.trans (hb0.mono k0.size)
    have s1 := r1.below hb0 r1.lt
    have b2 := a2.below hb0 a2.lt
    clear a1 a2 k0 hb0 r1 Hd
    go_wp2_with fail
    refine (Hv.out _ s1).mono ?_; rintro e w1 ⟨rfl, hb1⟩
    have k1 := k9.trans (hb1.mono k9.size)
    have b3 := b2.below hb1 b2.lt
    clear k9 hb1 s1 Hv b2
    go_wp2_with fail
    refine (Hp.out _ b3).mono ?_; rintro e w2 ⟨rfl, hb2⟩
    have k2 := k1.trans (hb2.mono k1.size)
    clear k1 hb2 Hp b3
    go_wp2_with fail
    go_ret2
    exact ⟨_, rfl, by rw [if_neg (by decide)]; exact Mine.nil _ _ _ _ _ _ _ _, k2.alloc k2.size _⟩
  · exfalso
    simp [sfB, h1, h2, h3] at hb
end Go.Proofs.YtnlcjbobfhmnmaaDoor

namespace Go.Proofs.YtnlcjbobfhmnmaaDoor
open Go.RowKit

set_option maxRecDepth 100000 in
set_option maxHeartbeats 2000000 in
theorem specStepsFor_ok (f : Nat → Int) (b n cap : Nat) (xs ys : Nat → Int) (hn : n ≤ 1048576) (hs : SmallP n xs ys) (g : Nat → Int) (w : World) (hr : PtRow w b n xs ys) (h1 : dnsB f = true) (h2 : validC n xs ys = true) (h3 : dnsB g = true)
    (C : Int) (hok : sfA (sfT f n xs ys g) = true → C = 0) (hno : sfA (sfT f n xs ys g) ≠ true → C = 6) :
    Calls Tryd.prog 15 #[.agg (arrV .i16 64 f), .slice (some ⟨b, 0, none⟩) n cap, .agg (arrV .i16 64 g)] w (SfOut (sfT f n xs ys g) C w) := by
  have a1 := (HasArr.new w 31 .i16 64 f).alloc (.cells (arrV .i16 64 g) 28)
  have a2 : HasArr ((w.alloc (.cells (arrV .i16 64 f) 31)).alloc (.cells (arrV .i16 64 g) 28)) (w.heap.size + 1) 28 .i16 64 g := by
    have h := HasArr.new (w.alloc (.cells (arrV .i16 64 f) 31)) 28 .i16 64 g
    simpa using h
  have k0 := ((Below.refl w.heap.size w).alloc (Nat.le_refl _) (.cells (arrV .i16 64 f) 31)).alloc (by simp) (.cells (arrV .i16 64 g) 28)
  have r1 := hr.below k0 hr.lt
  have hd := fun W h => l03Negative_any w.heap.size 31 f (dnsB_S16 h1) W h
  have hv := fun W h => l02Ok_any b n cap xs ys hn hs W h
  have hp := fun W h => l03Print_any (w.heap.size + 1) 28 g (dnsB_S16 h3) W h
  have hcv := (validC_crv h2).1
  have hpr := fun (c L : Nat) (hc : c < 64) (hL : L < 37) W h => l03Printed_any b n cap xs ys hn hcv (f c) (L : Int) (dnsB_bd h1 hc).1 (dnsB_bd h1 hc).2 (by omega) (by omega) W h
  have HPR : Hid (∀ (c L : Nat), c < 64 → L < 37 → ∀ W, PtRow W b n xs ys → Calls Tryd.prog 32 #[.int .i16 (f c), .slice (some ⟨b, 0, none⟩) n cap, .int .i64 (L : Int)] W fun e w' => e = .returned (.int .i16 (sfD f n xs ys c L)) ∧ Below W.heap.size W w') := Lib.hid hpr
  have hgb := fun (c : Nat) (hc : c < 64) => dnsB_bd h3 hc
  have hmo := fun L (hL : L < 37) => sfM_of f n xs ys g L hL
  generalize sfT f n xs ys g = T at *
  rw [h1] at hd
  rw [h2] at hv
  rw [h3] at hp
  have Hok := Lib.hid (fun (h : sfU T 37 = 18446744073709551615) => hok (sfA_iff.2 (sfU_all T |>.1 h))); clear hok
  have Hno := Lib.hid (fun (h : ¬ sfU T 37 = 18446744073709551615) => hno (fun h' => h (sfU_all T |>.2 (sfA_iff.1 h')))); clear hno
  have Hd := Lib.hid hd; clear hd
  have Hv := Lib.hid hv; clear hv
  have Hp := Lib.hid hp; clear hp
  have Hmo := Lib.hid hmo; clear hmo
  clear h1 h2 h3 hcv hs hpr hgb
  have hrlt := hr.lt
  obtain ⟨i0, hi, hz0, hz1, hz2⟩ := info_parts infoStepS
  go_enter Tryd.func15, Tryd.ntmps15
  go_wp2_with fail
  refine (Hd.out _ a1).mono ?_; rintro e w0 ⟨rfl, hb0⟩
  have k9 := k0.trans (hb0.mono k0.size)
  have c1 := a1.below hb0 a1.lt
  have b2 := a2.below hb0 a2.lt
  have s1 := r1.below hb0 r1.lt
  clear a1 a2 k0 hb0 r1 Hd
  go_wp2_with fail
  refine (Hv.out _ s1).mono ?_; rintro e w1 ⟨rfl, hb1⟩
  have k1 := k9.trans (hb1.mono k9.size)
  have c2 := c1.below hb1 c1.lt
  have b3 := b2.below hb1 b2.lt
  have s2 := s1.below hb1 s1.lt
  clear k9 hb1 s1 Hv b2 c1
  go_wp2_with fail
  refine (Hp.out _ b3).mono ?_; rintro e w2 ⟨rfl, hb2⟩
  have k2 := k1.trans (hb2.mono k1.size)
  have c3 := c2.below hb2 c2.lt
  have b4 := b3.below hb2 b3.lt
  have l3 := c3.lt
  have l4 := b4.lt
  have s3 := s2.below hb2 s2.lt
  have hz2' := k2.size
  have K2 := Lib.hid k2
  clear k1 hb2 Hp b3 c2 s2
  have o1 := World.ownsRow_lit (base := w2.heap.size) (e := 60) (size := 2) w2 #[] 0 (Nat.le_refl _) (Nat.zero_le _) rfl
  have k7 := (Below.refl w2.heap.size w2).alloc (Nat.le_refl _) (.cells #[] 60)
  have c7 := c3.alloc (.cells #[] 60)
  have b7 := b4.alloc (.cells #[] 60)
  have e00 : (0 : Int) = ((sfU T 0 : Nat) : Int) := by rw [sfU_0]; rfl
  have E00 := Lib.hid e00; clear e00
  clear k2 c3 b4
  go_wp2_with fail
  generalize w2.alloc (.cells #[] 60) = W7 at *
  go_loopw [8, 9, 10] (fun lv dv iv wr => ∃ L : Nat, L ≤ 37 ∧ iv = .int .i64 (L : Int) ∧ dv = .int .u64 ((sfU T L : Nat) : Int) ∧ wr.ownsRow w2.heap.size 60 2 lv (sfL T L).length (celT (sfL T L)) ∧ HasArr wr w.heap.size 31 .i16 64 f ∧ HasArr wr (w.heap.size + 1) 28 .i16 64 g ∧ Below w2.heap.size w2 wr) (fun _ _ iv _ => 64 - (intOf iv).toNat)
  case atStart => exact ⟨0, by omega, rfl, by rw [← E00.out], o1, c7, b7, k7⟩
  case round =>
    clear o1 k7 c7 b7
    obtain ⟨L, hL, rfl, rfl, ho, hA, hP, hBq⟩ := hrel
    obtain ⟨wo, rfl⟩ : ∃ wo : World, wo = wr := ⟨_, rfl⟩
    by_cases hLn : L < 37
    rotate_left
    · obtain rfl : L = 37 := by omega
      have hcc : ¬ (((37 : Nat) : Int) ≤ 36) := by omega
      rw [celT_list] at ho
      have HM := Lib.hid ((Mine.of_listSt ho).mono hz2' (Nat.le_refl _))
      have HB := Lib.hid (K2.out.trans (hBq.mono K2.out.size))
      have hul := sfU_lt T 37
      have hokk := Hok.out
      have hnok := Hno.out
      clear ho hA hP hBq
      generalize sfU T 37 = U at *
      by_cases hU : U = 18446744073709551615
      · obtain rfl := hokk hU
        have hM0 : (((18446744073709551615 - U : Nat) : Int) != 0) = false := by rw [hU]; rfl
        have HM0 := Lib.hid hM0; clear hM0 hokk hnok hU
        generalize hX : ((18446744073709551615 - U : Nat) : Int) = X at *
        have hM1 := HM0.out
        go_wp2_with (refine wpList_yield (v := .int .u64 X) rfl (by rw [← hX]; exact run_notN hul rfl rfl) ?_)
        go_ret2
        exact ⟨_, rfl, by rw [if_pos rfl]; exact HM.out, HB.out⟩
      · obtain rfl := hnok hU
        have hM0 : (((18446744073709551615 - U : Nat) : Int) != 0) = true := by rw [bne_iff_ne]; omega
        have HM0 := Lib.hid hM0; clear hM0 hokk hnok hU
        generalize hX : ((18446744073709551615 - U : Nat) : Int) = X at *
        have hM1 := HM0.out
        go_wp2_with (refine wpList_yield (v := .int .u64 X) rfl (by rw [← hX]; exact run_notN hul rfl rfl) ?_)
        go_ret2
        exact ⟨_, rfl, by rw [if_neg (by decide)]; exact Mine.nil _ _ _ _ _ _ _ _, HB.out.alloc HB.out.size _⟩
    have w5' : (L : Int) ≤ 36 := by omega
    have HO := Lib.hid ho; have HA := Lib.hid hA; have HP := Lib.hid hP; have HB := Lib.hid hBq
    clear ho hA hP hBq
    have hp0 : (0 : Int) = ((maskN (fun c => decide (g c ≤ sfD f n xs ys c L)) 0 : Nat) : Int) := rfl
    have HP0 := Lib.hid hp0; clear hp0
    have HMO := Lib.hid (Hmo.out L hLn)
    have HPL := Lib.hid (fun c hc W h => HPR.out c L hc hLn W h)
    generalize hp : (fun c => decide (g c ≤ sfD f n xs ys c L)) = p at *
    have HPC := Lib.hid (fun c => show p c = decide (g c ≤ sfD f n xs ys c L) by rw [← hp])
    clear hp
    have hul := sfU_lt T L
    go_wp2_with fail
    go_loopw [11, 12] (fun mv kv wq => ∃ k : Nat, k ≤ 64 ∧ kv = .int .i64 (k : Int) ∧ mv = .int .u64 ((maskN p k : Nat) : Int) ∧ wq.ownsRow w2.heap.size 60 2 u8 (sfL T L).length (celT (sfL T L)) ∧ HasArr wq w.heap.size 31 .i16 64 f ∧ HasArr wq (w.heap.size + 1) 28 .i16 64 g ∧ Below w2.heap.size w2 wq) (fun _ kv _ => 80 - (intOf kv).toNat)
    case atStart => exact ⟨0, by omega, rfl, by rw [← HP0.out], HO.out, HA.out, HP.out, HB.out⟩
    case round =>
      obtain ⟨k, hk, rfl, rfl, ho, hA, hP, hBq⟩ := hrel
      have HO2 := Lib.hid ho; have HA2 := Lib.hid hA; have HP2 := Lib.hid hP; have HB2 := Lib.hid hBq
      clear ho
      by_cases hkn : k < 64
      · have w1 : (k : Int) < 64 := by omega
        have cf := hA.cell hkn
        have cg := hP.cell hkn
        have hpk := HPC.out k
        have hq := fun W h => HPL.out k hkn W h
        have hrr := s3.below hBq s3.lt
        have hyes := fun (h : p k = true) => maskN_yes (p := p) (k := k) h
        have hnoo := fun (h : p k = false) => maskN_no (p := p) (k := k) h
        have hml := maskN_lt p k (by omega)
        have h2l := two_pow_lt64 hkn
        clear hA hP hBq
        generalize sfD f n xs ys k L = V at *
        generalize f k = D at *
        generalize g k = G at *
        generalize maskN p k = m at *
        have Hq := Lib.hid (fun (x : WIn (Below wr.heap.size wr)) => hq x.w (hrr.below x.ok hrr.lt)); clear hq hrr
        rcases hpv : p k with _ | _
        · rw [hpv] at hpk
          have hdd : decide (G ≤ V) = false := hpk.symm
          have HY := Lib.hid (hnoo hpv)
          clear hyes hnoo hpv hpk
          go_wp2_with fail
          refine wp_region_quietD (Below wr.heap.size wr) (by kernel_rfl) (by kernel_rfl) (below_drew1 _) ?_
          have n0 := below_nonempty wr
          have f0 := inCell cf
          have f1 := inCell cg
          refine wpQuiet_yield (.int .i64 (k : Int)) rfl (fun _ => rfl) ?_
          go_frame
          quiet_step (fail)
          quiet_step (fail)
          refine wpQuiet_yield (.slice (some ⟨b, 0, none⟩) n cap) rfl (fun _ => rfl) ?_
          go_frame
          refine wpQuiet_yield (.int .i64 (L : Int)) rfl (fun _ => rfl) ?_
          go_frame
          quiet_step ((go_at_call 32; exact inCall _ (Hq.out _)))
          refine wpQuiet_yield (.int .i64 (k : Int)) rfl (fun _ => rfl) ?_
          go_frame
          quiet_step (fail)
          quiet_step (fail)
          quiet_step (fail)
          refine wpQuiet_nil ?_
          rintro _ ⟨y, rfl⟩
          have kk := HB2.out.trans (y.ok.mono HB2.out.size)
          have KO := Lib.hid (own_belowW HO2.out y.ok)
          have KA := Lib.hid (HA2.out.below y.ok HA2.out.lt)
          have KP := Lib.hid (HP2.out.below y.ok HP2.out.lt)
          have KB := Lib.hid kk
          clear f0 f1 n0 cf cg kk
          go_wp2_with fail
          go_roundw
          case rel => exact ⟨k + 1, by omega, by go_num, by rw [HY.out], KO.out, KA.out, KP.out, KB.out⟩
          case measure => simp [intOf]; omega
        · rw [hpv] at hpk
          have hdd : decide (G ≤ V) = true := hpk.symm
          have HY := Lib.hid (hyes hpv)
          clear hyes hnoo hpv hpk
          go_wp2_with fail
          refine wp_region_quietD (Below wr.heap.size wr) (by kernel_rfl) (by kernel_rfl) (below_drew1 _) ?_
          have n0 := below_nonempty wr
          have f0 := inCell cf
          have f1 := inCell cg
          refine wpQuiet_yield (.int .i64 (k : Int)) rfl (fun _ => rfl) ?_
          go_frame
          quiet_step (fail)
          quiet_step (fail)
          refine wpQuiet_yield (.slice (some ⟨b, 0, none⟩) n cap) rfl (fun _ => rfl) ?_
          go_frame
          refine wpQuiet_yield (.int .i64 (L : Int)) rfl (fun _ => rfl) ?_
          go_frame
          quiet_step ((go_at_call 32; exact inCall _ (Hq.out _)))
          refine wpQuiet_yield (.int .i64 (k : Int)) rfl (fun _ => rfl) ?_
          go_frame
          quiet_step (fail)
          quiet_step (fail)
          quiet_step (fail)
          refine wpQuiet_nil ?_
          rintro _ ⟨y, rfl⟩
          have kk := HB2.out.trans (y.ok.mono HB2.out.size)
          have KO := Lib.hid (own_belowW HO2.out y.ok)
          have KA := Lib.hid (HA2.out.below y.ok HA2.out.lt)
          have KP := Lib.hid (HP2.out.below y.ok HP2.out.lt)
          have KB := Lib.hid kk
          clear f0 f1 n0 cf cg kk
          go_wp2_with (first | (refine wpList_shl1 (κ := .u64) (k := k) _ _ rfl rfl rfl rfl hkn ?_) | (refine wpList_or _ _ rfl rfl rfl rfl hml h2l ?_))
          go_roundw
          case rel => exact ⟨k + 1, by omega, by go_num, by rw [HY.out], KO.out, KA.out, KP.out, KB.out⟩
          case measure => simp [intOf]; omega
      · obtain rfl : k = 64 := by omega
        have hmo := HMO.out
        have hml := maskN_lt p 64 (Nat.le_refl _)
        have hrl := sfM_lt T L 64 (Nat.le_refl _)
        have hst := sfU_step T L
        have hlen := sfL_len T L
        have hyes := fun h => sfL_yes (T := T) (L := L) h
        have hnoo := fun h => sfL_no (T := T) (L := L) h
        clear hA hP hBq
        generalize maskN p 64 = mp at *
        generalize sfU T L = U at *
        generalize sfM T L 64 = R at *
        by_cases hz : R = 0
        · have hM0 : (((R : Nat) : Int) != 0) = false := by rw [hz]; rfl
          have HU := Lib.hid (show sfU T (L + 1) = U by rw [← hst, hz, Nat.or_zero])
          have HY := Lib.hid (hnoo hz)
          have Hmo := Lib.hid hmo; clear hmo
          clear hyes hnoo hst hz hlen
          go_wp2_with (refine wpList_yield rfl (run_andNotN hml hul hrl Hmo.out rfl rfl rfl) ?_)
          go_roundw
          case rel => exact ⟨L + 1, by omega, by go_num, by rw [HU.out], by rw [HY.out]; exact HO2.out, HA2.out, HP2.out, HB2.out⟩
          case measure => simp [intOf]; omega
        · have hM0 : (((R : Nat) : Int) != 0) = true := by rw [bne_iff_ne]; omega
          have HU := Lib.hid (show sfU T (L + 1) = U ||| R by rw [← hst])
          have HY := Lib.hid (hyes hz)
          have Hmo := Lib.hid hmo; clear hmo
          have HLEN := Lib.hid hlen
          clear hyes hnoo hst hz hlen
          have i8 : IntKind.i8.wrap (L : Int) = (L : Int) := IntWalk.i8_in _ (by omega)
          have hz8 := HB2.out.size
          generalize sfL T L = l at *

          generalize hR : ((R : Nat) : Int) = RI at *
          have HR := Lib.hid hR; clear hR
          go_wp2_with (first | (refine wpList_yield (v := .int .u64 RI) rfl (by rw [← HR.out]; exact run_andNotN hml hul hrl Hmo.out rfl rfl rfl) ?_) | (at_builtin; refine wpList_append_own_at _ rfl _ _ 36 rfl w2.heap.size 60 i0 (.agg #[.int .u64 0, .int .i8 0]) 2 16 Tryd.underlying36 hi hz0 hz1 hz2 rfl (by decide) _ l.length (celT l) rfl (HO2.out.alloc _) ⟨wr.heap.size, 0, none⟩ 1 1 [.int .u64 RI, .int .i8 (L : Int)] rfl rfl ?c1 ?c2 ?c3 ?c4 ?c5 ?_))
          case c1 =>
            intro jj u hj
            match jj, hj with
            | 0, hj => simp at hj; subst hj; simp [Addr.add, go_sem]
            | 1, hj => simp at hj; subst hj; simp [Addr.add, go_sem]
            | jj + 2, hj => simp at hj
          case c2 => intro u hu; simp at hu; rcases hu with rfl | rfl <;> rfl
          case c3 => have hlen := HLEN.out; unfold maxLen; omega
          case c4 => have hlen := HLEN.out; omega
          case c5 => have hlen := HLEN.out; simp; omega
          intro v3 w9 hown3 hg3 hnil _
          have hkeep : Below w2.heap.size wr w9 := (((Below.refl w2.heap.size wr).alloc (by omega) _).grown hg3 (by simp; omega) (fun x hx => (HO2.out.lt x hx).1))
          have HB9 := Lib.hid (HB2.out.trans hkeep)
          have HO9 := Lib.hid hown3
          have HA9 := Lib.hid (HA2.out.below hkeep l3)
          have HP9 := Lib.hid (HP2.out.below hkeep l4)
          clear hkeep hown3 hg3 hnil HO2 HB2 HA2 HP2
          rw [← HR.out]
          go_wp2_with (refine wpList_or _ _ rfl rfl rfl rfl hul hrl ?_)
          go_roundw
          case rel => exact ⟨L + 1, by omega, by go_num, by rw [HU.out], by rw [HY.out, celT_app, celT_one, List.length_append]; exact HO9.out, HA9.out, HP9.out, HB9.out⟩
          case measure => simp [intOf]; omega
end Go.Proofs.YtnlcjbobfhmnmaaDoor

namespace Go.Proofs.YtnlcjbobfhmnmaaDoor
open Go.RowKit

theorem specStepsFor_any (f : Nat → Int) (hf : S16 f) (b n cap : Nat) (xs ys : Nat → Int) (hn : n ≤ 1048576) (hs : SmallP n xs ys) (g : Nat → Int) (hg : S16 g) (w : World) (hr : PtRow w b n xs ys) :
    Calls Tryd.prog 15 #[.agg (arrV .i16 64 f), .slice (some ⟨b, 0, none⟩) n cap, .agg (arrV .i16 64 g)] w (SfOut (sfT f n xs ys g) (sfC f n xs ys g) w) := by
  rcases hp : sfB f n xs ys g with _ | _
  · have e : sfC f n xs ys g = 1 := by simp [sfC, hp]
    rw [e]
    exact specStepsFor_bad f hf b n cap xs ys hn hs g hg w hr hp _
  · have h := hp
    simp only [sfB, Bool.and_eq_true] at h
    exact specStepsFor_ok f b n cap xs ys hn hs g w hr h.1.1 h.1.2 h.2 _ (fun h => by simp [sfC, hp, h]) (fun h => by simp [sfC, hp, h])
end Go.Proofs.YtnlcjbobfhmnmaaDoor

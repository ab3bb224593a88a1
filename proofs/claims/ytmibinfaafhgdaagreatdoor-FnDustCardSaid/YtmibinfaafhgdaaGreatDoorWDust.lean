/-
  The walk of the law FnDust: it returns true for all bytes. Condition: the listed variables hold what the row lists.
-/
import Derived.Test.YtmibinfaafhgdaaGreatDoorDuX
import Derived.Test.YtmibinfaafhgdaaGreatDoorEachE
import Derived.Test.YtmibinfaafhgdaaGreatDoorQX
import Derived.Test.YtmibinfaafhgdaaGreatDoorEnv
namespace Go.Proofs.YtmibinfaafhgdaaGreatDoor
open Go.RowKit

theorem ofI_bvU (a : BitVec 64) : BitVec.ofInt 64 (bvI a) = a := by
  unfold bvI
  rw [BitVec.ofInt_natCast, BitVec.ofNat_toNat]; simp
theorem and_bitsU (a b : BitVec 64) : bits .and .u64 (bvI a) (bvI b) = bvI (a &&& b) := by
  have h : bits .and .u64 (bvI a) (bvI b) = IntKind.u64.wrap (((BitVec.ofInt 64 (bvI a) &&& BitVec.ofInt 64 (bvI b)).toNat : Nat) : Int) := rfl
  rw [h, ofI_bvU, ofI_bvU]
  exact wrap_bv _
theorem or_bitsU (a b : BitVec 64) : bits .or .u64 (bvI a) (bvI b) = bvI (a ||| b) := by
  have h : bits .or .u64 (bvI a) (bvI b) = IntKind.u64.wrap (((BitVec.ofInt 64 (bvI a) ||| BitVec.ofInt 64 (bvI b)).toNat : Nat) : Int) := rfl
  rw [h, ofI_bvU, ofI_bvU]
  exact wrap_bv _
theorem not0_U : bits .xor .u64 IntKind.u64.max 0 = 18446744073709551615 := by decide

set_option maxRecDepth 100000 in
set_option maxHeartbeats 60000000 in
theorem walk_FnDust (A : Option Addr) (nc cc : Nat) (bs : Nat → Int) (A' : Option Addr) (nm cm : Nat) (bs' : Nat → Int) (w : World) (hL : laidMetH Tryz.prog Rows.fnDustRow.laid w)
    (hr : BytesIn w A nc bs) (hm : nc ≤ maxLen) (hbs : ∀ j, j < nc → 0 ≤ bs j ∧ bs j ≤ 255) (hr' : BytesIn w A' nm bs') (hm' : nm ≤ maxLen) (hbs' : ∀ j, j < nm → 0 ≤ bs' j ∧ bs' j ≤ 255) :
    Calls Tryz.prog 3 #[.slice A nc cc, .slice A' nm cm] w fun e w' => e = .returned (.bool true) ∧ Below w.heap.size w w' := by
  obtain ⟨s, hE⟩ := errEnv_of_row hL (by kernel_rfl) (by kernel_rfl)
  have hT := dbEnv_of_row hL (by kernel_rfl) (by kernel_rfl)
  clear hL
  unfold maxLen at hm hm'
  have b1 := f6big_any A nc cc w (by omega)
  have b2 := f6big_any A' nm cm w (by omega)
  by_cases h1 : 4096 < nc
  · rw [decide_eq_true h1] at b1
    have B1 := Lib.hid b1
    clear b1 b2 hE hT hr hbs hr' hbs'
    go_enter Tryz.func3, Tryz.ntmps3
    go_wp2_with fail
    refine B1.out.mono ?_; rintro e w1 ⟨rfl, rfl⟩
    go_wp2_with fail
    go_ret
    exact ⟨rfl, Below.refl _ _⟩
  rw [decide_eq_false h1] at b1
  by_cases h2 : 4096 < nm
  · rw [decide_eq_true h2] at b2
    have B1 := Lib.hid b1
    have B2 := Lib.hid b2
    clear b1 b2 hE hT hr hbs hr' hbs'
    go_enter Tryz.func3, Tryz.ntmps3
    go_wp2_with fail
    refine B1.out.mono ?_; rintro e w1 ⟨rfl, rfl⟩
    go_wp2_with fail
    refine B2.out.mono ?_; rintro e w1 ⟨rfl, rfl⟩
    go_wp2_with fail
    go_ret
    exact ⟨rfl, Below.refl _ _⟩
  rw [decide_eq_false h2] at b2
  have B1 := Lib.hid b1
  have B2 := Lib.hid b2
  have Hco := Lib.hid ((P6Copies_any A nc cc bs (by omega) hbs w hr).mono fun _ _ h => cop_ofD h)
  have Hpi := Lib.hid (fun (W : World) (h : Below w.heap.size w W) => P6Pick_any A' nm cm bs' 40 (by omega) (by omega) (by omega) hbs' W (hr'.below h (Nat.le_refl _)))
  have HE := Lib.hid hE
  have HT := Lib.hid hT
  clear b1 b2 hE hT hr hbs hr' hbs' h1 h2 hm hm'
  go_enter Tryz.func3, Tryz.ntmps3
  go_wp2_with fail
  refine B1.out.mono ?_; rintro e w1 ⟨rfl, rfl⟩
  go_wp2_with fail
  refine B2.out.mono ?_; rintro e w1 ⟨rfl, rfl⟩
  go_wp2_with fail
  clear B1 B2
  refine Hco.out.mono ?_; rintro e w1 ⟨q, n, c, g, rfl, hn15, hdn, hp1, hb1⟩
  clear Hco
  have k1 := Lib.hid hb1; clear hb1
  have HP := Lib.hid hp1; clear hp1
  go_wp2_with fail
  refine (Hpi.out _ k1.out).mono ?_; rintro e w2 ⟨x, rfl, hpk, hb2⟩
  clear Hpi
  have HP_2 := Lib.hid (HP.out.below hb2 (Nat.le_refl _))
  have k_2 := Lib.hid (k1.out.trans (hb2.mono k1.out.size))
  clear HP k1
  clear hb2
  have hx := Picked.lt hpk (by omega)
  clear hpk
  have hcc : copC n g x = 0 := copC_ok (prsB_iff.2 fun i hi => (hdn i hi).dns) (inB_true.2 (by omega)) (inB_true.2 (by omega))
  obtain ⟨M, B, D, at1, ls, l, hat, hall, hmd, c1, c2, c3, c4, c5, c6, c7, c8, c9, c10, c11, c12, c13⟩ := dust_all s q n c g x hcc (fun i hi => dnsB_S16 (hdn i hi).dns)
  obtain ⟨i16, hi16⟩ := info16
  have hcl : Tryz.prog.cellsOf 27 = 1 := by kernel_rfl
  have heq := fun (a : Nat → Int) W => (run_equal_arr (P := Tryz.prog) W a a Tryz.underlying29 Tryz.underlying27 hi16 hcl).trans (by rw [eqN_self a 64])
  have Heq := Lib.hid heq; clear heq hi16 hcl
  have HC1 := Lib.hid c1; have HC2 := Lib.hid c2; have HC3 := Lib.hid c3; have HC4 := Lib.hid c4; have HC5 := Lib.hid c5; have HC6 := Lib.hid c6; have HC7 := Lib.hid c7; have HC8 := Lib.hid c8; have HC9 := Lib.hid c9; have HC10 := Lib.hid c10; have HC11 := Lib.hid c11; have HC12 := Lib.hid c12; have HC13 := Lib.hid c13
  have HAT := Lib.hid hat; have HALL := Lib.hid hall; have HMD := Lib.hid hmd
  have HDN := Lib.hid hdn
  have hn5 := hn15.2
  have hn1 := hn15.1
  have hl8 := hall.2.2.2.1
  clear c1 c2 c3 c4 c5 c6 c7 c8 c9 c10 c11 c12 c13 hat hall hmd hcc hdn hn15
  go_wp2_with fail
  refine (HC1.out _ HP_2.out (HE.out.below k_2.out (Nat.le_refl _))).mono ?_; rintro e w3 ⟨rfl, hb3⟩
  have HP_3 := Lib.hid (HP_2.out.below hb3 (Nat.le_refl _))
  have k_3 := Lib.hid (k_2.out.trans (hb3.mono k_2.out.size))
  clear HP_2 k_2
  clear hb3
  have z4 := HasArr.zero w3 29 (b := w3.heap.size) (by simp)
  have t4 := below_setRow ((Below.refl w3.heap.size w3).alloc (Nat.le_refl _) (.cells #[.int .i16 0, .int .i16 0, .int .i16 0, .int .i16 0, .int .i16 0, .int .i16 0, .int .i16 0, .int .i16 0, .int .i16 0, .int .i16 0, .int .i16 0, .int .i16 0, .int .i16 0, .int .i16 0, .int .i16 0, .int .i16 0, .int .i16 0, .int .i16 0, .int .i16 0, .int .i16 0, .int .i16 0, .int .i16 0, .int .i16 0, .int .i16 0, .int .i16 0, .int .i16 0, .int .i16 0, .int .i16 0, .int .i16 0, .int .i16 0, .int .i16 0, .int .i16 0, .int .i16 0, .int .i16 0, .int .i16 0, .int .i16 0, .int .i16 0, .int .i16 0, .int .i16 0, .int .i16 0, .int .i16 0, .int .i16 0, .int .i16 0, .int .i16 0, .int .i16 0, .int .i16 0, .int .i16 0, .int .i16 0, .int .i16 0, .int .i16 0, .int .i16 0, .int .i16 0, .int .i16 0, .int .i16 0, .int .i16 0, .int .i16 0, .int .i16 0, .int .i16 0, .int .i16 0, .int .i16 0, .int .i16 0, .int .i16 0, .int .i16 0, .int .i16 0] 29)) (b := w3.heap.size) (by simp) (arrV .i16 64 M)
  have F8_n4 := Lib.hid (z4.setRow .i16 M)
  have HP_4 := Lib.hid (HP_3.out.below t4 (Nat.le_refl _))
  have k_4 := Lib.hid (k_3.out.trans (t4.mono k_3.out.size))
  clear HP_3 k_3
  clear t4
  go_wp2_with (first | (refine wpList_store_arr (z4) 29 (.tmp 8) (.tmp 60) rfl rfl rfl rfl sizePrint ?_))
  clear z4
  generalize ((w3.alloc (.cells #[.int .i16 0, .int .i16 0, .int .i16 0, .int .i16 0, .int .i16 0, .int .i16 0, .int .i16 0, .int .i16 0, .int .i16 0, .int .i16 0, .int .i16 0, .int .i16 0, .int .i16 0, .int .i16 0, .int .i16 0, .int .i16 0, .int .i16 0, .int .i16 0, .int .i16 0, .int .i16 0, .int .i16 0, .int .i16 0, .int .i16 0, .int .i16 0, .int .i16 0, .int .i16 0, .int .i16 0, .int .i16 0, .int .i16 0, .int .i16 0, .int .i16 0, .int .i16 0, .int .i16 0, .int .i16 0, .int .i16 0, .int .i16 0, .int .i16 0, .int .i16 0, .int .i16 0, .int .i16 0, .int .i16 0, .int .i16 0, .int .i16 0, .int .i16 0, .int .i16 0, .int .i16 0, .int .i16 0, .int .i16 0, .int .i16 0, .int .i16 0, .int .i16 0, .int .i16 0, .int .i16 0, .int .i16 0, .int .i16 0, .int .i16 0, .int .i16 0, .int .i16 0, .int .i16 0, .int .i16 0, .int .i16 0, .int .i16 0, .int .i16 0, .int .i16 0] 29)).setRow (w3.heap.size) (arrV .i16 64 M)) = V4 at *
  refine (HC2.out _ HP_4.out).mono ?_; rintro e w5 ⟨rfl, hb5⟩
  have F8_5 := Lib.hid (F8_n4.out.below hb5 F8_n4.out.lt)
  have HP_5 := Lib.hid (HP_4.out.below hb5 (Nat.le_refl _))
  have k_5 := Lib.hid (k_4.out.trans (hb5.mono k_4.out.size))
  clear F8_n4 HP_4 k_4
  clear hb5
  have z6 := HasArr.zero w5 29 (b := w5.heap.size) (by simp)
  have t6 := below_setRow ((Below.refl w5.heap.size w5).alloc (Nat.le_refl _) (.cells #[.int .i16 0, .int .i16 0, .int .i16 0, .int .i16 0, .int .i16 0, .int .i16 0, .int .i16 0, .int .i16 0, .int .i16 0, .int .i16 0, .int .i16 0, .int .i16 0, .int .i16 0, .int .i16 0, .int .i16 0, .int .i16 0, .int .i16 0, .int .i16 0, .int .i16 0, .int .i16 0, .int .i16 0, .int .i16 0, .int .i16 0, .int .i16 0, .int .i16 0, .int .i16 0, .int .i16 0, .int .i16 0, .int .i16 0, .int .i16 0, .int .i16 0, .int .i16 0, .int .i16 0, .int .i16 0, .int .i16 0, .int .i16 0, .int .i16 0, .int .i16 0, .int .i16 0, .int .i16 0, .int .i16 0, .int .i16 0, .int .i16 0, .int .i16 0, .int .i16 0, .int .i16 0, .int .i16 0, .int .i16 0, .int .i16 0, .int .i16 0, .int .i16 0, .int .i16 0, .int .i16 0, .int .i16 0, .int .i16 0, .int .i16 0, .int .i16 0, .int .i16 0, .int .i16 0, .int .i16 0, .int .i16 0, .int .i16 0, .int .i16 0, .int .i16 0] 29)) (b := w5.heap.size) (by simp) (arrV .i16 64 M)
  have F10_n6 := Lib.hid (z6.setRow .i16 M)
  have F8_6 := Lib.hid (F8_5.out.below t6 F8_5.out.lt)
  have HP_6 := Lib.hid (HP_5.out.below t6 (Nat.le_refl _))
  have k_6 := Lib.hid (k_5.out.trans (t6.mono k_5.out.size))
  clear F8_5 HP_5 k_5
  clear t6
  go_wp2_with (first | (refine wpList_store_arr (z6) 29 (.tmp 10) (.tmp 65) rfl rfl rfl rfl sizePrint ?_))
  clear z6
  generalize ((w5.alloc (.cells #[.int .i16 0, .int .i16 0, .int .i16 0, .int .i16 0, .int .i16 0, .int .i16 0, .int .i16 0, .int .i16 0, .int .i16 0, .int .i16 0, .int .i16 0, .int .i16 0, .int .i16 0, .int .i16 0, .int .i16 0, .int .i16 0, .int .i16 0, .int .i16 0, .int .i16 0, .int .i16 0, .int .i16 0, .int .i16 0, .int .i16 0, .int .i16 0, .int .i16 0, .int .i16 0, .int .i16 0, .int .i16 0, .int .i16 0, .int .i16 0, .int .i16 0, .int .i16 0, .int .i16 0, .int .i16 0, .int .i16 0, .int .i16 0, .int .i16 0, .int .i16 0, .int .i16 0, .int .i16 0, .int .i16 0, .int .i16 0, .int .i16 0, .int .i16 0, .int .i16 0, .int .i16 0, .int .i16 0, .int .i16 0, .int .i16 0, .int .i16 0, .int .i16 0, .int .i16 0, .int .i16 0, .int .i16 0, .int .i16 0, .int .i16 0, .int .i16 0, .int .i16 0, .int .i16 0, .int .i16 0, .int .i16 0, .int .i16 0, .int .i16 0, .int .i16 0] 29)).setRow (w5.heap.size) (arrV .i16 64 M)) = V6 at *
  refine (HC3.out _ HP_6.out (HE.out.below k_6.out (Nat.le_refl _)) (HT.out.below k_6.out)).mono ?_; rintro e w7 ⟨rfl, hb7⟩
  have F8_7 := Lib.hid (F8_6.out.below hb7 F8_6.out.lt)
  have F10_7 := Lib.hid (F10_n6.out.below hb7 F10_n6.out.lt)
  have HP_7 := Lib.hid (HP_6.out.below hb7 (Nat.le_refl _))
  have k_7 := Lib.hid (k_6.out.trans (hb7.mono k_6.out.size))
  clear F8_6 F10_n6 HP_6 k_6
  clear hb7
  have z8 := HasArr.zero w7 29 (b := w7.heap.size) (by simp)
  have t8 := below_setRow ((Below.refl w7.heap.size w7).alloc (Nat.le_refl _) (.cells #[.int .i16 0, .int .i16 0, .int .i16 0, .int .i16 0, .int .i16 0, .int .i16 0, .int .i16 0, .int .i16 0, .int .i16 0, .int .i16 0, .int .i16 0, .int .i16 0, .int .i16 0, .int .i16 0, .int .i16 0, .int .i16 0, .int .i16 0, .int .i16 0, .int .i16 0, .int .i16 0, .int .i16 0, .int .i16 0, .int .i16 0, .int .i16 0, .int .i16 0, .int .i16 0, .int .i16 0, .int .i16 0, .int .i16 0, .int .i16 0, .int .i16 0, .int .i16 0, .int .i16 0, .int .i16 0, .int .i16 0, .int .i16 0, .int .i16 0, .int .i16 0, .int .i16 0, .int .i16 0, .int .i16 0, .int .i16 0, .int .i16 0, .int .i16 0, .int .i16 0, .int .i16 0, .int .i16 0, .int .i16 0, .int .i16 0, .int .i16 0, .int .i16 0, .int .i16 0, .int .i16 0, .int .i16 0, .int .i16 0, .int .i16 0, .int .i16 0, .int .i16 0, .int .i16 0, .int .i16 0, .int .i16 0, .int .i16 0, .int .i16 0, .int .i16 0] 29)) (b := w7.heap.size) (by simp) (arrV .i16 64 B)
  have F12_n8 := Lib.hid (z8.setRow .i16 B)
  have F8_8 := Lib.hid (F8_7.out.below t8 F8_7.out.lt)
  have F10_8 := Lib.hid (F10_7.out.below t8 F10_7.out.lt)
  have HP_8 := Lib.hid (HP_7.out.below t8 (Nat.le_refl _))
  have k_8 := Lib.hid (k_7.out.trans (t8.mono k_7.out.size))
  clear F8_7 F10_7 HP_7 k_7
  clear t8
  go_wp2_with (first | (refine wpList_store_arr (z8) 29 (.tmp 12) (.tmp 71) rfl rfl rfl rfl sizePrint ?_))
  clear z8
  generalize ((w7.alloc (.cells #[.int .i16 0, .int .i16 0, .int .i16 0, .int .i16 0, .int .i16 0, .int .i16 0, .int .i16 0, .int .i16 0, .int .i16 0, .int .i16 0, .int .i16 0, .int .i16 0, .int .i16 0, .int .i16 0, .int .i16 0, .int .i16 0, .int .i16 0, .int .i16 0, .int .i16 0, .int .i16 0, .int .i16 0, .int .i16 0, .int .i16 0, .int .i16 0, .int .i16 0, .int .i16 0, .int .i16 0, .int .i16 0, .int .i16 0, .int .i16 0, .int .i16 0, .int .i16 0, .int .i16 0, .int .i16 0, .int .i16 0, .int .i16 0, .int .i16 0, .int .i16 0, .int .i16 0, .int .i16 0, .int .i16 0, .int .i16 0, .int .i16 0, .int .i16 0, .int .i16 0, .int .i16 0, .int .i16 0, .int .i16 0, .int .i16 0, .int .i16 0, .int .i16 0, .int .i16 0, .int .i16 0, .int .i16 0, .int .i16 0, .int .i16 0, .int .i16 0, .int .i16 0, .int .i16 0, .int .i16 0, .int .i16 0, .int .i16 0, .int .i16 0, .int .i16 0] 29)).setRow (w7.heap.size) (arrV .i16 64 B)) = V8 at *
  refine (HC4.out _ HP_8.out).mono ?_; rintro e w9 ⟨rfl, hb9⟩
  have F8_9 := Lib.hid (F8_8.out.below hb9 F8_8.out.lt)
  have F10_9 := Lib.hid (F10_8.out.below hb9 F10_8.out.lt)
  have F12_9 := Lib.hid (F12_n8.out.below hb9 F12_n8.out.lt)
  have HP_9 := Lib.hid (HP_8.out.below hb9 (Nat.le_refl _))
  have k_9 := Lib.hid (k_8.out.trans (hb9.mono k_8.out.size))
  clear F8_8 F10_8 F12_n8 HP_8 k_8
  clear hb9
  have z10 := HasArr.zero w9 29 (b := w9.heap.size) (by simp)
  have t10 := below_setRow ((Below.refl w9.heap.size w9).alloc (Nat.le_refl _) (.cells #[.int .i16 0, .int .i16 0, .int .i16 0, .int .i16 0, .int .i16 0, .int .i16 0, .int .i16 0, .int .i16 0, .int .i16 0, .int .i16 0, .int .i16 0, .int .i16 0, .int .i16 0, .int .i16 0, .int .i16 0, .int .i16 0, .int .i16 0, .int .i16 0, .int .i16 0, .int .i16 0, .int .i16 0, .int .i16 0, .int .i16 0, .int .i16 0, .int .i16 0, .int .i16 0, .int .i16 0, .int .i16 0, .int .i16 0, .int .i16 0, .int .i16 0, .int .i16 0, .int .i16 0, .int .i16 0, .int .i16 0, .int .i16 0, .int .i16 0, .int .i16 0, .int .i16 0, .int .i16 0, .int .i16 0, .int .i16 0, .int .i16 0, .int .i16 0, .int .i16 0, .int .i16 0, .int .i16 0, .int .i16 0, .int .i16 0, .int .i16 0, .int .i16 0, .int .i16 0, .int .i16 0, .int .i16 0, .int .i16 0, .int .i16 0, .int .i16 0, .int .i16 0, .int .i16 0, .int .i16 0, .int .i16 0, .int .i16 0, .int .i16 0, .int .i16 0] 29)) (b := w9.heap.size) (by simp) (arrV .i16 64 B)
  have F15_n10 := Lib.hid (z10.setRow .i16 B)
  have F8_10 := Lib.hid (F8_9.out.below t10 F8_9.out.lt)
  have F10_10 := Lib.hid (F10_9.out.below t10 F10_9.out.lt)
  have F12_10 := Lib.hid (F12_9.out.below t10 F12_9.out.lt)
  have HP_10 := Lib.hid (HP_9.out.below t10 (Nat.le_refl _))
  have k_10 := Lib.hid (k_9.out.trans (t10.mono k_9.out.size))
  clear F8_9 F10_9 F12_9 HP_9 k_9
  clear t10
  go_wp2_with (first | (refine wpList_store_arr (z10) 29 (.tmp 15) (.tmp 78) rfl rfl rfl rfl sizePrint ?_))
  clear z10
  generalize ((w9.alloc (.cells #[.int .i16 0, .int .i16 0, .int .i16 0, .int .i16 0, .int .i16 0, .int .i16 0, .int .i16 0, .int .i16 0, .int .i16 0, .int .i16 0, .int .i16 0, .int .i16 0, .int .i16 0, .int .i16 0, .int .i16 0, .int .i16 0, .int .i16 0, .int .i16 0, .int .i16 0, .int .i16 0, .int .i16 0, .int .i16 0, .int .i16 0, .int .i16 0, .int .i16 0, .int .i16 0, .int .i16 0, .int .i16 0, .int .i16 0, .int .i16 0, .int .i16 0, .int .i16 0, .int .i16 0, .int .i16 0, .int .i16 0, .int .i16 0, .int .i16 0, .int .i16 0, .int .i16 0, .int .i16 0, .int .i16 0, .int .i16 0, .int .i16 0, .int .i16 0, .int .i16 0, .int .i16 0, .int .i16 0, .int .i16 0, .int .i16 0, .int .i16 0, .int .i16 0, .int .i16 0, .int .i16 0, .int .i16 0, .int .i16 0, .int .i16 0, .int .i16 0, .int .i16 0, .int .i16 0, .int .i16 0, .int .i16 0, .int .i16 0, .int .i16 0, .int .i16 0] 29)).setRow (w9.heap.size) (arrV .i16 64 B)) = V10 at *
  refine (HC5.out _ HP_10.out (HE.out.below k_10.out (Nat.le_refl _))).mono ?_; rintro e w11 ⟨rfl, hb11⟩
  have F8_11 := Lib.hid (F8_10.out.below hb11 F8_10.out.lt)
  have F10_11 := Lib.hid (F10_10.out.below hb11 F10_10.out.lt)
  have F12_11 := Lib.hid (F12_10.out.below hb11 F12_10.out.lt)
  have F15_11 := Lib.hid (F15_n10.out.below hb11 F15_n10.out.lt)
  have HP_11 := Lib.hid (HP_10.out.below hb11 (Nat.le_refl _))
  have k_11 := Lib.hid (k_10.out.trans (hb11.mono k_10.out.size))
  clear F8_10 F10_10 F12_10 F15_n10 HP_10 k_10
  clear hb11
  go_wp2_with fail
  refine (HC6.out _ HP_11.out).mono ?_; rintro e w12 ⟨rfl, hb12⟩
  have F8_12 := Lib.hid (F8_11.out.below hb12 F8_11.out.lt)
  have F10_12 := Lib.hid (F10_11.out.below hb12 F10_11.out.lt)
  have F12_12 := Lib.hid (F12_11.out.below hb12 F12_11.out.lt)
  have F15_12 := Lib.hid (F15_11.out.below hb12 F15_11.out.lt)
  have HP_12 := Lib.hid (HP_11.out.below hb12 (Nat.le_refl _))
  have k_12 := Lib.hid (k_11.out.trans (hb12.mono k_11.out.size))
  clear F8_11 F10_11 F12_11 F15_11 HP_11 k_11
  clear hb12
  clear HC1 HC2 HC3 HC4 HC5 HC6
  go_wp2_with fail
  refine (HC7.out _ HP_12.out (HE.out.below k_12.out (Nat.le_refl _))).mono ?_; rintro e w13 ⟨A1, cap1, rfl, hi1, hb13⟩
  have F8_13 := Lib.hid (F8_12.out.below hb13 F8_12.out.lt)
  have F10_13 := Lib.hid (F10_12.out.below hb13 F10_12.out.lt)
  have F12_13 := Lib.hid (F12_12.out.below hb13 F12_12.out.lt)
  have F15_13 := Lib.hid (F15_12.out.below hb13 F15_12.out.lt)
  have HP_13 := Lib.hid (HP_12.out.below hb13 (Nat.le_refl _))
  have k_13 := Lib.hid (k_12.out.trans (hb13.mono k_12.out.size))
  clear F8_12 F10_12 F12_12 F15_12 HP_12 k_12
  clear hb13
  have L1 := Lib.hid hi1
  clear hi1
  go_wp2_with fail
  simp only [List.append] at *
  refine (HC8.out _ HP_13.out).mono ?_; rintro e w14 ⟨A2, cap2, rfl, hi2, hb14⟩
  have F8_14 := Lib.hid (F8_13.out.below hb14 F8_13.out.lt)
  have F10_14 := Lib.hid (F10_13.out.below hb14 F10_13.out.lt)
  have F12_14 := Lib.hid (F12_13.out.below hb14 F12_13.out.lt)
  have F15_14 := Lib.hid (F15_13.out.below hb14 F15_13.out.lt)
  have HP_14 := Lib.hid (HP_13.out.below hb14 (Nat.le_refl _))
  have L1_14 := Lib.hid (L1.out.below hb14 (Nat.le_refl _))
  have k_14 := Lib.hid (k_13.out.trans (hb14.mono k_13.out.size))
  clear F8_13 F10_13 F12_13 F15_13 HP_13 L1 k_13
  clear hb14
  have L2 := Lib.hid hi2
  clear hi2
  have q1 := Heq.out M
  have q2 := Heq.out B
  clear HC7 HC8
  have hll : l.length ≤ 1048576 := by omega
  go_wp2_with (first | (refine wpList_load_arr (F8_14.out) 29 (.tmp 8) rfl rfl rfl Tryz.underlying29 sizePrint ?_) | (refine wpList_load_arr (F10_14.out) 29 (.tmp 10) rfl rfl rfl Tryz.underlying29 sizePrint ?_) | (refine wpList_load_arr (F12_14.out) 29 (.tmp 12) rfl rfl rfl Tryz.underlying29 sizePrint ?_) | (refine wpList_load_arr (F15_14.out) 29 (.tmp 15) rfl rfl rfl Tryz.underlying29 sizePrint ?_) | (refine wpList_load_arrG (F8_14.out) 29 (.tmp 8) rfl rfl rfl Tryz.underlying29 sizePrint ?_) | (refine wpList_load_arrG (F10_14.out) 29 (.tmp 10) rfl rfl rfl Tryz.underlying29 sizePrint ?_) | (refine wpList_load_arrG (F12_14.out) 29 (.tmp 12) rfl rfl rfl Tryz.underlying29 sizePrint ?_) | (refine wpList_load_arrG (F15_14.out) 29 (.tmp 15) rfl rfl rfl Tryz.underlying29 sizePrint ?_))
  refine (SameNumbers_any A1 A2 l.length cap1 cap2 (fun j => l.getD j 0) hll _ L1_14.out L2.out).mono ?_; rintro e w15 ⟨rfl, hb15⟩
  clear q1 q2 Heq
  have F8_15 := Lib.hid (F8_14.out.below hb15 F8_14.out.lt)
  have F10_15 := Lib.hid (F10_14.out.below hb15 F10_14.out.lt)
  have F12_15 := Lib.hid (F12_14.out.below hb15 F12_14.out.lt)
  have F15_15 := Lib.hid (F15_14.out.below hb15 F15_14.out.lt)
  have HP_15 := Lib.hid (HP_14.out.below hb15 (Nat.le_refl _))
  have L1_15 := Lib.hid (L1_14.out.below hb15 (Nat.le_refl _))
  have L2_15 := Lib.hid (L2.out.below hb15 (Nat.le_refl _))
  have k_15 := Lib.hid (k_14.out.trans (hb15.mono k_14.out.size))
  clear F8_14 F10_14 F12_14 F15_14 HP_14 L1_14 L2 k_14
  clear hb15
  clear L1_15 F8_15 F12_15
  go_wp2_with fail
  have h0a : (18446744073709551615 : Int) = bvI (anD D 0) := by show (18446744073709551615 : Int) = bvI (BitVec.allOnes 64); decide
  have h0c : (0 : Int) = bvI (covB l D 0) := by rfl
  go_loopw [28, 29, 30] (fun av cv iv wr => ∃ i : Nat, i ≤ n ∧ iv = .int .i64 (i : Int) ∧ av = .int .u64 (bvI (anD D i)) ∧ cv = .int .u64 (bvI (covB l D i)) ∧ Below w15.heap.size w15 wr) (fun _ _ iv _ => n - (intOf iv).toNat)
  case atStart => exact ⟨0, Nat.zero_le _, rfl, by rw [← h0a], by rw [← h0c], Below.refl _ _⟩
  case round =>
    clear h0a h0c
    obtain ⟨i, hi, rfl, rfl, rfl, hB⟩ := hrel
    by_cases hin : i < n
    · have hin2 : (i : Int) < n := by omega
      have HBw := Lib.hid (k_15.out.trans (hB.mono k_15.out.size))
      have HPw := Lib.hid (HP_15.out.below hB (Nat.le_refl _))
      have HLw := Lib.hid (L2_15.out.below hB (Nat.le_refl _))
      have HFw := Lib.hid (F10_15.out.below hB F10_15.out.lt)
      have HBl := Lib.hid hB
      have hfa := HAT.out.2 i hin
      have hd0 := HALL.out.2.2.2.2 i hin
      have HDI := Lib.hid (HC9.out i hin)
      have HDF := Lib.hid (HC10.out i hin)
      have hAn : Hid (anD D i &&& D i = anD D (i + 1)) := Lib.hid rfl
      have hCy := Lib.hid (fun h => covB_yes (l := l) (D := D) (i := i) h)
      have hCn := Lib.hid (fun h => covB_no (l := l) (D := D) (i := i) h)
      have Hhas := Lib.hid (fun W (h : IntsIn W A2 l.length (fun j => l.getD j 0)) => HasNumber_any A2 cap2 l (i : Int) hll W h)
      have hls1 := HALL.out.2.2.1
      clear hB
      generalize anD D i = X at *
      generalize covB l D i = Y at *
      generalize decide ((i : Int) ∈ l) = hs at *
      obtain ⟨Di, hDi⟩ : ∃ Di, Di = D i := ⟨_, rfl⟩
      rw [← hDi] at hfa hd0 HDI HDF hAn hCy
      clear hDi
      have HCI := Lib.hid (fun W => CellsInD_any Di W)
      generalize cntB Di 64 = cn at *
      go_wp2_with fail
      refine (HDI.out _ HPw.out (HE.out.below HBw.out (Nat.le_refl _))).mono ?_; rintro e w40 ⟨rfl, hb40⟩
      have HFw_40 := Lib.hid (HFw.out.below hb40 HFw.out.lt)
      have HPw_40 := Lib.hid (HPw.out.below hb40 (Nat.le_refl _))
      have HLw_40 := Lib.hid (HLw.out.below hb40 (Nat.le_refl _))
      have HBw_40 := Lib.hid (HBw.out.trans (hb40.mono HBw.out.size))
      have HBl_40 := Lib.hid (HBl.out.trans (hb40.mono HBl.out.size))
      clear HFw HPw HLw HBw HBl hb40
      clear HDI
      go_wp2_with fail
      rcases HPw_40.out with h0 | ⟨b0, o0, hbo, hlb, hcc⟩
      · exfalso; omega
      injection hbo with hbo
      injection hbo with hb0 ho0
      subst hb0 ho0
      have p1 := hcc i hin
      rw [Nat.zero_add] at p1
      have P1 := Lib.hid p1
      clear hcc p1
      have n0 := below_nonempty w40
      have hda := Lib.hid (fun (y : WIn (Below w40.heap.size w40)) => HDF.out y.w (HE.out.below (HBw_40.out.trans (y.ok.mono HBw_40.out.size)) (Nat.le_refl _)))
      refine wp_region_quietD (Below w40.heap.size w40) (by kernel_rfl) (by kernel_rfl) (below_drew1 _) ?_
      refine wpQuiet_load_arr (fun W hW => by obtain ⟨y, rfl⟩ := hW; exact HFw_40.out.below y.ok HFw_40.out.lt) 29 (.tmp 10) rfl rfl rfl Tryz.underlying29 sizePrint ?_
      go_frame
      go_big_quiet_step (fail)
      go_big_quiet_step (fail)
      go_big_quiet_step (fail)
      refine wpQuiet_load_part (fun W hW => by obtain ⟨y, rfl⟩ := hW; exact P1.out.below y.ok hlb) 29 (.tmp 188) rfl rfl rfl Tryz.underlying29 sizePrint ?_
      go_frame
      repeat (go_big_quiet_step (first | (go_at_call 17; exact inCall _ (hda.out _))))
      refine wpQuiet_nil ?_
      rintro _ ⟨y, rfl⟩
      have hb41 := y.ok
      generalize y.w = w41 at *
      clear hda n0 P1 HDF
      have HFw_41 := Lib.hid (HFw_40.out.below hb41 HFw_40.out.lt)
      have HPw_41 := Lib.hid (HPw_40.out.below hb41 (Nat.le_refl _))
      have HLw_41 := Lib.hid (HLw_40.out.below hb41 (Nat.le_refl _))
      have HBw_41 := Lib.hid (HBw_40.out.trans (hb41.mono HBw_40.out.size))
      have HBl_41 := Lib.hid (HBl_40.out.trans (hb41.mono HBl_40.out.size))
      clear HFw_40 HPw_40 HLw_40 HBw_40 HBl_40 hb41
      clear hlb
      obtain ⟨hf1, hf2, hf3⟩ := hfa
      have z1 : ¬ (cn : Int) < ls := by omega
      have Hd0 := Lib.hid hd0; clear hd0
      rcases Nat.lt_trichotomy i at1 with hia | hia | hia
      · have z2 : (i : Int) < at1 := by omega
        have z3 : ¬ (cn : Int) = ls := by have := hf2 hia; omega
        have z4 : ((cn : Int) == ls) = false := by simpa using z3
        have z5 : ((i : Int) == at1) = false := by simp; omega
        have z6 : ¬ (i : Int) = at1 := by omega
        clear hf1 hf2 hf3
        go_wp2_with (go_at_call 18; refine (HCI.out _).mono ?_; rintro e w' ⟨rfl, rfl⟩)
        refine (Hhas.out _ HLw_41.out).mono ?_; rintro e w42 ⟨rfl, rfl⟩
        clear z1 z2 z5 HCI z3 z4 z6
        by_cases hz : Di = 0#64
        · have y1 := Hd0.out hz
          have y2 : (bvI Di == 0) = true := by rw [hz]; rfl
          have y4 : (((l.length : Nat) : Int) != 1) = false := by rw [y1]; rfl
          clear y1
          clear hz Hd0
          rcases hs with _ | _
          · have HN := Lib.hid (hCn.out rfl)
            clear hCn hCy
            have ax : bits .and .u64 (bvI X) (bvI Di) = bvI (anD D (i + 1)) := by rw [and_bitsU, hAn.out]
            have HN2 := HN.out
            go_wp2_with fail
            go_roundw
            case rel => exact ⟨i + 1, by omega, by go_num, rfl, by rw [HN.out], HBl_41.out⟩
            case measure => simp [intOf]; omega
          · have HN := Lib.hid (hCy.out rfl)
            clear hCn hCy
            have ax : bits .and .u64 (bvI X) (bvI Di) = bvI (anD D (i + 1)) := by rw [and_bitsU, hAn.out]
            have nx1 := notU_bvF Di
            have nx2 : bits .xor .u64 18446744073709551615 (bvI Di) = bvI (~~~Di) := nx1
            have ox : bits .or .u64 (bvI Y) (bvI (~~~Di)) = bvI (covB l D (i + 1)) := by rw [or_bitsU, HN.out]
            go_wp2_with fail
            go_roundw
            case rel => exact ⟨i + 1, by omega, by go_num, rfl, by rw [show bits .xor .u64 (if IntKind.u64.signed = true then -1 else IntKind.u64.max) (bvI Di) = bvI (~~~Di) from notU_bvF Di, ox], HBl_41.out⟩
            case measure => simp [intOf]; omega
        · have y2 : (bvI Di == 0) = false := by rw [beq_eq_false_iff_ne]; exact fun e => hz ((show bvI Di = bvI 0#64 ↔ Di = 0#64 from bvI_inj).1 e)
          have y3 : ¬ bvI Di = 0 := by simpa using y2
          have Y1 := Lib.hid (hz); clear hz Hd0
          rcases hs with _ | _
          · have HN := Lib.hid (hCn.out rfl)
            clear hCn hCy
            have ax : bits .and .u64 (bvI X) (bvI Di) = bvI (anD D (i + 1)) := by rw [and_bitsU, hAn.out]
            have HN2 := HN.out
            go_wp2_with fail
            go_roundw
            case rel => exact ⟨i + 1, by omega, by go_num, rfl, by rw [HN.out], HBl_41.out⟩
            case measure => simp [intOf]; omega
          · have HN := Lib.hid (hCy.out rfl)
            clear hCn hCy
            have ax : bits .and .u64 (bvI X) (bvI Di) = bvI (anD D (i + 1)) := by rw [and_bitsU, hAn.out]
            have nx1 := notU_bvF Di
            have nx2 : bits .xor .u64 18446744073709551615 (bvI Di) = bvI (~~~Di) := nx1
            have ox : bits .or .u64 (bvI Y) (bvI (~~~Di)) = bvI (covB l D (i + 1)) := by rw [or_bitsU, HN.out]
            go_wp2_with fail
            go_roundw
            case rel => exact ⟨i + 1, by omega, by go_num, rfl, by rw [show bits .xor .u64 (if IntKind.u64.signed = true then -1 else IntKind.u64.max) (bvI Di) = bvI (~~~Di) from notU_bvF Di, ox], HBl_41.out⟩
            case measure => simp [intOf]; omega
      · have z2 : ¬ (i : Int) < at1 := by omega
        have z3 := hf3 hia
        subst hia
        rw [← z3] at z1 ⊢
        have z4 : ((cn : Int) == cn) = true := by simp
        have z5 : ((i : Int) == i) = true := by simp
        clear hf1 hf2 hf3
        go_wp2_with (go_at_call 18; refine (HCI.out _).mono ?_; rintro e w' ⟨rfl, rfl⟩)
        refine (Hhas.out _ HLw_41.out).mono ?_; rintro e w42 ⟨rfl, rfl⟩
        clear z1 z2 z5 HCI z3 z4
        by_cases hz : Di = 0#64
        · have y1 := Hd0.out hz
          have y2 : (bvI Di == 0) = true := by rw [hz]; rfl
          have y4 : (((l.length : Nat) : Int) != 1) = false := by rw [y1]; rfl
          clear y1
          clear hz Hd0
          rcases hs with _ | _
          · have HN := Lib.hid (hCn.out rfl)
            clear hCn hCy
            have ax : bits .and .u64 (bvI X) (bvI Di) = bvI (anD D (i + 1)) := by rw [and_bitsU, hAn.out]
            have HN2 := HN.out
            go_wp2_with fail
            go_roundw
            case rel => exact ⟨i + 1, by omega, by go_num, rfl, by rw [HN.out], HBl_41.out⟩
            case measure => simp [intOf]; omega
          · have HN := Lib.hid (hCy.out rfl)
            clear hCn hCy
            have ax : bits .and .u64 (bvI X) (bvI Di) = bvI (anD D (i + 1)) := by rw [and_bitsU, hAn.out]
            have nx1 := notU_bvF Di
            have nx2 : bits .xor .u64 18446744073709551615 (bvI Di) = bvI (~~~Di) := nx1
            have ox : bits .or .u64 (bvI Y) (bvI (~~~Di)) = bvI (covB l D (i + 1)) := by rw [or_bitsU, HN.out]
            go_wp2_with fail
            go_roundw
            case rel => exact ⟨i + 1, by omega, by go_num, rfl, by rw [show bits .xor .u64 (if IntKind.u64.signed = true then -1 else IntKind.u64.max) (bvI Di) = bvI (~~~Di) from notU_bvF Di, ox], HBl_41.out⟩
            case measure => simp [intOf]; omega
        · have y2 : (bvI Di == 0) = false := by rw [beq_eq_false_iff_ne]; exact fun e => hz ((show bvI Di = bvI 0#64 ↔ Di = 0#64 from bvI_inj).1 e)
          have y3 : ¬ bvI Di = 0 := by simpa using y2
          have Y1 := Lib.hid (hz); clear hz Hd0
          rcases hs with _ | _
          · have HN := Lib.hid (hCn.out rfl)
            clear hCn hCy
            have ax : bits .and .u64 (bvI X) (bvI Di) = bvI (anD D (i + 1)) := by rw [and_bitsU, hAn.out]
            have HN2 := HN.out
            go_wp2_with fail
            go_roundw
            case rel => exact ⟨i + 1, by omega, by go_num, rfl, by rw [HN.out], HBl_41.out⟩
            case measure => simp [intOf]; omega
          · have HN := Lib.hid (hCy.out rfl)
            clear hCn hCy
            have ax : bits .and .u64 (bvI X) (bvI Di) = bvI (anD D (i + 1)) := by rw [and_bitsU, hAn.out]
            have nx1 := notU_bvF Di
            have nx2 : bits .xor .u64 18446744073709551615 (bvI Di) = bvI (~~~Di) := nx1
            have ox : bits .or .u64 (bvI Y) (bvI (~~~Di)) = bvI (covB l D (i + 1)) := by rw [or_bitsU, HN.out]
            go_wp2_with fail
            go_roundw
            case rel => exact ⟨i + 1, by omega, by go_num, rfl, by rw [show bits .xor .u64 (if IntKind.u64.signed = true then -1 else IntKind.u64.max) (bvI Di) = bvI (~~~Di) from notU_bvF Di, ox], HBl_41.out⟩
            case measure => simp [intOf]; omega
      · have z2 : ¬ (i : Int) < at1 := by omega
        have z5 : ((i : Int) == at1) = false := by simp; omega
        have z6 : ¬ (i : Int) = at1 := by omega
        clear hf1 hf2 hf3
        go_wp2_with (go_at_call 18; refine (HCI.out _).mono ?_; rintro e w' ⟨rfl, rfl⟩)
        refine (Hhas.out _ HLw_41.out).mono ?_; rintro e w42 ⟨rfl, rfl⟩
        clear z1 z2 z5 HCI z6
        by_cases hz : Di = 0#64
        · have y1 := Hd0.out hz
          have y2 : (bvI Di == 0) = true := by rw [hz]; rfl
          have y4 : (((l.length : Nat) : Int) != 1) = false := by rw [y1]; rfl
          clear y1
          clear hz Hd0
          rcases hs with _ | _
          · have HN := Lib.hid (hCn.out rfl)
            clear hCn hCy
            have ax : bits .and .u64 (bvI X) (bvI Di) = bvI (anD D (i + 1)) := by rw [and_bitsU, hAn.out]
            have HN2 := HN.out
            go_wp2_with fail
            go_roundw
            case rel => exact ⟨i + 1, by omega, by go_num, rfl, by rw [HN.out], HBl_41.out⟩
            case measure => simp [intOf]; omega
          · have HN := Lib.hid (hCy.out rfl)
            clear hCn hCy
            have ax : bits .and .u64 (bvI X) (bvI Di) = bvI (anD D (i + 1)) := by rw [and_bitsU, hAn.out]
            have nx1 := notU_bvF Di
            have nx2 : bits .xor .u64 18446744073709551615 (bvI Di) = bvI (~~~Di) := nx1
            have ox : bits .or .u64 (bvI Y) (bvI (~~~Di)) = bvI (covB l D (i + 1)) := by rw [or_bitsU, HN.out]
            go_wp2_with fail
            go_roundw
            case rel => exact ⟨i + 1, by omega, by go_num, rfl, by rw [show bits .xor .u64 (if IntKind.u64.signed = true then -1 else IntKind.u64.max) (bvI Di) = bvI (~~~Di) from notU_bvF Di, ox], HBl_41.out⟩
            case measure => simp [intOf]; omega
        · have y2 : (bvI Di == 0) = false := by rw [beq_eq_false_iff_ne]; exact fun e => hz ((show bvI Di = bvI 0#64 ↔ Di = 0#64 from bvI_inj).1 e)
          have y3 : ¬ bvI Di = 0 := by simpa using y2
          have Y1 := Lib.hid (hz); clear hz Hd0
          rcases hs with _ | _
          · have HN := Lib.hid (hCn.out rfl)
            clear hCn hCy
            have ax : bits .and .u64 (bvI X) (bvI Di) = bvI (anD D (i + 1)) := by rw [and_bitsU, hAn.out]
            have HN2 := HN.out
            go_wp2_with fail
            go_roundw
            case rel => exact ⟨i + 1, by omega, by go_num, rfl, by rw [HN.out], HBl_41.out⟩
            case measure => simp [intOf]; omega
          · have HN := Lib.hid (hCy.out rfl)
            clear hCn hCy
            have ax : bits .and .u64 (bvI X) (bvI Di) = bvI (anD D (i + 1)) := by rw [and_bitsU, hAn.out]
            have nx1 := notU_bvF Di
            have nx2 : bits .xor .u64 18446744073709551615 (bvI Di) = bvI (~~~Di) := nx1
            have ox : bits .or .u64 (bvI Y) (bvI (~~~Di)) = bvI (covB l D (i + 1)) := by rw [or_bitsU, HN.out]
            go_wp2_with fail
            go_roundw
            case rel => exact ⟨i + 1, by omega, by go_num, rfl, by rw [show bits .xor .u64 (if IntKind.u64.signed = true then -1 else IntKind.u64.max) (bvI Di) = bvI (~~~Di) from notU_bvF Di, ox], HBl_41.out⟩
            case measure => simp [intOf]; omega
    obtain rfl : i = n := by omega
    rw [HALL.out.1, HALL.out.2.1]
    have hb61 := hB
    obtain ⟨w61, hw61⟩ : ∃ x : World, x = wr := ⟨_, rfl⟩
    rw [← hw61] at hb61 ⊢
    clear hw61 hB hi hin HC9 HC10 HAT
    clear L2_15
    have F10_61 := Lib.hid (F10_15.out.below hb61 F10_15.out.lt)
    have F15_61 := Lib.hid (F15_15.out.below hb61 F15_15.out.lt)
    have HP_61 := Lib.hid (HP_15.out.below hb61 (Nat.le_refl _))
    have k_61 := Lib.hid (k_15.out.trans (hb61.mono k_15.out.size))
    clear F10_15 F15_15 HP_15 k_15
    clear hb61
    have hl1 := HALL.out.2.2.1
    have y1 : ¬ ((l.length : Nat) : Int) = 0 := by omega
    have y2 : (((l.length : Nat) : Int) == 0) = false := by rw [beq_eq_false_iff_ne]; omega
    clear HALL
    have x1 := not0_U
    have x3 : bits .xor .u64 (if IntKind.u64.signed = true then -1 else IntKind.u64.max) 0 = 18446744073709551615 := not0_U
    have x2 : bits .xor .u64 18446744073709551615 0 = 18446744073709551615 := not0_U
    go_wp2_with (first | (refine wpList_load_arr (F10_61.out) 29 (.tmp 10) rfl rfl rfl Tryz.underlying29 sizePrint ?_) | (refine wpList_load_arr (F15_61.out) 29 (.tmp 15) rfl rfl rfl Tryz.underlying29 sizePrint ?_))
    refine (HC11.out _ (HE.out.below k_61.out (Nat.le_refl _))).mono ?_; rintro e w62 ⟨rfl, hb62⟩
    have F10_62 := Lib.hid (F10_61.out.below hb62 F10_61.out.lt)
    have F15_62 := Lib.hid (F15_61.out.below hb62 F15_61.out.lt)
    have HP_62 := Lib.hid (HP_61.out.below hb62 (Nat.le_refl _))
    have k_62 := Lib.hid (k_61.out.trans (hb62.mono k_61.out.size))
    clear F10_61 F15_61 HP_61 k_61
    clear hb62
    clear HC11 x1 x2 x3 y1 y2 hl1 F15_62
    go_wp2_with fail
    go_loopw [37] (fun kv wr => ∃ k : Nat, k ≤ 64 ∧ kv = .int .i64 (k : Int) ∧ Below w62.heap.size w62 wr) (fun kv _ => 64 - (intOf kv).toNat)
    case atStart => exact ⟨0, by omega, rfl, Below.refl _ _⟩
    case round =>
      obtain ⟨k, hk, rfl, hB⟩ := hrel
      by_cases hk64 : k < 64
      · have hk64' : (k : Int) < 64 := by omega
        have HB0 := Lib.hid hB; clear hB
        go_wp2_with fail
        go_loopw [38, 39, 40] (fun lv hv jv wr => ∃ j : Nat, j ≤ i ∧ jv = .int .i64 (j : Int) ∧ lv = .int .i64 ((cN (fun v => decide (v < M k)) (fun i => g i k) j : Nat) : Int) ∧ hv = .int .i64 ((cN (fun v => decide (M k < v)) (fun i => g i k) j : Nat) : Int) ∧ Below w62.heap.size w62 wr) (fun _ _ jv _ => i - (intOf jv).toNat)
        case atStart => exact ⟨0, Nat.zero_le _, rfl, rfl, rfl, HB0.out⟩
        case round =>
          obtain ⟨j, hj, rfl, rfl, rfl, hB⟩ := hrel
          by_cases hji : j < i
          · have hji' : (j : Int) < i := by omega
            rcases (HP_62.out.below hB (Nat.le_refl _)) with h0 | ⟨b0, o0, hbo, hlb, hcc⟩
            · exfalso; omega
            injection hbo with hbo
            injection hbo with hb0 ho0
            subst hb0 ho0
            have c1 := hcc j hji k hk64
            have c2 := (F10_62.out.below hB F10_62.out.lt).cell hk64
            have HB := Lib.hid hB
            clear hB hcc
            have HL := Lib.hid (show cN (fun v => decide (v < M k)) (fun i => g i k) (j + 1) = cN (fun v => decide (v < M k)) (fun i => g i k) j + if decide (g j k < M k) = true then 1 else 0 from rfl)
            have HH := Lib.hid (show cN (fun v => decide (M k < v)) (fun i => g i k) (j + 1) = cN (fun v => decide (M k < v)) (fun i => g i k) j + if decide (M k < g j k) = true then 1 else 0 from rfl)
            have l1 := cN_lo.cN_le (fun v => decide (v < M k)) (fun i => g i k) j
            have l2 := cN_lo.cN_le (fun v => decide (M k < v)) (fun i => g i k) j
            generalize cN (fun v => decide (v < M k)) (fun i => g i k) j = nl at *
            generalize cN (fun v => decide (M k < v)) (fun i => g i k) j = nh at *
            rw [Nat.zero_add] at c1
            generalize M k = m at *
            generalize g j k = v at *
            rcases Int.lt_trichotomy v m with hv | hv | hv
            · have v1 : ¬ m < v := by omega
              rw [if_pos (decide_eq_true hv)] at HL
              rw [if_neg (by rw [decide_eq_true_eq]; omega)] at HH
              go_wp2_with fail
              go_quiet (fail)
              go_wp2_with fail
              go_quiet (fail)
              go_wp2_with fail
              go_roundw
              case rel => exact ⟨j + 1, by omega, by go_num, by rw [HL.out]; go_num, by rw [HH.out]; go_num, below_drewU HB.out _⟩
              case measure => simp [intOf]; omega
            · subst hv
              have v1 : ¬ v < v := by omega
              rw [if_neg (by rw [decide_eq_true_eq]; omega)] at HL
              rw [if_neg (by rw [decide_eq_true_eq]; omega)] at HH
              go_wp2_with fail
              go_quiet (fail)
              go_wp2_with fail
              go_quiet (fail)
              go_wp2_with fail
              go_roundw
              case rel => exact ⟨j + 1, by omega, by go_num, by rw [HL.out]; go_num, by rw [HH.out]; go_num, below_drewU HB.out _⟩
              case measure => simp [intOf]; omega
            · have v1 : ¬ v < m := by omega
              rw [if_neg (by rw [decide_eq_true_eq]; omega)] at HL
              rw [if_pos (decide_eq_true hv)] at HH
              go_wp2_with fail
              go_quiet (fail)
              go_wp2_with fail
              go_quiet (fail)
              go_wp2_with fail
              go_roundw
              case rel => exact ⟨j + 1, by omega, by go_num, by rw [HL.out]; go_num, by rw [HH.out]; go_num, below_drewU HB.out _⟩
              case measure => simp [intOf]; omega
          obtain rfl : j = i := by omega
          have HB := Lib.hid hB
          have hmd := HMD.out k
          clear hB
          generalize cN (fun v => decide (v < M k)) (fun i => g i k) j = nl at *
          generalize cN (fun v => decide (M k < v)) (fun i => g i k) j = nh at *
          have u1 : ¬ (j : Int) < 2 * (nl : Nat) := by omega
          have u2 : ¬ (j : Int) < 2 * (nh : Nat) := by omega
          go_wp2_with fail
          go_roundw
          case rel => exact ⟨k + 1, by omega, by go_num, HB.out⟩
          case measure => simp [intOf]; omega
      obtain rfl : k = 64 := by omega
      rw [show ((64 : Nat) : Int) = 64 from rfl]
      have hb171 := hB
      obtain ⟨w171, hw171⟩ : ∃ x : World, x = wr := ⟨_, rfl⟩
      rw [← hw171] at hb171 ⊢
      clear hw171 hB hk hk64 HMD
      have F10_171 := Lib.hid (F10_62.out.below hb171 F10_62.out.lt)
      have HP_171 := Lib.hid (HP_62.out.below hb171 (Nat.le_refl _))
      have k_171 := Lib.hid (k_62.out.trans (hb171.mono k_62.out.size))
      clear F10_62 HP_62 k_62
      clear hb171
      go_wp2_with (first | (refine wpList_load_arr (F10_171.out) 29 (.tmp 10) rfl rfl rfl Tryz.underlying29 sizePrint ?_))
      refine (HC12.out _ HP_171.out (HE.out.below k_171.out (Nat.le_refl _))).mono ?_; rintro e w172 ⟨rfl, hb172⟩
      have F10_172 := Lib.hid (F10_171.out.below hb172 F10_171.out.lt)
      have HP_172 := Lib.hid (HP_171.out.below hb172 (Nat.le_refl _))
      have k_172 := Lib.hid (k_171.out.trans (hb172.mono k_171.out.size))
      clear F10_171 HP_171 k_171
      clear hb172
      go_wp2_with (first | (refine wpList_load_arr (F10_172.out) 29 (.tmp 10) rfl rfl rfl Tryz.underlying29 sizePrint ?_))
      refine (HC13.out _ HP_172.out).mono ?_; rintro e w173 ⟨rfl, hb173⟩
      have F10_173 := Lib.hid (F10_172.out.below hb173 F10_172.out.lt)
      have HP_173 := Lib.hid (HP_172.out.below hb173 (Nat.le_refl _))
      have k_173 := Lib.hid (k_172.out.trans (hb173.mono k_172.out.size))
      clear F10_172 HP_172 k_172
      clear hb173
      go_wp2_with fail
      go_ret
      exact ⟨rfl, k_173.out⟩
end Go.Proofs.YtmibinfaafhgdaaGreatDoor

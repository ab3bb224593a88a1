/-
  The walk of the law FnSpots: it returns true for all bytes. Condition: the listed variables hold what the row lists; the world is one that the program allows.
-/
import Derived.Test.YtiinkfnamhcekaaGreatDoorSpG
import Derived.Test.YtiinkfnamhcekaaGreatDoorEachE
import Derived.Test.YtiinkfnamhcekaaGreatDoorQuietD
namespace Go.Proofs.YtiinkfnamhcekaaGreatDoor
open Go.RowKit

theorem ofI_bv (a : BitVec 64) : BitVec.ofInt 64 (bvI a) = a := by
  unfold bvI
  rw [BitVec.ofInt_natCast, BitVec.ofNat_toNat]; simp
theorem and_bits (a b : BitVec 64) : bits .and .u64 (bvI a) (bvI b) = bvI (a &&& b) := by
  have h : bits .and .u64 (bvI a) (bvI b) = IntKind.u64.wrap (((BitVec.ofInt 64 (bvI a) &&& BitVec.ofInt 64 (bvI b)).toNat : Nat) : Int) := rfl
  rw [h, ofI_bv, ofI_bv]
  exact wrap_bv _
theorem run_load_cellsS {P : Program} {o : Oper} {ρ : Operand → Value} {w : World} {b : Nat} {κ : IntKind} {n : Nat} {f : Nat → Int} {m : Nat} {e : TypeId}
    (h : ∀ j, j < n → w.cell? ⟨b, j, none⟩ = some (.int κ (f j))) (ty : TypeId) (x : Operand) (ho : o.op = .load ty x) (hx : ρ x = .pointer (some ⟨b, 0, none⟩)) (hu : P.underlying ty = some (.array m e)) (hi : (P.info? ty).map (·.size) = some n) :
    (execOp ρ o).run P w = .ok (.value (.agg (arrV κ n f))) w := by
  have hl : (loadCells ⟨b, 0, none⟩ n).run P w = .ok (arrV κ n f) w := by
    have hl := run_loadCells_list (P := P) w ⟨b, 0, none⟩ (arrV κ n f).toList (fun j v hv => by
      have hj : j < n := by
        have := (List.getElem?_eq_some_iff.1 hv).1
        simpa [arrV_size] using this
      rw [show (⟨b, 0, none⟩ : Addr).add j = ⟨b, j, none⟩ by unfold Addr.add; split <;> simp_all]
      rw [h j hj]
      have h2 : (arrV κ n f)[j]? = some v := by simpa using hv
      rw [arrV_get hj] at h2
      exact h2)
    simpa [arrV_size] using hl
  cases hq : P.info? ty with
  | none => simp [hq] at hi
  | some i =>
    have hs : i.size = n := by simpa [hq] using hi
    have hagg : (isAgg ty).run P w = .ok true w := by
      unfold isAgg
      rw [Sem.run_bind, run_underlying hu w]
      simp
    unfold execOp
    simp [ho, hx, Instr.loadAt, Instr.sureAddr, loadVar, Sem.run_bind, hagg, sizeOf, typeInfo, hq, hs, hl]
theorem wpQuiet_valS {P : Program} {ops : Array Oper} {C : World → Prop} {Q : Act → Prop} {a : Act} {o : Oper} {rest : List Oper} {v : Value} (hgd : o.guard = none) (hr : ∀ W, C W → (execOp a.eval o).run P W = .ok (.value v) W)
    (hK : wpQuiet P ops C Q rest (a.put o.dst v)) : wpQuiet P ops C Q (o :: rest) a :=
  BigFrame.wpQuiet_want (by simp [Region.wanted, hgd]) fun _ hK' => ⟨_, fun W hW => by unfold Oper.quietAt; rw [hr W hW]; exact ⟨rfl, rfl⟩, hK' _ hK⟩
theorem cop_ofS {w w' : World} {e : Ending} (h : CopiesOut w e w') : ∃ g k c f, e = .returned (.slice (some ⟨g, 0, none⟩) k c) ∧ (1 ≤ k ∧ k ≤ 5) ∧ Dn 64 f ∧ (∀ j, j < 64 → w'.cell? ⟨g, j, none⟩ = some (.int .i16 (f j))) ∧ Below w.heap.size w w' := by
  obtain ⟨g, k, c, he, h1, h5, _, ⟨_, f, hd, hc⟩, hb⟩ := h
  exact ⟨g, k, c, f, he, ⟨h1, h5⟩, fun j hj => hd j (by omega), fun j hj => hc j (by omega), hb⟩

set_option maxRecDepth 100000 in
set_option maxHeartbeats 60000000 in
theorem walk_FnSpots (A : Option Addr) (nc cc : Nat) (bs : Nat → Int) (A' : Option Addr) (nm cm : Nat) (bs' : Nat → Int) (w : World) (hL : laidMetH Tryz.prog Rows.fnSpotsRow.laid w) (hsh : w.ShapedOpen Tryz.prog)
    (hr : BytesIn w A nc bs) (hm : nc ≤ maxLen) (hbs : ∀ j, j < nc → 0 ≤ bs j ∧ bs j ≤ 255) (hr' : BytesIn w A' nm bs') (hm' : nm ≤ maxLen) (hbs' : ∀ j, j < nm → 0 ≤ bs' j ∧ bs' j ≤ 255) :
    Calls Tryz.prog 3 #[.slice A nc cc, .slice A' nm cm] w fun e w' => e = .returned (.bool true) ∧ Below w.heap.size w w' := by
  obtain ⟨s, hE⟩ := errEnv_of_row hL (by kernel_rfl) (by kernel_rfl)
  have hT := dbEnv_of_row hL (by kernel_rfl) (by kernel_rfl)
  obtain ⟨m0, hm0⟩ := maxLen_cell hsh
  clear hL hsh
  unfold maxLen at hm hm'
  have b1 := f6big_any A nc cc w (by omega)
  have b2 := f6big_any A' nm cm w (by omega)
  by_cases h1 : 4096 < nc
  · rw [decide_eq_true h1] at b1
    have B1 := Lib.hid b1
    clear b1 b2 hE hT hr hbs hr' hbs' hm0
    go_enter Tryz.func3, Tryz.ntmps3
    go_wp2_with fail
    refine B1.out.mono ?_; rintro e w1 ⟨rfl, rfl⟩
    go_wp2_with fail
    go_ret
    exact ⟨rfl, Below.refl _ _⟩
  rw [decide_eq_false h1] at b1
  by_cases h2 : 4096 < nm
  · rw [decide_eq_true h2] at b2
    have B1 := Lib.hid b1
    have B2 := Lib.hid b2
    clear b1 b2 hE hT hr hbs hr' hbs' hm0
    go_enter Tryz.func3, Tryz.ntmps3
    go_wp2_with fail
    refine B1.out.mono ?_; rintro e w1 ⟨rfl, rfl⟩
    go_wp2_with fail
    refine B2.out.mono ?_; rintro e w1 ⟨rfl, rfl⟩
    go_wp2_with fail
    go_ret
    exact ⟨rfl, Below.refl _ _⟩
  rw [decide_eq_false h2] at b2
  have B1 := Lib.hid b1
  have B2 := Lib.hid b2
  have Hma := Lib.hid (P6Mask_any A nc cc bs (by omega) hbs w hr)
  have Hco := Lib.hid (fun (W : World) (h : Below w.heap.size w W) => P6Copies_any A' nm cm bs' (by omega) hbs' W (hr'.below h (Nat.le_refl _)))
  have HE := Lib.hid hE
  have HT := Lib.hid hT
  have HM0 := Lib.hid hm0
  clear b1 b2 hE hT hr hbs hr' hbs' h1 h2 hm hm' hm0
  go_enter Tryz.func3, Tryz.ntmps3
  go_wp2_with fail
  refine B1.out.mono ?_; rintro e w1 ⟨rfl, rfl⟩
  go_wp2_with fail
  refine B2.out.mono ?_; rintro e w1 ⟨rfl, rfl⟩
  go_wp2_with fail
  clear B1 B2
  refine Hma.out.mono ?_; rintro e w1 ⟨M, rfl, hb1⟩
  clear Hma
  have k1 := Lib.hid hb1; clear hb1
  obtain ⟨z, hz⟩ : ∃ z, z = decide (M = 0#64) := ⟨_, rfl⟩
  have hz0 : (bvI M = 0) = (z = true) := by
    rw [hz]; simp only [decide_eq_true_eq]
    exact propext (show bvI M = bvI 0#64 ↔ M = 0#64 from bvI_inj)
  have hz1 : (bvI M == 0) = z := by rw [Bool.eq_iff_iff]; simpa using Eq.to_iff hz0
  have hz2 : (bvI M != 0) = !z := by rw [bne, hz1]
  have hg1 : (grC M == 0) = !z := by
    unfold grC; rw [hz]
    by_cases h : M = 0#64 <;> simp [h]
  have hmt : Calls Tryz.prog 7 #[.int .u64 (bvI M)] w1 fun e w' => e = .returned (.string ⟨(mtx M 64).toArray⟩) ∧ w1 = w' := MaskText_any M w1
  have hrm := ReadMask_any s ⟨(mtx M 64).toArray⟩ (by show (mtx M 64).length ≤ 1048576; rw [mtx_72]; decide) m0 w1 (HE.out.below k1.out (Nat.le_refl _)) (below_cellOf k1.out HM0.out (Nat.le_refl _))
  rw [show rdX (⟨(mtx M 64).toArray⟩ : ByteArray).data.toList = bvI M from (rd_yes rfl).1, show rdC (⟨(mtx M 64).toArray⟩ : ByteArray).data.toList = 0 from (rd_yes rfl).2] at hrm
  have Hmt := Lib.hid hmt; have Hrm := Lib.hid hrm
  clear hmt hrm HM0 hz0
  go_wp2_with fail
  refine (Hmt.out).mono ?_; rintro e w2 ⟨rfl, rfl⟩
  go_wp2_with fail
  refine (Hrm.out).mono ?_; rintro e w3 ⟨rfl, hb3⟩
  have k_3 := Lib.hid (k1.out.trans (hb3.mono k1.out.size))
  clear k1
  clear hb3
  clear Hmt Hrm
  go_wp2_with fail
  refine (SpotsOf_any M _).mono ?_; rintro e w4 ⟨v4, rfl, o4, hb4⟩
  obtain ⟨S1, c1, rfl, hs1⟩ := u64_cells o4 rfl
  clear o4
  have k_4 := Lib.hid (k_3.out.trans (hb4.mono k_3.out.size))
  clear k_3
  clear hb4
  have H1 := Lib.hid (show MskIn w4 S1 (spL M 64).length (fun j => (spL M 64).getD j 0#64) from hs1)
  clear hs1
  go_wp2_with fail
  refine (specSpotsOf_any M _).mono ?_; rintro e w5 ⟨v5, rfl, o5, hb5⟩
  obtain ⟨S2, c2, rfl, hs2⟩ := u64_cells o5 rfl
  clear o5
  have H1_5 := Lib.hid (H1.out.below hb5 (Nat.le_refl _))
  have k_5 := Lib.hid (k_4.out.trans (hb5.mono k_4.out.size))
  clear H1 k_4
  clear hb5
  have H2 := Lib.hid (show MskIn w5 S2 (spL M 64).length (fun j => (spL M 64).getD j 0#64) from hs2)
  clear hs2
  have hgs := fun W h => GreatestSpot_any s M W h
  rw [gstT_eq] at hgs
  have Hgs := Lib.hid hgs; clear hgs
  go_wp2_with fail
  refine (Hgs.out _ (HE.out.below k_5.out (Nat.le_refl _))).mono ?_; rintro e w6 ⟨rfl, hb6⟩
  have H1_6 := Lib.hid (H1_5.out.below hb6 (Nat.le_refl _))
  have H2_6 := Lib.hid (H2.out.below hb6 (Nat.le_refl _))
  have k_6 := Lib.hid (k_5.out.trans (hb6.mono k_5.out.size))
  clear H1_5 H2 k_5
  clear hb6
  clear Hgs
  go_wp2_with fail
  refine (GrowMask_any M _).mono ?_; rintro e w7 ⟨rfl, hb7⟩
  have H1_7 := Lib.hid (H1_6.out.below hb7 (Nat.le_refl _))
  have H2_7 := Lib.hid (H2_6.out.below hb7 (Nat.le_refl _))
  have k_7 := Lib.hid (k_6.out.trans (hb7.mono k_6.out.size))
  clear H1_6 H2_6 k_6
  clear hb7
  have hn64 : (spL M 64).length ≤ 64 := spL_len (M := M) 64
  go_wp2_with fail
  refine (SameMasks_any S1 S2 (spL M 64).length c1 c2 _ (by omega) _ H1_7.out H2_7.out).mono ?_; rintro e w8 ⟨rfl, hb8⟩
  have H1_8 := Lib.hid (H1_7.out.below hb8 (Nat.le_refl _))
  have H2_8 := Lib.hid (H2_7.out.below hb8 (Nat.le_refl _))
  have k_8 := Lib.hid (k_7.out.trans (hb8.mono k_7.out.size))
  clear H1_7 H2_7 k_7
  clear hb8
  clear H1_8
  go_wp2_with fail
  refine (specGrowMask_any M _).mono ?_; rintro e w9 ⟨rfl, rfl⟩
  have hg2 := grow_and M
  have hFs := Lib.hid (uni_spots M)
  have hFe := Lib.hid (someB_end M)
  have hF0 := Lib.hid (someB_0 M)
  have hFg := Lib.hid (fun i D (h : (spL M 64)[i]? = some D) => And.intro (good_spots M 64 i D h) (And.intro (gr_cnt h) (And.intro (someB_succ h) (uni_take h))))
  rw [← hz] at hF0
  have Hz := Lib.hid hz; clear hz
  generalize spL M 64 = l at *
  generalize grB M = GR at *
  have hga : bits .and .u64 (bvI (growB M)) (bvI M) = bvI M := by rw [and_bits, hg2]
  go_wp2_with fail
  go_loopw [13, 14, 15] (fun av sv kv wr => ∃ i : Nat, i ≤ l.length ∧ kv = .int .i64 (i : Int) ∧ av = .int .u64 (bvI (uni (l.take i))) ∧ sv = .bool (someB M i) ∧ Below w8.heap.size w8 wr) (fun _ _ kv _ => l.length - (intOf kv).toNat)
  case atStart => exact ⟨0, by omega, rfl, rfl, by rw [hF0.out], Below.refl _ _⟩
  case round =>
    obtain ⟨i, hi, rfl, rfl, rfl, hB⟩ := hrel
    by_cases hil : i < l.length
    · obtain ⟨D, hD⟩ : ∃ D, l[i]? = some D := ⟨_, List.getElem?_eq_getElem hil⟩
      have hFi := hFg.out i D hD
      rcases H2_8.out.below hB (Nat.le_refl _) with h0 | ⟨g2, rfl, hg2l, hc2⟩
      · exfalso; omega
      have cD : wr.cell? ⟨g2, i, none⟩ = some (.int .u64 (bvI D)) := by have h : wr.cell? ⟨g2, i, none⟩ = some (.int .u64 (bvI (l.getD i 0#64))) := hc2 i hil; rw [List.getD_eq_getElem?_getD, hD] at h; exact h
      have hil2 : (i : Int) < l.length := by omega
      obtain ⟨⟨hD0, hDa, hDg⟩, hDc, hDs, hDu⟩ := hFi
      have d1 : (bvI D == 0) = false := by rw [beq_eq_false_iff_ne]; exact fun e => hD0 ((show bvI D = bvI 0#64 ↔ D = 0#64 from bvI_inj).1 e)
      have d1b : ¬ bvI D = 0 := by simpa using d1
      have d2 : bits .and .u64 (bvI (uni (l.take i))) (bvI D) = 0 := by rw [and_bits, hDa]; rfl
      have d3 : bits .and .u64 (bvI (growB D)) (bvI M) = bvI D := by rw [and_bits, hDg]
      have d4 : ¬ ((cntB GR 64 : Nat) : Int) < ((cntB D 64 : Nat) : Int) := by omega
      have HU := Lib.hid hDu
      have HS := Lib.hid hDs
      have HB := Lib.hid hB
      have e1 : (bvI D == bvI GR) = decide (D = GR) := by rw [Bool.eq_iff_iff]; simp [bvI_inj]
      have e2 : decide (bvI D = bvI GR) = decide (D = GR) := by rw [Bool.eq_iff_iff]; simp [bvI_inj]
      have Hgd := Lib.hid (fun W => GrowMask_any D W)
      have Hc1 := Lib.hid (fun W => CellsInB_any D W)
      have Hc2 := Lib.hid (fun W => CellsInB_any GR W)
      clear hDu hDs hB hc2 hD0 hDa hDg hDc hD hg2l
      generalize cntB GR 64 = nG at *
      generalize cntB D 64 = nD at *
      generalize growB D = GD at *
      generalize uni (l.take i) = U at *
      generalize decide (D = GR) = eqb at *
      go_wp2_with fail
      have n0 := below_nonempty wr
      have fD := fun (x : WIn (Below wr.heap.size wr)) => inCell cD x
      refine wp_region_quietD (Below wr.heap.size wr) (by kernel_rfl) (by kernel_rfl) (below_drew1 _) ?_
      repeat (go_big_quiet_step (first | (go_at_call 11; exact inCall _ (Hgd.out _)) | (go_at_call 14; exact inCallS _ (Hc1.out _)) | (go_at_call 14; exact inCallS _ (Hc2.out _))))
      refine wpQuiet_nil ?_
      rintro _ ⟨y, rfl⟩
      have hy := Lib.hid y.ok
      have cD2 := fD y
      generalize y.w = w40 at *
      clear fD n0 cD
      have HB40 := Lib.hid (HB.out.trans (hy.out.mono HB.out.size))
      clear hy HB
      rcases hsm : someB M i with _ | _
      · rw [hsm] at HS
        have HS2 := Lib.hid HS.out; clear HS hsm
        go_wp2_with (refine wpList_yield rfl (run_or_bv (a := U) (b := D) rfl rfl rfl) ?_)
        go_roundw
        case rel => exact ⟨i + 1, by omega, by go_num, by rw [HU.out], by rw [HS2.out]; simp, HB40.out⟩
        case measure => simp [intOf]; omega
      · rw [hsm] at HS
        have HS2 := Lib.hid HS.out; clear HS hsm
        go_wp2_with (refine wpList_yield rfl (run_or_bv (a := U) (b := D) rfl rfl rfl) ?_)
        go_roundw
        case rel => exact ⟨i + 1, by omega, by go_num, by rw [HU.out], by rw [HS2.out]; simp, HB40.out⟩
        case measure => simp [intOf]; omega
    obtain rfl : i = l.length := by omega
    have hal : bvI (uni (l.take l.length)) = bvI M := by rw [List.take_length, hFs.out]
    rw [hal, hFe.out]
    have hb51 := hB
    obtain ⟨w51, hw51⟩ : ∃ x : World, x = wr := ⟨_, rfl⟩
    rw [← hw51] at hb51 ⊢
    clear hw51 hB hi hal hFs hFe hF0 hFg hg2 hz1 hz2 hg1
    clear H2_8
    have k_51 := Lib.hid (k_8.out.trans (hb51.mono k_8.out.size))
    clear k_8
    clear hb51
    go_wp2_with fail
    refine ((Hco.out _ k_51.out).mono fun _ _ h => cop_ofS h).mono ?_; rintro e w52 ⟨ga, ka, ca, f, rfl, hka, hf, hca, hb52⟩
    have k_52 := Lib.hid (k_51.out.trans (hb52.mono k_51.out.size))
    clear k_51
    clear hb52
    clear Hco
    have hka1 := hka.1
    have hka5 := hka.2
    clear hka
    have hfS : S16 f := fun k hk => by have := hf k hk; omega
    have hfd : dnsB f = true := hf.dns
    obtain ⟨i16, hi16⟩ := info16
    have hcl : Tryz.prog.cellsOf 35 = 1 := by kernel_rfl
    have heq := fun (a : Nat → Int) W => (run_equal_arr (P := Tryz.prog) W a a Tryz.underlying37 Tryz.underlying35 hi16 hcl).trans (by rw [eqN_self a 64])
    have Heq := Lib.hid heq; clear heq hi16 hcl
    have z53 := HasArr.zero w52 37 (b := w52.heap.size) (by simp)
    have t53 := below_setRow ((Below.refl w52.heap.size w52).alloc (Nat.le_refl _) (.cells #[.int .i16 0, .int .i16 0, .int .i16 0, .int .i16 0, .int .i16 0, .int .i16 0, .int .i16 0, .int .i16 0, .int .i16 0, .int .i16 0, .int .i16 0, .int .i16 0, .int .i16 0, .int .i16 0, .int .i16 0, .int .i16 0, .int .i16 0, .int .i16 0, .int .i16 0, .int .i16 0, .int .i16 0, .int .i16 0, .int .i16 0, .int .i16 0, .int .i16 0, .int .i16 0, .int .i16 0, .int .i16 0, .int .i16 0, .int .i16 0, .int .i16 0, .int .i16 0, .int .i16 0, .int .i16 0, .int .i16 0, .int .i16 0, .int .i16 0, .int .i16 0, .int .i16 0, .int .i16 0, .int .i16 0, .int .i16 0, .int .i16 0, .int .i16 0, .int .i16 0, .int .i16 0, .int .i16 0, .int .i16 0, .int .i16 0, .int .i16 0, .int .i16 0, .int .i16 0, .int .i16 0, .int .i16 0, .int .i16 0, .int .i16 0, .int .i16 0, .int .i16 0, .int .i16 0, .int .i16 0, .int .i16 0, .int .i16 0, .int .i16 0, .int .i16 0] 37)) (b := w52.heap.size) (by simp) (arrV .i16 64 f)
    have F16_n53 := Lib.hid (z53.setRow .i16 f)
    have k_53 := Lib.hid (k_52.out.trans (t53.mono k_52.out.size))
    clear k_52
    clear t53
    by_cases hall : M = 18446744073709551615#64
    · have ra := repair_all s f hfS hfd
      rw [← hall] at ra
      have R1 := Lib.hid ra.1
      have R2 := Lib.hid ra.2.1
      have R3 := Lib.hid ra.2.2
      have hxm : bits .xor .u64 IntKind.u64.max (bvI M) = 0 := by rw [notU_bv, hall]; rfl
      have hxm2 : bits .xor .u64 18446744073709551615 (bvI M) = 0 := hxm
      clear ra hall
      go_wp2_with (first | (refine wpList_yield rfl (run_load_cellsS (f := f) hca 37 (.tmp 159) rfl rfl Tryz.underlying37 sizePrint) ?_) | (refine wpList_store_arr (z53) 37 (.tmp 16) (.tmp 160) rfl rfl rfl rfl sizePrint ?_) | (refine wpList_load_arr (F16_n53.out) 37 (.tmp 16) rfl rfl rfl Tryz.underlying37 sizePrint ?_))
      clear z53 hca
      generalize ((w52.alloc (.cells #[.int .i16 0, .int .i16 0, .int .i16 0, .int .i16 0, .int .i16 0, .int .i16 0, .int .i16 0, .int .i16 0, .int .i16 0, .int .i16 0, .int .i16 0, .int .i16 0, .int .i16 0, .int .i16 0, .int .i16 0, .int .i16 0, .int .i16 0, .int .i16 0, .int .i16 0, .int .i16 0, .int .i16 0, .int .i16 0, .int .i16 0, .int .i16 0, .int .i16 0, .int .i16 0, .int .i16 0, .int .i16 0, .int .i16 0, .int .i16 0, .int .i16 0, .int .i16 0, .int .i16 0, .int .i16 0, .int .i16 0, .int .i16 0, .int .i16 0, .int .i16 0, .int .i16 0, .int .i16 0, .int .i16 0, .int .i16 0, .int .i16 0, .int .i16 0, .int .i16 0, .int .i16 0, .int .i16 0, .int .i16 0, .int .i16 0, .int .i16 0, .int .i16 0, .int .i16 0, .int .i16 0, .int .i16 0, .int .i16 0, .int .i16 0, .int .i16 0, .int .i16 0, .int .i16 0, .int .i16 0, .int .i16 0, .int .i16 0, .int .i16 0, .int .i16 0] 37)).setRow (w52.heap.size) (arrV .i16 64 f)) = V53 at *
      refine (R2.out _ (HE.out.below k_53.out (Nat.le_refl _))).mono ?_; rintro e w54 ⟨rfl, hb54⟩
      have F16_54 := Lib.hid (F16_n53.out.below hb54 F16_n53.out.lt)
      have k_54 := Lib.hid (k_53.out.trans (hb54.mono k_53.out.size))
      clear F16_n53 k_53
      clear hb54
      have z55 := HasArr.zero w54 37 (b := w54.heap.size) (by simp)
      have t55 := below_setRow ((Below.refl w54.heap.size w54).alloc (Nat.le_refl _) (.cells #[.int .i16 0, .int .i16 0, .int .i16 0, .int .i16 0, .int .i16 0, .int .i16 0, .int .i16 0, .int .i16 0, .int .i16 0, .int .i16 0, .int .i16 0, .int .i16 0, .int .i16 0, .int .i16 0, .int .i16 0, .int .i16 0, .int .i16 0, .int .i16 0, .int .i16 0, .int .i16 0, .int .i16 0, .int .i16 0, .int .i16 0, .int .i16 0, .int .i16 0, .int .i16 0, .int .i16 0, .int .i16 0, .int .i16 0, .int .i16 0, .int .i16 0, .int .i16 0, .int .i16 0, .int .i16 0, .int .i16 0, .int .i16 0, .int .i16 0, .int .i16 0, .int .i16 0, .int .i16 0, .int .i16 0, .int .i16 0, .int .i16 0, .int .i16 0, .int .i16 0, .int .i16 0, .int .i16 0, .int .i16 0, .int .i16 0, .int .i16 0, .int .i16 0, .int .i16 0, .int .i16 0, .int .i16 0, .int .i16 0, .int .i16 0, .int .i16 0, .int .i16 0, .int .i16 0, .int .i16 0, .int .i16 0, .int .i16 0, .int .i16 0, .int .i16 0] 37)) (b := w54.heap.size) (by simp) (arrV .i16 64 (fun _ => 0))
      have F17_n55 := Lib.hid (z55.setRow .i16 (fun _ => 0))
      have F16_55 := Lib.hid (F16_54.out.below t55 F16_54.out.lt)
      have k_55 := Lib.hid (k_54.out.trans (t55.mono k_54.out.size))
      clear F16_54 k_54
      clear t55
      go_wp2_with (first | (refine wpList_store_arr (z55) 37 (.tmp 17) (.tmp 165) rfl rfl rfl rfl sizePrint ?_) | (refine wpList_load_arr (F16_55.out) 37 (.tmp 16) rfl rfl rfl Tryz.underlying37 sizePrint ?_))
      clear z55
      generalize ((w54.alloc (.cells #[.int .i16 0, .int .i16 0, .int .i16 0, .int .i16 0, .int .i16 0, .int .i16 0, .int .i16 0, .int .i16 0, .int .i16 0, .int .i16 0, .int .i16 0, .int .i16 0, .int .i16 0, .int .i16 0, .int .i16 0, .int .i16 0, .int .i16 0, .int .i16 0, .int .i16 0, .int .i16 0, .int .i16 0, .int .i16 0, .int .i16 0, .int .i16 0, .int .i16 0, .int .i16 0, .int .i16 0, .int .i16 0, .int .i16 0, .int .i16 0, .int .i16 0, .int .i16 0, .int .i16 0, .int .i16 0, .int .i16 0, .int .i16 0, .int .i16 0, .int .i16 0, .int .i16 0, .int .i16 0, .int .i16 0, .int .i16 0, .int .i16 0, .int .i16 0, .int .i16 0, .int .i16 0, .int .i16 0, .int .i16 0, .int .i16 0, .int .i16 0, .int .i16 0, .int .i16 0, .int .i16 0, .int .i16 0, .int .i16 0, .int .i16 0, .int .i16 0, .int .i16 0, .int .i16 0, .int .i16 0, .int .i16 0, .int .i16 0, .int .i16 0, .int .i16 0] 37)).setRow (w54.heap.size) (arrV .i16 64 (fun _ => 0))) = V55 at *
      refine (R1.out _).mono ?_; rintro e w56 ⟨rfl, hb56⟩
      have F16_56 := Lib.hid (F16_55.out.below hb56 F16_55.out.lt)
      have F17_56 := Lib.hid (F17_n55.out.below hb56 F17_n55.out.lt)
      have k_56 := Lib.hid (k_55.out.trans (hb56.mono k_55.out.size))
      clear F16_55 F17_n55 k_55
      clear hb56
      have z57 := HasArr.zero w56 37 (b := w56.heap.size) (by simp)
      have t57 := below_setRow ((Below.refl w56.heap.size w56).alloc (Nat.le_refl _) (.cells #[.int .i16 0, .int .i16 0, .int .i16 0, .int .i16 0, .int .i16 0, .int .i16 0, .int .i16 0, .int .i16 0, .int .i16 0, .int .i16 0, .int .i16 0, .int .i16 0, .int .i16 0, .int .i16 0, .int .i16 0, .int .i16 0, .int .i16 0, .int .i16 0, .int .i16 0, .int .i16 0, .int .i16 0, .int .i16 0, .int .i16 0, .int .i16 0, .int .i16 0, .int .i16 0, .int .i16 0, .int .i16 0, .int .i16 0, .int .i16 0, .int .i16 0, .int .i16 0, .int .i16 0, .int .i16 0, .int .i16 0, .int .i16 0, .int .i16 0, .int .i16 0, .int .i16 0, .int .i16 0, .int .i16 0, .int .i16 0, .int .i16 0, .int .i16 0, .int .i16 0, .int .i16 0, .int .i16 0, .int .i16 0, .int .i16 0, .int .i16 0, .int .i16 0, .int .i16 0, .int .i16 0, .int .i16 0, .int .i16 0, .int .i16 0, .int .i16 0, .int .i16 0, .int .i16 0, .int .i16 0, .int .i16 0, .int .i16 0, .int .i16 0, .int .i16 0] 37)) (b := w56.heap.size) (by simp) (arrV .i16 64 (fun _ => 0))
      have F20_n57 := Lib.hid (z57.setRow .i16 (fun _ => 0))
      have F16_57 := Lib.hid (F16_56.out.below t57 F16_56.out.lt)
      have F17_57 := Lib.hid (F17_56.out.below t57 F17_56.out.lt)
      have k_57 := Lib.hid (k_56.out.trans (t57.mono k_56.out.size))
      clear F16_56 F17_56 k_56
      clear t57
      go_wp2_with (first | (refine wpList_store_arr (z57) 37 (.tmp 20) (.tmp 172) rfl rfl rfl rfl sizePrint ?_))
      clear z57
      generalize ((w56.alloc (.cells #[.int .i16 0, .int .i16 0, .int .i16 0, .int .i16 0, .int .i16 0, .int .i16 0, .int .i16 0, .int .i16 0, .int .i16 0, .int .i16 0, .int .i16 0, .int .i16 0, .int .i16 0, .int .i16 0, .int .i16 0, .int .i16 0, .int .i16 0, .int .i16 0, .int .i16 0, .int .i16 0, .int .i16 0, .int .i16 0, .int .i16 0, .int .i16 0, .int .i16 0, .int .i16 0, .int .i16 0, .int .i16 0, .int .i16 0, .int .i16 0, .int .i16 0, .int .i16 0, .int .i16 0, .int .i16 0, .int .i16 0, .int .i16 0, .int .i16 0, .int .i16 0, .int .i16 0, .int .i16 0, .int .i16 0, .int .i16 0, .int .i16 0, .int .i16 0, .int .i16 0, .int .i16 0, .int .i16 0, .int .i16 0, .int .i16 0, .int .i16 0, .int .i16 0, .int .i16 0, .int .i16 0, .int .i16 0, .int .i16 0, .int .i16 0, .int .i16 0, .int .i16 0, .int .i16 0, .int .i16 0, .int .i16 0, .int .i16 0, .int .i16 0, .int .i16 0] 37)).setRow (w56.heap.size) (arrV .i16 64 (fun _ => 0))) = V57 at *
      refine (R3.out _ (HE.out.below k_57.out (Nat.le_refl _))).mono ?_; rintro e w58 ⟨rfl, hb58⟩
      have F16_58 := Lib.hid (F16_57.out.below hb58 F16_57.out.lt)
      have F17_58 := Lib.hid (F17_57.out.below hb58 F17_57.out.lt)
      have F20_58 := Lib.hid (F20_n57.out.below hb58 F20_n57.out.lt)
      have k_58 := Lib.hid (k_57.out.trans (hb58.mono k_57.out.size))
      clear F16_57 F17_57 F20_n57 k_57
      clear hb58
      have q1 := Heq.out (fun _ => 0)
      go_wp2_with (first | (refine wpList_load_arrG (F17_58.out) 37 (.tmp 17) rfl rfl rfl Tryz.underlying37 sizePrint ?_) | (refine wpList_load_arrG (F20_58.out) 37 (.tmp 20) rfl rfl rfl Tryz.underlying37 sizePrint ?_))
      go_ret
      exact ⟨rfl, k_58.out⟩
    obtain ⟨N, hN, h0, hi, r1, r2, r3⟩ := repair_ok s f hfS hfd M hall
    have R1 := Lib.hid r1
    have R2 := Lib.hid r2
    have R3 := Lib.hid r3
    have hlb := loF_bd (f := f) (m := M) (fun k hk => hf k hk) 64 (Nat.le_refl _)
    have hGb := Lib.hid (fun c (hc : c < 64) => clF_end (f := f) (m := M) (N := N) hlb.1.1 hlb.2.2 (fun c hc hb => loF_le (f := f) hb 64 hc) h0 hc)
    have hGo := Lib.hid (fun c (hc : c < 64) (hb : M.getLsbD c = false) => clF_out (f := f) hc hb N)
    have HI := Lib.hid hi
    have H0 := Lib.hid h0
    clear r1 r2 r3 hi h0 hall
    generalize clF f M N = G at *
    go_wp2_with (first | (refine wpList_yield rfl (run_load_cellsS (f := f) hca 37 (.tmp 159) rfl rfl Tryz.underlying37 sizePrint) ?_) | (refine wpList_store_arr (z53) 37 (.tmp 16) (.tmp 160) rfl rfl rfl rfl sizePrint ?_) | (refine wpList_load_arr (F16_n53.out) 37 (.tmp 16) rfl rfl rfl Tryz.underlying37 sizePrint ?_))
    clear z53 hca
    generalize ((w52.alloc (.cells #[.int .i16 0, .int .i16 0, .int .i16 0, .int .i16 0, .int .i16 0, .int .i16 0, .int .i16 0, .int .i16 0, .int .i16 0, .int .i16 0, .int .i16 0, .int .i16 0, .int .i16 0, .int .i16 0, .int .i16 0, .int .i16 0, .int .i16 0, .int .i16 0, .int .i16 0, .int .i16 0, .int .i16 0, .int .i16 0, .int .i16 0, .int .i16 0, .int .i16 0, .int .i16 0, .int .i16 0, .int .i16 0, .int .i16 0, .int .i16 0, .int .i16 0, .int .i16 0, .int .i16 0, .int .i16 0, .int .i16 0, .int .i16 0, .int .i16 0, .int .i16 0, .int .i16 0, .int .i16 0, .int .i16 0, .int .i16 0, .int .i16 0, .int .i16 0, .int .i16 0, .int .i16 0, .int .i16 0, .int .i16 0, .int .i16 0, .int .i16 0, .int .i16 0, .int .i16 0, .int .i16 0, .int .i16 0, .int .i16 0, .int .i16 0, .int .i16 0, .int .i16 0, .int .i16 0, .int .i16 0, .int .i16 0, .int .i16 0, .int .i16 0, .int .i16 0] 37)).setRow (w52.heap.size) (arrV .i16 64 f)) = V53 at *
    refine (R2.out _ (HE.out.below k_53.out (Nat.le_refl _)) (HT.out.below k_53.out)).mono ?_; rintro e w84 ⟨rfl, hb84⟩
    have F16_84 := Lib.hid (F16_n53.out.below hb84 F16_n53.out.lt)
    have k_84 := Lib.hid (k_53.out.trans (hb84.mono k_53.out.size))
    clear F16_n53 k_53
    clear hb84
    have z85 := HasArr.zero w84 37 (b := w84.heap.size) (by simp)
    have t85 := below_setRow ((Below.refl w84.heap.size w84).alloc (Nat.le_refl _) (.cells #[.int .i16 0, .int .i16 0, .int .i16 0, .int .i16 0, .int .i16 0, .int .i16 0, .int .i16 0, .int .i16 0, .int .i16 0, .int .i16 0, .int .i16 0, .int .i16 0, .int .i16 0, .int .i16 0, .int .i16 0, .int .i16 0, .int .i16 0, .int .i16 0, .int .i16 0, .int .i16 0, .int .i16 0, .int .i16 0, .int .i16 0, .int .i16 0, .int .i16 0, .int .i16 0, .int .i16 0, .int .i16 0, .int .i16 0, .int .i16 0, .int .i16 0, .int .i16 0, .int .i16 0, .int .i16 0, .int .i16 0, .int .i16 0, .int .i16 0, .int .i16 0, .int .i16 0, .int .i16 0, .int .i16 0, .int .i16 0, .int .i16 0, .int .i16 0, .int .i16 0, .int .i16 0, .int .i16 0, .int .i16 0, .int .i16 0, .int .i16 0, .int .i16 0, .int .i16 0, .int .i16 0, .int .i16 0, .int .i16 0, .int .i16 0, .int .i16 0, .int .i16 0, .int .i16 0, .int .i16 0, .int .i16 0, .int .i16 0, .int .i16 0, .int .i16 0] 37)) (b := w84.heap.size) (by simp) (arrV .i16 64 G)
    have F17_n85 := Lib.hid (z85.setRow .i16 G)
    have F16_85 := Lib.hid (F16_84.out.below t85 F16_84.out.lt)
    have k_85 := Lib.hid (k_84.out.trans (t85.mono k_84.out.size))
    clear F16_84 k_84
    clear t85
    go_wp2_with (first | (refine wpList_store_arr (z85) 37 (.tmp 17) (.tmp 165) rfl rfl rfl rfl sizePrint ?_) | (refine wpList_load_arr (F16_85.out) 37 (.tmp 16) rfl rfl rfl Tryz.underlying37 sizePrint ?_))
    clear z85
    generalize ((w84.alloc (.cells #[.int .i16 0, .int .i16 0, .int .i16 0, .int .i16 0, .int .i16 0, .int .i16 0, .int .i16 0, .int .i16 0, .int .i16 0, .int .i16 0, .int .i16 0, .int .i16 0, .int .i16 0, .int .i16 0, .int .i16 0, .int .i16 0, .int .i16 0, .int .i16 0, .int .i16 0, .int .i16 0, .int .i16 0, .int .i16 0, .int .i16 0, .int .i16 0, .int .i16 0, .int .i16 0, .int .i16 0, .int .i16 0, .int .i16 0, .int .i16 0, .int .i16 0, .int .i16 0, .int .i16 0, .int .i16 0, .int .i16 0, .int .i16 0, .int .i16 0, .int .i16 0, .int .i16 0, .int .i16 0, .int .i16 0, .int .i16 0, .int .i16 0, .int .i16 0, .int .i16 0, .int .i16 0, .int .i16 0, .int .i16 0, .int .i16 0, .int .i16 0, .int .i16 0, .int .i16 0, .int .i16 0, .int .i16 0, .int .i16 0, .int .i16 0, .int .i16 0, .int .i16 0, .int .i16 0, .int .i16 0, .int .i16 0, .int .i16 0, .int .i16 0, .int .i16 0] 37)).setRow (w84.heap.size) (arrV .i16 64 G)) = V85 at *
    refine (R1.out _).mono ?_; rintro e w86 ⟨rfl, hb86⟩
    have F16_86 := Lib.hid (F16_85.out.below hb86 F16_85.out.lt)
    have F17_86 := Lib.hid (F17_n85.out.below hb86 F17_n85.out.lt)
    have k_86 := Lib.hid (k_85.out.trans (hb86.mono k_85.out.size))
    clear F16_85 F17_n85 k_85
    clear hb86
    have z87 := HasArr.zero w86 37 (b := w86.heap.size) (by simp)
    have t87 := below_setRow ((Below.refl w86.heap.size w86).alloc (Nat.le_refl _) (.cells #[.int .i16 0, .int .i16 0, .int .i16 0, .int .i16 0, .int .i16 0, .int .i16 0, .int .i16 0, .int .i16 0, .int .i16 0, .int .i16 0, .int .i16 0, .int .i16 0, .int .i16 0, .int .i16 0, .int .i16 0, .int .i16 0, .int .i16 0, .int .i16 0, .int .i16 0, .int .i16 0, .int .i16 0, .int .i16 0, .int .i16 0, .int .i16 0, .int .i16 0, .int .i16 0, .int .i16 0, .int .i16 0, .int .i16 0, .int .i16 0, .int .i16 0, .int .i16 0, .int .i16 0, .int .i16 0, .int .i16 0, .int .i16 0, .int .i16 0, .int .i16 0, .int .i16 0, .int .i16 0, .int .i16 0, .int .i16 0, .int .i16 0, .int .i16 0, .int .i16 0, .int .i16 0, .int .i16 0, .int .i16 0, .int .i16 0, .int .i16 0, .int .i16 0, .int .i16 0, .int .i16 0, .int .i16 0, .int .i16 0, .int .i16 0, .int .i16 0, .int .i16 0, .int .i16 0, .int .i16 0, .int .i16 0, .int .i16 0, .int .i16 0, .int .i16 0] 37)) (b := w86.heap.size) (by simp) (arrV .i16 64 G)
    have F20_n87 := Lib.hid (z87.setRow .i16 G)
    have F16_87 := Lib.hid (F16_86.out.below t87 F16_86.out.lt)
    have F17_87 := Lib.hid (F17_86.out.below t87 F17_86.out.lt)
    have k_87 := Lib.hid (k_86.out.trans (t87.mono k_86.out.size))
    clear F16_86 F17_86 k_86
    clear t87
    go_wp2_with (first | (refine wpList_store_arr (z87) 37 (.tmp 20) (.tmp 172) rfl rfl rfl rfl sizePrint ?_))
    clear z87
    generalize ((w86.alloc (.cells #[.int .i16 0, .int .i16 0, .int .i16 0, .int .i16 0, .int .i16 0, .int .i16 0, .int .i16 0, .int .i16 0, .int .i16 0, .int .i16 0, .int .i16 0, .int .i16 0, .int .i16 0, .int .i16 0, .int .i16 0, .int .i16 0, .int .i16 0, .int .i16 0, .int .i16 0, .int .i16 0, .int .i16 0, .int .i16 0, .int .i16 0, .int .i16 0, .int .i16 0, .int .i16 0, .int .i16 0, .int .i16 0, .int .i16 0, .int .i16 0, .int .i16 0, .int .i16 0, .int .i16 0, .int .i16 0, .int .i16 0, .int .i16 0, .int .i16 0, .int .i16 0, .int .i16 0, .int .i16 0, .int .i16 0, .int .i16 0, .int .i16 0, .int .i16 0, .int .i16 0, .int .i16 0, .int .i16 0, .int .i16 0, .int .i16 0, .int .i16 0, .int .i16 0, .int .i16 0, .int .i16 0, .int .i16 0, .int .i16 0, .int .i16 0, .int .i16 0, .int .i16 0, .int .i16 0, .int .i16 0, .int .i16 0, .int .i16 0, .int .i16 0, .int .i16 0] 37)).setRow (w86.heap.size) (arrV .i16 64 G)) = V87 at *
    refine (R3.out _ (HE.out.below k_87.out (Nat.le_refl _))).mono ?_; rintro e w88 ⟨rfl, hb88⟩
    have F16_88 := Lib.hid (F16_87.out.below hb88 F16_87.out.lt)
    have F17_88 := Lib.hid (F17_87.out.below hb88 F17_87.out.lt)
    have F20_88 := Lib.hid (F20_n87.out.below hb88 F20_n87.out.lt)
    have k_88 := Lib.hid (k_87.out.trans (hb88.mono k_87.out.size))
    clear F16_87 F17_87 F20_n87 k_87
    clear hb88
    have q1 := Heq.out G
    go_wp2_with (first | (refine wpList_load_arrG (F17_88.out) 37 (.tmp 17) rfl rfl rfl Tryz.underlying37 sizePrint ?_) | (refine wpList_load_arrG (F20_88.out) 37 (.tmp 20) rfl rfl rfl Tryz.underlying37 sizePrint ?_))
    clear q1 Heq R1 R2 R3 F17_88
    go_loopw [25, 26, 27] (fun lv hv kv wr => ∃ k : Nat, k ≤ 64 ∧ kv = .int .i64 (k : Int) ∧ lv = .int .i16 (loF f M k) ∧ hv = .int .i16 (hiF f M k) ∧ Below w88.heap.size w88 wr) (fun _ _ kv _ => 64 - (intOf kv).toNat)
    case atStart => exact ⟨0, by omega, rfl, rfl, rfl, Below.refl _ _⟩
    case round =>
      obtain ⟨k, hk, rfl, rfl, rfl, hB⟩ := hrel
      by_cases hk64 : k < 64
      · have hk64' : (k : Int) < 64 := by omega
        have c16 := (F16_88.out.below hB F16_88.out.lt).cell hk64
        have HB := Lib.hid hB
        clear hB
        have hfk := hf k hk64
        have hlk := loF_bd (f := f) (m := M) (fun k hk => hf k hk) k hk
        rcases hbk : M.getLsbD k with _ | _
        · have HLo := Lib.hid (show loF f M (k + 1) = min (loF f M k) (f k) by rw [loF, hbk]; rfl)
          have HHi := Lib.hid (show hiF f M (k + 1) = max (hiF f M k) (f k) by rw [hiF, hbk]; rfl)
          go_wp2_with (first | (refine wpList_yield rfl (run_shr_bv (κ := .u64) (a := M) (k := k) rfl rfl rfl hk64) ?_) | (refine wpList_yield rfl (run_bit_no hbk rfl rfl rfl) ?_))
          go_roundw
          case rel => exact ⟨k + 1, by omega, by go_num, by rw [HLo.out], by rw [HHi.out], HB.out⟩
          case measure => simp [intOf]; omega
        · have HLo := Lib.hid (show loF f M (k + 1) = loF f M k by rw [loF, hbk]; rfl)
          have HHi := Lib.hid (show hiF f M (k + 1) = hiF f M k by rw [hiF, hbk]; rfl)
          go_wp2_with (first | (refine wpList_yield rfl (run_shr_bv (κ := .u64) (a := M) (k := k) rfl rfl rfl hk64) ?_) | (refine wpList_yield rfl (run_bit_yes hbk rfl rfl rfl) ?_))
          go_roundw
          case rel => exact ⟨k + 1, by omega, by go_num, by rw [HLo.out], by rw [HHi.out], HB.out⟩
          case measure => simp [intOf]; omega
      obtain rfl : k = 64 := by omega
      rw [show ((64 : Nat) : Int) = 64 from rfl]
      have hb151 := hB
      obtain ⟨w151, hw151⟩ : ∃ x : World, x = wr := ⟨_, rfl⟩
      rw [← hw151] at hb151 ⊢
      clear hw151 hB hk hk64
      have F16_151 := Lib.hid (F16_88.out.below hb151 F16_88.out.lt)
      have F20_151 := Lib.hid (F20_88.out.below hb151 F20_88.out.lt)
      have k_151 := Lib.hid (k_88.out.trans (hb151.mono k_88.out.size))
      clear F16_88 F20_88 k_88
      clear hb151
      generalize loF f M 64 = LO at *
      generalize hiF f M 64 = HIv at *
      go_wp2_with fail
      go_loopw [28] (fun kv wr => ∃ k : Nat, k ≤ 64 ∧ kv = .int .i64 (k : Int) ∧ Below w151.heap.size w151 wr) (fun kv _ => 64 - (intOf kv).toNat)
      case atStart => exact ⟨0, by omega, rfl, Below.refl _ _⟩
      case round =>
        obtain ⟨k, hk, rfl, hB⟩ := hrel
        by_cases hk64 : k < 64
        · have hk64' : (k : Int) < 64 := by omega
          have c16 := (F16_151.out.below hB F16_151.out.lt).cell hk64
          have c20 := (F20_151.out.below hB F20_151.out.lt).cell hk64
          have HB := Lib.hid hB
          clear hB
          have hgb := hGb.out k hk64
          have g1 : ¬ G k < LO := by omega
          have g2 : ¬ HIv < G k := by omega
          have hgo := hGo.out k hk64
          have fD := fun (x : WIn (Below wr.heap.size wr)) => inCell c16 x
          have fE := fun (x : WIn (Below wr.heap.size wr)) => inCell c20 x
          have n0 := below_nonempty wr
          rcases hbk : M.getLsbD k with _ | _
          · have hge := hgo hbk
            clear hgo
            rw [hge] at fE g1 g2 c20 hgb
            clear hge
            generalize f k = x at *
            have G1 := Lib.hid (decide_eq_false g1)
            have G2 := Lib.hid (decide_eq_false g2)
            clear g1 g2 hgb
            go_wp2_with fail
            refine wp_region_quietD (Below wr.heap.size wr) (by kernel_rfl) (by kernel_rfl) (below_drew1 _) ?_
            go_big_quiet_step (fail)
            go_big_quiet_step (fail)
            go_big_quiet_step (fail)
            refine wpQuiet_valS rfl (fun W _ => run_shr_bv (κ := .u64) (a := M) (k := k) rfl rfl rfl hk64) ?_
            go_frame
            refine wpQuiet_valS rfl (fun W _ => run_bit_no hbk rfl rfl rfl) ?_
            go_frame
            repeat (go_big_quiet_step (fail))
            rw [G1.out]
            repeat (go_big_quiet_step (fail))
            refine wpQuiet_nil ?_
            rw [G2.out]
            rintro _ ⟨y1, rfl⟩
            have hy := Lib.hid (HB.out.trans (y1.ok.mono HB.out.size))
            generalize y1.w = w160 at *
            go_wp2_with fail
            go_roundw
            case rel => exact ⟨k + 1, by omega, by go_num, hy.out⟩
            case measure => simp [intOf]; omega
          · clear hgo
            generalize f k = x at *
            generalize G k = y at *
            have G1 := Lib.hid (decide_eq_false g1)
            have G2 := Lib.hid (decide_eq_false g2)
            clear g1 g2 hgb
            go_wp2_with fail
            refine wp_region_quietD (Below wr.heap.size wr) (by kernel_rfl) (by kernel_rfl) (below_drew1 _) ?_
            go_big_quiet_step (fail)
            go_big_quiet_step (fail)
            go_big_quiet_step (fail)
            refine wpQuiet_valS rfl (fun W _ => run_shr_bv (κ := .u64) (a := M) (k := k) rfl rfl rfl hk64) ?_
            go_frame
            refine wpQuiet_valS rfl (fun W _ => run_bit_yes hbk rfl rfl rfl) ?_
            go_frame
            repeat (go_big_quiet_step (fail))
            rw [G1.out]
            repeat (go_big_quiet_step (fail))
            refine wpQuiet_nil ?_
            rw [G2.out]
            rintro _ ⟨y1, rfl⟩
            have hy := Lib.hid (HB.out.trans (y1.ok.mono HB.out.size))
            generalize y1.w = w160 at *
            go_wp2_with fail
            go_roundw
            case rel => exact ⟨k + 1, by omega, by go_num, hy.out⟩
            case measure => simp [intOf]; omega
        obtain rfl : k = 64 := by omega
        rw [show ((64 : Nat) : Int) = 64 from rfl]
        have hb171 := hB
        obtain ⟨w171, hw171⟩ : ∃ x : World, x = wr := ⟨_, rfl⟩
        rw [← hw171] at hb171 ⊢
        clear hw171 hB hk hk64 hGb hGo hlb
        clear F16_151 F20_151
        have k_171 := Lib.hid (k_151.out.trans (hb171.mono k_151.out.size))
        clear k_151
        clear hb171
        go_wp2_with fail
        go_loopw [29, 30] (fun lv kv wr => ∃ k : Nat, k ≤ N ∧ kv = .int .i64 (k : Int) ∧ lv = .int .u64 (bvI (itR M k)) ∧ Below w171.heap.size w171 wr) (fun _ kv _ => N - (intOf kv).toNat)
        case atStart => exact ⟨0, Nat.zero_le _, rfl, rfl, Below.refl _ _⟩
        case round =>
          obtain ⟨k, hk, rfl, rfl, hB⟩ := hrel
          by_cases hkN : k < N
          · have hkN' : (k : Int) < N := by omega
            have hne := HI.out k hkN
            have t1 : (bvI (itR M k) == 0) = false := by rw [beq_eq_false_iff_ne]; exact fun e => hne ((show bvI (itR M k) = bvI 0#64 ↔ itR M k = 0#64 from bvI_inj).1 e)
            have t1b : ¬ bvI (itR M k) = 0 := by simpa using t1
            have HSt := Lib.hid (itR_step M k)
            have HB := Lib.hid hB
            clear hne hB
            generalize itR M k = X at *
            have Hgr := Lib.hid (fun W => GrowMask_any (~~~X) W)
            go_wp2_with (refine wpList_yield rfl (run_not_bv (a := X) rfl rfl) ?_)
            refine (Hgr.out _).mono ?_; rintro e w180 ⟨rfl, hb180⟩
            have HB2 := Lib.hid (HB.out.trans (hb180.mono HB.out.size))
            clear hb180 Hgr HB
            go_wp2_with (refine wpList_yield rfl (run_andNot_bv (a := X) (b := growB (~~~X)) rfl rfl rfl) ?_)
            go_roundw
            case rel => exact ⟨k + 1, by omega, by go_num, by rw [HSt.out], HB2.out⟩
            case measure => simp [intOf]; omega
          obtain rfl : k = N := by omega
          have hz9 : bvI (itR M k) = 0 := by rw [H0.out]; rfl
          rw [hz9]
          have KZ := Lib.hid (k_171.out.trans (hB.mono k_171.out.size))
          go_wp2_with fail
          go_ret
          exact ⟨rfl, KZ.out⟩
end Go.Proofs.YtiinkfnamhcekaaGreatDoor

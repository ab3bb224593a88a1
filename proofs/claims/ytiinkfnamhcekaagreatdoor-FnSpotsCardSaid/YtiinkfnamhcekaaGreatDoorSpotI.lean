/-
  The spots of a mask: what the program's functions return. Of whatever mask; no condition.
-/
import Derived.Test.YtiinkfnamhcekaaGreatDoorSpotS
import Derived.Test.YtiinkfnamhcekaaGreatDoorGrow
import Derived.Test.YtiinkfnamhcekaaGreatDoorMtx
import Derived.WalkMore
namespace Go.Proofs.YtiinkfnamhcekaaGreatDoor
open Go.RowKit

theorem bitOfB_any (k : Nat) (hk : k < 64) (w : World) : Calls Tryz.prog 57 #[.int .i64 (k : Int)] w fun e w' => e = .returned (.int .u64 (bvI (1#64 <<< k))) ∧ w = w' := by
  go_enter Tryz.func57, Tryz.ntmps57
  go_wp2_with (refine wpList_yield rfl (run_shl_bv (κ := .i64) (a := 1#64) (k := k) rfl rfl rfl hk) ?_)
  go_ret
  exact ⟨rfl, rfl⟩

theorem setOf_any (k : Nat) (hk : k < 64) (w : World) : Calls Tryz.prog 58 #[.int .i64 (k : Int)] w fun e w' => e = .returned (.int .u64 (bvI (1#64 <<< k))) ∧ w = w' := by
  have hb := Lib.hid (fun W => bitOfB_any k hk W)
  go_enter Tryz.func58, Tryz.ntmps58
  go_wp2_with (go_at_call 57; refine (hb.out _).mono ?_; rintro e w' ⟨rfl, rfl⟩)
  go_ret
  exact ⟨rfl, rfl⟩

theorem setHas_any (m : BitVec 64) (c : Nat) (hc : c < 64) (w : World) : Calls Tryz.prog 42 #[.int .u64 (bvI m), .int .i64 (c : Int)] w fun e w' => e = .returned (.bool (m.getLsbD c)) ∧ w = w' := by
  have hb := Lib.hid (fun W => hasCellB_any m c hc W)
  go_enter Tryz.func42, Tryz.ntmps42
  go_wp2_with (go_at_call 23; refine (hb.out _).mono ?_; rintro e w' ⟨rfl, rfl⟩)
  go_ret
  exact ⟨rfl, rfl⟩

set_option maxRecDepth 100000 in
set_option maxHeartbeats 2000000 in
theorem spotAround_any (M : BitVec 64) (k : Nat) (hM : M.getLsbD k = true) (w : World) :
    Calls Tryz.prog 43 #[.int .u64 (bvI M), .int .i64 (k : Int)] w fun e w' => e = .returned (.int .u64 (bvI (compB M k))) ∧ Below w.heap.size w w' := by
  have hkn := bit_lt hM
  have hso := Lib.hid (fun W => setOf_any k hkn W)
  have Hfix := Lib.hid (fun X h1 h2 h3 => spot_fix (M := M) (N := M) (X := X) hM h1 (fun c h => reach_in hM h) h2 h3)
  have Hst := Lib.hid (fun X h1 h2 => spot_step (M := M) (N := M) (X := X) (k := k) (fun c h => h) h1 h2)
  have Hb0 := Lib.hid (fun c => bit_of k c hkn)
  have HM := Lib.hid hM; clear hM
  have hne := bit_ne hkn
  go_enter Tryz.func43, Tryz.ntmps43
  go_wp2_with (go_at_call 58; refine (hso.out _).mono ?_; rintro e w' ⟨rfl, rfl⟩)
  go_loopw [5, 6] (fun sv xv wr => ∃ S X : BitVec 64, sv = .int .u64 (bvI S) ∧ xv = .int .u64 (bvI X) ∧ X.getLsbD k = true ∧ (∀ c, X.getLsbD c = true → M.getLsbD c = true) ∧ (∀ c, X.getLsbD c = true → Reach (RM M) k c) ∧ (∀ c, S.getLsbD c = true → X.getLsbD c = true) ∧ (S = 0#64 ∨ growB S &&& M = X) ∧ Below w.heap.size w wr) (fun sv _ _ => 18446744073709551616 - (intOf sv).toNat)
  case atStart =>
    refine ⟨0#64, 1#64 <<< k, rfl, rfl, by rw [Hb0.out]; simp, fun c h => ?_, fun c h => ?_, fun c h => by simp at h, .inl rfl, Below.refl _ _⟩
    · rw [Hb0.out] at h
      obtain rfl : c = k := by simpa using h
      exact HM.out
    · rw [Hb0.out] at h
      obtain rfl : c = k := by simpa using h
      exact .start
  case round =>
    clear hne
    obtain ⟨S, X, rfl, rfl, hXk, hXM, hXr, hSX, hor, hB⟩ := hrel
    by_cases hfx : X = S
    · subst hfx
      have h0 : growB X &&& M = X := by
        rcases hor with h | h
        · rw [h] at hXk; simp at hXk
        · exact h
      obtain rfl := Hfix.out X hXk h0 hXr
      clear hXk hXM hXr hSX hor h0
      go_wp2_with fail
      go_ret
      exact ⟨rfl, hB⟩
    · have hne2 : ¬ bvI X = bvI S := fun e => hfx (bvI_inj.1 e)
      have hg := Lib.hid (fun W => grown_any X W)
      have hs := Hst.out X hXM hXr
      have HS := Lib.hid (And.intro hXk hs)
      have hlt := sub_lt hSX (fun e => hfx e.symm)
      have hlt2 := X.isLt
      have HL := Lib.hid (And.intro hlt hlt2)
      clear hs hXk hXM hXr hfx hlt hlt2 hSX hor
      go_wp2_with fail
      refine (hg.out _).mono ?_; rintro e w2 ⟨rfl, hb2⟩
      have hB2 := hB.trans (hb2.mono hB.size)
      clear hb2 hB
      go_wp2_with (refine wpList_yield rfl (run_and_bv (a := growB X) (b := M) rfl rfl rfl) ?_)
      go_roundw
      case rel => exact ⟨X, growB X &&& M, rfl, rfl, HS.out.2.2.1 _ HS.out.1, HS.out.2.2.2, HS.out.2.1, HS.out.2.2.1, .inr rfl, hB2⟩
      case measure =>
        have h1 := HL.out.1
        have h2 := HL.out.2
        simp [intOf, bvI, -BitVec.toNat_and]; omega

/-- The cells of an own list of masks. -/
theorem u64_cells {w : World} {L n : Nat} {v : Value} {l : List (BitVec 64)} (h : w.ownsRow L 24 1 v n (u64L l)) (hn : l.length = n) : ∃ A cap, v = .slice A n cap ∧ (n = 0 ∨ ∃ g, A = some ⟨g, 0, none⟩ ∧ g < w.heap.size ∧ ∀ j, j < n → w.cell? ⟨g, j, none⟩ = some (.int .u64 (bvI (l.getD j 0#64)))) := by
  obtain ⟨_, h⟩ := h
  rcases h with ⟨rfl, rfl⟩ | ⟨g, cap, cur, rfl, hb, hh, hn', hm, hs, ht⟩
  · exact ⟨none, 0, rfl, .inl rfl⟩
  · refine ⟨_, cap, rfl, .inr ⟨g, rfl, (Array.getElem?_eq_some_iff.1 hh).1, fun j hj => ?_⟩⟩
    rw [cell_of_row w g j cur 24 (0, 0) hh]
    have h1 : (u64L l)[j]? = some (.int .u64 (bvI (l.getD j 0#64))) := by
      have : j < l.length := by omega
      simp [u64L, this]
    rw [← ht, Nat.mul_one, List.getElem?_take, if_pos hj] at h1
    simpa using h1

set_option maxRecDepth 100000 in
set_option maxHeartbeats 4000000 in
theorem spots_any (M : BitVec 64) (w : World) :
    Calls Tryz.prog 24 #[.int .u64 (bvI M)] w fun e w' => ∃ v, e = .returned v ∧ w'.ownsRow w.heap.size 24 1 v (spL M 64).length (u64L (spL M 64)) ∧ Below w.heap.size w w' := by
  have o1 := World.ownsRow_lit (base := w.heap.size) (e := 24) (size := 1) w #[] 0 (Nat.le_refl _) (Nat.zero_le _) rfl
  have k0 := (Below.refl w.heap.size w).alloc (Nat.le_refl _) (.cells #[] 24)
  go_enter Tryz.func24, Tryz.ntmps24
  go_wp2_with fail
  go_step3
  go_wp2_with fail
  go_step3
  go_wp2_with fail
  go_loopw [3, 8] (fun ov iv wr => ∃ k : Nat, k ≤ 64 ∧ iv = .int .i64 (k : Int) ∧ wr.ownsRow w.heap.size 24 1 ov (spL M k).length (u64L (spL M k)) ∧ Below w.heap.size w wr) (fun _ iv _ => 64 - (intOf iv).toNat)
  case atStart => exact ⟨0, by omega, rfl, o1, k0⟩
  case round =>
    clear o1 k0
    obtain ⟨k, hk, rfl, hown, hB⟩ := hrel
    have hl := spL_len (M := M) k
    by_cases hkn : k < 64
    rotate_left
    · obtain rfl : k = 64 := by omega
      go_wp2_with fail
      rw [Exit.noGoto_ret]
      go_ret
      exact ⟨_, rfl, hown, hB⟩
    have hz := hB.size
    have hh := fun W => setHas_any M k hkn W
    rcases hb : M.getLsbD k with _ | _
    · rw [hb] at hh
      have Hh := Lib.hid hh; clear hh
      have HN := Lib.hid (spL_no hb)
      clear hb
      generalize spL M k = l at *
      go_wp2_with (go_at_call 42; refine (Hh.out _).mono ?_; rintro e w' ⟨rfl, rfl⟩)
      go_roundw
      case rel => exact ⟨k + 1, by omega, by go_num, by rw [HN.out]; exact hown, hB⟩
      case measure => simp [intOf]; omega
    · rw [hb] at hh
      have Hh := Lib.hid hh; clear hh
      have hmem := spL_mem (M := M) k k
      have HO := Lib.hid (fun h => spL_old (M := M) (i := k) h)
      have HW := Lib.hid (fun h => spL_new (M := M) (i := k) hb h)
      have Hsa := Lib.hid (fun W => spotAround_any M k hb W)
      have HM := Lib.hid hmem; clear hmem hb
      obtain ⟨A, cap, rfl, hcells⟩ := u64_cells hown rfl
      have Hsp1 : Hid (spL M (k + 1) = spL M (k + 1)) := Lib.hid rfl
      generalize hln : spL M k = l at *
      clear hln
      generalize hlen : l.length = n at *
      have HLen := Lib.hid hlen; clear hlen
      go_wp2_with (go_at_call 42; refine (Hh.out _).mono ?_; rintro e w' ⟨rfl, rfl⟩)
      obtain ⟨wo, rfl⟩ : ∃ wo : World, wo = wr := ⟨_, rfl⟩
      go_loop [17] (fun jv => ∃ j : Nat, j ≤ n ∧ jv = .int .i64 (j : Int) ∧ ∀ i, i < j → (l.getD i 0#64).getLsbD k = false) (fun jv => n - (intOf jv).toNat)
      case atStart => exact ⟨0, by omega, rfl, fun i hi => by omega⟩
      case round =>
        obtain ⟨j, hj, rfl, hno⟩ := hrel
        by_cases hjn : j < n
        · rcases hcells with h0 | ⟨g, rfl, hg, hc⟩
          · exfalso; omega
          have cj := hc j hjn
          clear hc
          have hj' : (j : Int) < n := by omega
          have Hhc := fun W => hasCellB_any (l.getD j 0#64) k hkn W
          rcases hv : (l.getD j 0#64).getLsbD k with _ | _
          · rw [hv] at Hhc
            have HV := Lib.hid (And.intro hv hno)
            have Hhc := Lib.hid Hhc
            clear hv hno
            generalize hCe : l.getD j 0#64 = C at *
            have HC := Lib.hid hCe; clear hCe
            go_wp2_with (go_at_call 23; refine (Hhc.out _).mono ?_; rintro e w' ⟨rfl, rfl⟩)
            go_round
            case rel => exact ⟨j + 1, by omega, by go_num, fun i hi => by
              by_cases e : i = j
              · subst e; rw [HC.out]; exact HV.out.1
              · exact HV.out.2 i (by omega)⟩
            case measure => simp [intOf]; omega
          · rw [hv] at Hhc
            have hold : spL M (k + 1) = l := HO.out (HM.out.1 ⟨l.getD j 0#64, by
              have e := HLen.out
              rw [List.getD_eq_getElem?_getD, List.getElem?_eq_getElem (by omega)]
              exact List.getElem_mem _, hv⟩)
            have HD := Lib.hid hold
            have Hhc := Lib.hid Hhc
            clear hv hno hold
            generalize l.getD j 0#64 = C at *
            go_wp2_with (go_at_call 23; refine (Hhc.out _).mono ?_; rintro e w' ⟨rfl, rfl⟩)
            go_roundw
            case rel => exact ⟨k + 1, by omega, by go_num, by rw [HD.out, HLen.out]; exact hown, hB⟩
            case measure => simp [intOf]; omega
        · obtain rfl : j = n := by omega
          have hnew : spL M (k + 1) = l ++ [compB M k] := HW.out (fun h => by
            obtain ⟨C, hC, hb⟩ := HM.out.2 h
            obtain ⟨i, hi, rfl⟩ := List.getElem_of_mem hC
            have := hno i (by have := HLen.out; omega)
            rw [List.getD_eq_getElem?_getD, List.getElem?_eq_getElem hi] at this
            rw [show (some l[i]).getD 0#64 = l[i] from rfl] at this
            rw [hb] at this; cases this)
          have HD := Lib.hid hnew
          clear hnew hno hcells
          go_wp2_with fail
          refine (Hsa.out _).mono ?_; rintro e w2 ⟨rfl, hb2⟩
          have hB2 := hB.trans (hb2.mono hB.size)
          have o2 := own_belowS hown hb2
          have hz2 := hB2.size
          clear hb2 hB hown hz
          go_wp2_with (at_builtin; refine wpList_append_u64 (b := compB M k) rfl _ _ rfl rfl o2 rfl (by omega) hz2 ?_)
          intro v3 w3 o3 hb3
          have hB3 := hB2.trans hb3
          clear o2 hb3 hB2 hz2
          go_wp2_with fail
          go_roundw
          case rel => exact ⟨k + 1, by omega, by go_num, by rw [HD.out, List.length_append, HLen.out]; exact o3, hB3⟩
          case measure => simp [intOf]; omega

theorem SpotsOf_any (M : BitVec 64) (w : World) :
    Calls Tryz.prog 8 #[.int .u64 (bvI M)] w fun e w' => ∃ v, e = .returned v ∧ w'.ownsRow w.heap.size 24 1 v (spL M 64).length (u64L (spL M 64)) ∧ Below w.heap.size w w' := by
  have hs := Lib.hid (spots_any M w)
  go_enter Tryz.func8, Tryz.ntmps8
  go_wp2_with fail
  refine hs.out.mono ?_; rintro e w1 ⟨v, rfl, o1, k1⟩
  go_wp2_with fail
  go_ret
  exact ⟨_, rfl, o1, k1⟩
end Go.Proofs.YtiinkfnamhcekaaGreatDoor

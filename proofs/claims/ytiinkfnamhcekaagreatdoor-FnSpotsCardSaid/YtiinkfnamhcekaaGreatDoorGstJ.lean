/-
  The greatest spot, by the program: the whole function. Condition: its variables hold their own errors.
-/
import Derived.Test.YtiinkfnamhcekaaGreatDoorGstI
namespace Go.Proofs.YtiinkfnamhcekaaGreatDoor
open Go.RowKit

/-- What the program's own function hands back. -/
noncomputable def gstR (s : Ers) (M : BitVec 64) : Array Value := if M = 0#64 then #[.int .u64 0, errV s.enotfound] else #[.int .u64 (bvI (gB (spF M) ((spL M 64).length - 1))), .nilIface]
set_option maxRecDepth 100000 in
set_option maxHeartbeats 2000000 in
theorem greatestSpot_any (s : Ers) (M : BitVec 64) (w : World) (hE : ErrEnv s w) :
    Calls Tryz.prog 26 #[.int .u64 (bvI M)] w fun e w' => e = .returned (.tuple (gstR s M)) ∧ Below w.heap.size w w' := by
  unfold gstR
  by_cases hM : M = 0#64
  · rw [if_pos hM]
    subst hM
    have h00 := zero_bv
    have ce := hE.c_enotfound
    rw [h00]
    clear h00
    go_enter Tryz.func26, Tryz.ntmps26
    go_wp2_with fail
    go_quiet (fail)
    go_wp2
    go_ret2
    exact ⟨rfl, below_drewA (Below.refl _ _) nq⟩
  rw [if_neg hM]
  have HS := Lib.hid (spots_any M w)
  have hz : (bvI M == 0) = false := beq_eq_false_iff_ne.2 (fun e => hM (bvI_inj.1 (e.trans zero_bv.symm)))
  have hp := spL_pos hM
  have hl := spL_len (M := M) 64
  clear hM hE
  go_enter Tryz.func26, Tryz.ntmps26
  go_wp2_with fail
  refine HS.out.mono ?_; rintro e w2 ⟨v, rfl, o2, k2⟩
  obtain ⟨A, cap, rfl, hcs⟩ := u64_cells o2 rfl
  rcases hcs with h | ⟨g, rfl, hg, hc⟩
  · exfalso; omega
  have H := Lib.hid (MaxFunc_any g (spL M 64).length cap (spF M) hp hl w2 hg hc)
  clear hc o2 HS
  go_wp2_with fail
  refine H.out.mono ?_; rintro e w3 ⟨rfl, rfl⟩
  go_wp2_with fail
  go_ret2
  exact ⟨rfl, k2⟩
theorem gst_code (s : Ers) (M : BitVec 64) : ∃ (m : Int) (v : Value) (c : Int), gstR s M = #[.int .u64 m, v] ∧ IsCode s v c ∧ gstT M = #[.int .u64 m, .int .i64 c] := by
  unfold gstR gstT
  by_cases h : M = 0#64
  · rw [if_pos h, if_pos h]; exact ⟨_, _, _, rfl, .enotfound, rfl⟩
  · rw [if_neg h, if_neg h]; exact ⟨_, _, _, rfl, .ok, rfl⟩
theorem codedMaskG_any {s : Ers} {v : Value} {c : Int} (h : IsCode s v c) (x : Int) (w : World) (hE : ErrEnv s w) :
    Calls Tryz.prog 21 #[.int .u64 x, v] w fun e w' => e = .returned (.tuple #[.int .u64 x, .int .i64 c]) ∧ w = w' := by
  go_enter Tryz.func21, Tryz.ntmps21
  go_wp2_with fail
  refine (codeOf_any h _ hE).mono ?_; rintro e w1 ⟨rfl, rfl⟩
  go_wp2_with fail
  go_ret2
  exact ⟨rfl, rfl⟩
set_option maxRecDepth 100000 in
set_option maxHeartbeats 1000000 in
theorem GreatestSpot_any (s : Ers) (M : BitVec 64) (w : World) (hE : ErrEnv s w) :
    Calls Tryz.prog 10 #[.int .u64 (bvI M)] w fun e w' => e = .returned (.tuple (gstT M)) ∧ Below w.heap.size w w' := by
  have H := Lib.hid (greatestSpot_any s M w hE)
  have HE := Lib.hid hE
  obtain ⟨m, v, c, h1, h2, h3⟩ := gst_code s M
  rw [h1] at H
  rw [h3]
  clear hE h1 h3
  go_enter Tryz.func10, Tryz.ntmps10
  go_wp2_with fail
  refine H.out.mono ?_; rintro e w2 ⟨rfl, hb2⟩
  have HE2 := Lib.hid (HE.out.below hb2 (Nat.le_refl _))
  clear HE
  go_wp2_with (go_at_call 21; refine (codedMaskG_any h2 m _ HE2.out).mono ?_; rintro e w3 ⟨rfl, rfl⟩)
  go_ret2
  exact ⟨rfl, hb2⟩
end Go.Proofs.YtiinkfnamhcekaaGreatDoor

/-
  The lights of a strip's bands, by the program and by the reference. Condition: the strip is valid; of those with a code: none, but the program's variables hold their own errors.
-/
import Derived.Test.YtnlcjbobfhmnmabGreatDoorStrip
import Derived.Test.YtnlcjbobfhmnmabGreatDoorTabE
namespace Go.Proofs.YtnlcjbobfhmnmabGreatDoor
open Go.RowKit

set_option maxRecDepth 100000 in
set_option maxHeartbeats 2000000 in
theorem stLights_any (a b c : Int) (h : StOk a b c) (w : World) :
    Calls Tryz.prog 36 #[stV a b c] w (MadeN c.toNat (fun j => a + b * (j : Int)) w) := by
  obtain ⟨i0, hi, hz0, hz1, hz2⟩ := info_parts i64Info
  have ha0 := h.a0; have ha1 := h.a1; have hb0 := h.b0; have hb1 := h.b1; have hc0 := h.c0; have hc1 := h.c1
  have k0 : Below w.heap.size w (w.alloc (.cells #[.int .i8 a, .int .i8 b, .int .i8 c] 26)) := (Below.refl _ _).alloc (Nat.le_refl _) _
  have S0 := StAt.new w 26 a b c
  have hl := fun (k : Nat) (hk : k < 20) W => stLight_any a b c k (by omega) (by omega) (by omega) (by omega) (by omega) (by omega) W
  generalize hF : (fun j : Nat => a + b * (j : Int)) = F
  have hFk : ∀ k : Nat, a + b * (k : Int) = F k := fun k => by rw [← hF]
  have hl' : ∀ (k : Nat) (hk : k < 20) W, Calls Tryz.prog 44 #[stV a b c, .int .i64 k] W fun x w' => x = .returned (.int .i64 (F k)) ∧ Below W.heap.size W w' := fun k hk W => by rw [← hFk k]; exact hl k hk W
  clear hl hF hFk
  have Hl := Lib.hid hl'; clear hl'
  have o1 := World.ownsRow_lit (size := 1) (e := 2) (base := w.heap.size + 1) (w.alloc (.cells #[.int .i8 a, .int .i8 b, .int .i8 c] 26)) #[] 0 (by simp) (Nat.zero_le _) rfl
  simp only [World.size_alloc] at o1
  have S1 := S0.alloc (.cells #[] 2)
  have k1 := k0.alloc k0.size (.cells #[] 2)
  go_enter Tryz.func36, Tryz.ntmps36
  go_wp2_with fail
  go_loopw [3, 9] (fun lv iv wr => ∃ k : Nat, iv = .int .i64 k ∧ (k : Int) ≤ c ∧ wr.ownsRow (w.heap.size + 1) 2 1 lv k (tabV F k) ∧ StAt wr w.heap.size a b c ∧ Below w.heap.size w wr) (fun _ iv _ => (c - intOf iv).toNat)
  case atStart => exact ⟨0, rfl, by omega, o1, S1, k1⟩
  case round =>
    clear o1 S0 S1 k0 k1
    obtain ⟨k, rfl, hk, hown, S2, k2⟩ := hrel
    by_cases hkc : (k : Int) < c
    rotate_left
    · have e : c.toNat = k := by omega
      rw [e]
      obtain ⟨g, cap, rfl, hg, hrow⟩ := irow_own hown (by omega)
      go_wp2_with fail
      go_ret
      exact ⟨g, cap, rfl, by omega, hrow, k2⟩
    have hlk := Hl.out k (by omega)
    have hT : F k = F k := rfl
    generalize hV : F k = V at hlk
    clear hT
    have HT := Lib.hid hV; clear hV
    have Hlk := Lib.hid hlk; clear hlk
    have S9 := S2
    obtain ⟨s0, s1, s2⟩ := S9
    have hsl := S2.lt
    have hfar := fun jj hjj => hown.lt jj hjj
    go_wp2_with fail
    refine (Hlk.out _).mono ?_; rintro x w3 ⟨rfl, hb3⟩
    have k3 := k2.trans (hb3.mono k2.size)
    have S3 := S2.below hb3 S2.lt
    have own3 := own_belowT hown hb3
    have z3 := hb3.size
    clear s0 s1 s2 hb3 S2
    go_wp2_with (at_builtin; refine wpList_append1 rfl _ _ rfl rfl own3 rfl (by omega) (by omega) HT.out ?_)
    intro v' w5 hown5 hg2 hat
    have S5 := S3.far hg2 (fun e => by have := (hfar _ e.symm).1; omega)
    have k5 : Below w.heap.size w w5 := k3.grown hg2 k3.size (fun jj hjj => by have := (hfar jj hjj).1; omega)
    clear hg2 S3 k3 own3 hown k2 hat
    go_wp2_with fail
    go_roundw
    case rel => exact ⟨k + 1, by go_num, by omega, hown5, S5, k5⟩
    case measure => simp [intOf]; omega
set_option maxRecDepth 100000 in
set_option maxHeartbeats 2000000 in
theorem l05Lights_any (a b c : Int) (h : StOk a b c) (w : World) :
    Calls Tryz.prog 67 #[stV a b c] w (MadeN c.toNat (fun j => a + b * (j : Int)) w) := by
  have ha0 := h.a0; have ha1 := h.a1; have hb0 := h.b0; have hb1 := h.b1; have hc0 := h.c0; have hc1 := h.c1
  have k0 : Below w.heap.size w (w.alloc (.cells #[.int .i8 a, .int .i8 b, .int .i8 c] 26)) := (Below.refl _ _).alloc (Nat.le_refl _) _
  have S0 := StAt.new w 26 a b c
  have hbd := fun (k : Nat) (hk : (k : Int) < c) => h.light (k := k) (by omega) hk
  generalize hF : (fun j : Nat => a + b * (j : Int)) = F
  have hFk : ∀ k : Nat, F k = a + b * (k : Int) := fun k => by rw [← hF]
  clear hF
  have HFk := Lib.hid hFk; clear hFk
  have Hbd := Lib.hid hbd; clear hbd
  have o1 := World.ownsRow_lit (size := 1) (e := 2) (base := w.heap.size + 1) (w.alloc (.cells #[.int .i8 a, .int .i8 b, .int .i8 c] 26)) #[] 0 (by simp) (Nat.zero_le _) rfl
  simp only [World.size_alloc] at o1
  have S1 := S0.alloc (.cells #[] 2)
  have k1 := k0.alloc k0.size (.cells #[] 2)
  go_enter Tryz.func67, Tryz.ntmps67
  go_wp2_with fail
  go_loopw [3, 4] (fun lv iv wr => ∃ k : Nat, iv = .int .i64 k ∧ (k : Int) ≤ c ∧ wr.ownsRow (w.heap.size + 1) 2 1 lv k (tabV F k) ∧ StAt wr w.heap.size a b c ∧ Below w.heap.size w wr) (fun _ iv _ => (c - intOf iv).toNat)
  case atStart => exact ⟨0, rfl, by omega, o1, S1, k1⟩
  case round =>
    clear o1 S0 S1 k0 k1
    obtain ⟨k, rfl, hk, hown, S2, k2⟩ := hrel
    have S9 := S2
    obtain ⟨s0, s1, s2⟩ := S9
    by_cases hkc : (k : Int) < c
    rotate_left
    · have e : c.toNat = k := by omega
      rw [e]
      obtain ⟨g, cap, rfl, hg, hrow⟩ := irow_own hown (by omega)
      go_wp2_with fail
      go_ret
      exact ⟨g, cap, rfl, by omega, hrow, k2⟩
    have hv := HFk.out k
    have hvb := Hbd.out k hkc
    rw [Int.mul_comm b] at hv hvb
    generalize hQ : (k : Int) * b = Q at hv hvb
    have HV := Lib.hid hv; clear hv
    have i2 : IntKind.i64.wrap Q = Q := IntWalk.i64_in _ (by omega)
    have i3 : IntKind.i64.wrap (a + Q) = a + Q := IntWalk.i64_in _ (by omega)
    have hsl := S2.lt
    have z2 := k2.size
    have hfar := fun jj hjj => hown.lt jj hjj
    go_wp2_with (at_builtin; refine wpList_append1 rfl _ _ rfl rfl hown rfl (by omega) (by omega) HV.out ?_)
    intro v' w5 hown5 hg2 hat
    have S5 := S2.far hg2 (fun e => by have := (hfar _ e.symm).1; omega)
    have k5 : Below w.heap.size w w5 := k2.grown hg2 k2.size (fun jj hjj => by have := (hfar jj hjj).1; omega)
    clear hg2 hown k2 hat s0 s1 s2 S2
    go_wp2_with fail
    go_roundw
    case rel => exact ⟨k + 1, by go_num, by omega, hown5, S5, k5⟩
    case measure => simp [intOf]; omega
end Go.Proofs.YtnlcjbobfhmnmabGreatDoor

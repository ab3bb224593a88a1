/-
  The text of a strip, by the program and by the reference. No condition.
-/
import Derived.Test.YtnlcjbobfhmnmabGreatDoorTxtX
import Derived.Test.YtnlcjbobfhmnmabGreatDoorStrip
import Derived.Test.YtnlcjbobfhmnmabGreatDoorQX
import Derived.Test.YtnlcjbobfhmnmabGreatDoorShelfA
namespace Go.Proofs.YtnlcjbobfhmnmabGreatDoor
open Go.RowKit

theorem decN_dec (n : Nat) : Lib.decDigits n = decN n := by
  induction n using Nat.strongRecOn with
  | _ n ih =>
    by_cases h : n < 10
    · rw [decN_lo h, Lib.decDigits, dif_pos h]
    · rw [decN_hi (by omega), Lib.decDigits, dif_neg h, ih (n / 10) (by omega)]

theorem itoaT_any (n : Int) (h0 : 0 ≤ n) (h1 : n < 100) (w : World) :
    Calls Tryz.prog 33 #[.int .i64 n] w fun e w' => e = .returned (strV (decI n)) ∧ w = w' := by
  obtain ⟨m, rfl⟩ := Int.eq_ofNat_of_zero_le h0
  exact (shStrconv_Itoa_small m (by omega) w).mono fun e w' ⟨he, hw⟩ => ⟨by rw [he, decN_dec]; rfl, hw.symm⟩

def stripT (a b c : Int) : List UInt8 := decI a ++ 32 :: (decI b ++ 32 :: decI c)
/-- The text of a strip; none if it is not valid. -/
def stripTx (a b c : Int) : List UInt8 := if okT a b c = true then stripT a b c else []
theorem stripTx_no {a b c : Int} (h : okT a b c = false) : stripTx a b c = [] := by simp [stripTx, h]
theorem stripTx_yes {a b c : Int} (h : okT a b c = true) : stripTx a b c = stripT a b c := by simp [stripTx, h]

set_option maxRecDepth 100000 in
set_option maxHeartbeats 1000000 in
theorem StripText_any (a b c : Int) (ha : -128 ≤ a) (ha' : a ≤ 127) (hb : -128 ≤ b) (hb' : b ≤ 127) (hc : -128 ≤ c) (hc' : c ≤ 127) (w : World) :
    Calls Tryz.prog 9 #[stV a b c] w fun e w' => e = .returned (strV (stripTx a b c)) ∧ Below w.heap.size w w' := by
  have hv := fun W => ValidStrip_any a b c ha ha' hb hb' hc hc' W
  have k0 : Below w.heap.size w (w.alloc (.cells #[.int .i8 a, .int .i8 b, .int .i8 c] 26)) := (Below.refl _ _).alloc (Nat.le_refl _) _
  have c0 : (w.alloc (.cells #[.int .i8 a, .int .i8 b, .int .i8 c] 26)).cell? ⟨w.heap.size, 0, none⟩ = some (.int .i8 a) := by simp
  have c1 : (w.alloc (.cells #[.int .i8 a, .int .i8 b, .int .i8 c] 26)).cell? ⟨w.heap.size, 1, none⟩ = some (.int .i8 b) := by simp
  have c2 : (w.alloc (.cells #[.int .i8 a, .int .i8 b, .int .i8 c] 26)).cell? ⟨w.heap.size, 2, none⟩ = some (.int .i8 c) := by simp
  have hw : w.heap.size < (w.alloc (.cells #[.int .i8 a, .int .i8 b, .int .i8 c] 26)).heap.size := by simp
  rcases h : okT a b c with _ | _
  · rw [stripTx_no h]
    rw [h] at hv
    have Hv := Lib.hid hv; clear hv h
    go_enter Tryz.func9, Tryz.ntmps9
    go_wp2_with fail
    refine (Hv.out _).mono ?_; rintro e w1 ⟨rfl, hb1⟩
    go_wp2_with fail
    go_ret
    exact ⟨rfl, k0.trans (hb1.mono k0.size)⟩
  rw [stripTx_yes h]
  rw [h] at hv
  have hok := okT_ok h
  have z0 := hok.a0; have z1 := hok.a1; have z2 := hok.b0; have z3 := hok.b1; have z4 := hok.c0; have z5 := hok.c1
  have la : (decI a).length ≤ 19 := decN_le _ (by omega)
  have lb : (decI b).length ≤ 19 := decN_le _ (by omega)
  have lc : (decI c).length ≤ 19 := decN_le _ (by omega)
  have e1 : IntKind.i64.wrap a = a := IntWalk.i64_in _ (by omega)
  have e2 : IntKind.i64.wrap b = b := IntWalk.i64_in _ (by omega)
  have e3 : IntKind.i64.wrap c = c := IntWalk.i64_in _ (by omega)
  unfold stripT
  have k1 := fun W => itoaT_any a z0 (by omega) W
  have k2 := fun W => itoaT_any b (by omega) (by omega) W
  have k3 := fun W => itoaT_any c (by omega) (by omega) W
  generalize decI a = x at *
  generalize decI b = y at *
  generalize decI c = u at *
  have K1 := Lib.hid k1; clear k1
  have K2 := Lib.hid k2; clear k2
  have K3 := Lib.hid k3; clear k3
  have ad1 := fun W => run_string_add_lists (P := Tryz.prog) W x [32] (by omega) (by simp)
  have ad2 := fun W => run_string_add_lists (P := Tryz.prog) W (x ++ [32]) y (by simp; omega) (by omega)
  have ad3 := fun W => run_string_add_lists (P := Tryz.prog) W (x ++ 32 :: y) [32] (by simp; omega) (by simp)
  have ad4 := fun W => run_string_add_lists (P := Tryz.prog) W (x ++ 32 :: (y ++ [32])) u (by simp; omega) (by omega)
  have Hv := Lib.hid hv; clear hv h hok
  go_enter Tryz.func9, Tryz.ntmps9
  go_wp2_with fail
  generalize w.alloc (.cells #[.int .i8 a, .int .i8 b, .int .i8 c] 26) = W at *
  refine (Hv.out _).mono ?_; rintro e w1 ⟨rfl, hb1⟩
  have k1 := k0.trans (hb1.mono k0.size)
  have d0 := below_cellOf hb1 c0 (Nat.le_refl _)
  have d1 := below_cellOf hb1 c1 (Nat.le_refl _)
  have d2 := below_cellOf hb1 c2 (Nat.le_refl _)
  go_wp2_with fail
  refine wp_region_quietD (Below w1.heap.size w1) (by kernel_rfl) (by kernel_rfl) (below_drew1 _) ?_
  have n0 := below_nonempty w1
  have f0 := inCell d0
  have f1 := inCell d1
  have f2 := inCell d2
  repeat (go_big_quiet_step (first | (go_at_call 33; first | exact inCallS _ (K1.out _) | exact inCallS _ (K2.out _) | exact inCallS _ (K3.out _))))
  refine wpQuiet_nil ?_
  rintro _ ⟨x, rfl⟩
  go_wp2
  go_ret
  exact ⟨rfl, k1.trans (x.ok.mono k1.size)⟩
end Go.Proofs.YtnlcjbobfhmnmabGreatDoor

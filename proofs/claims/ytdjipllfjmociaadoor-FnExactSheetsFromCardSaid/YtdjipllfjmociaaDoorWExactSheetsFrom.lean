/-
  The walk of the law FnExactSheetsFrom: it returns true for every argument. Condition: the listed variables hold what the row lists.
-/
import Derived.Test.YtdjipllfjmociaaDoorSheetsI
import Derived.Test.YtdjipllfjmociaaDoorKeepT
import Derived.Test.YtdjipllfjmociaaDoorEnv
namespace Go.Proofs.YtdjipllfjmociaaDoor
open Go.RowKit

set_option maxRecDepth 100000 in
set_option maxHeartbeats 2000000 in
theorem walk_FnExactSheetsFrom (p k b t : Int) (_hp : -9223372036854775808 ≤ p) (_hp1 : p ≤ 9223372036854775807) (_hk : -9223372036854775808 ≤ k) (_hk1 : k ≤ 9223372036854775807) (hb : -128 ≤ b) (hb1 : b ≤ 127) (ht : -128 ≤ t) (ht1 : t ≤ 127) (v u a : Int) (_hv0 : -9223372036854775808 ≤ v) (_hv1 : v ≤ 9223372036854775807) (_hu0 : -9223372036854775808 ≤ u) (_hu1 : u ≤ 9223372036854775807) (_ha0 : -9223372036854775808 ≤ a) (_ha1 : a ≤ 9223372036854775807)
    (A : Option Addr) (n cap : Nat) (xs : Nat → Int) (sl : Int) (_hs0 : -9223372036854775808 ≤ sl) (_hs1 : sl ≤ 9223372036854775807) (w : World) (hL : laidMetH Tryd.prog Rows.fnExactSheetsFromRow.laid w) (hr : IntsIn w A n xs) (hm : n ≤ maxLen) :
    Calls Tryd.prog 4 #[devV p k b t, batV v u a, .slice A n cap, .int .i64 sl] w fun e w' => e = .returned (.bool true) ∧ Below w.heap.size w w' := by
  obtain ⟨z, hE⟩ := errEnv_of_row hL (by kernel_rfl) (by kernel_rfl)
  have hT := timEnv_of_row hL (by kernel_rfl) (by kernel_rfl)
  unfold maxLen at hm
  have k0 : Below w.heap.size w ((w.alloc (.cells #[.int .i64 p, .int .i64 k, .int .i8 b, .int .i8 t] 24)).alloc (.cells #[.int .i64 v, .int .i64 u, .int .i64 a] 26)) := below_2 _ _ _
  by_cases hn : n ≤ 1048576
  rotate_left
  · have hn' : ¬ (n : Int) ≤ 1048576 := by omega
    clear hE hT hL
    go_enter Tryd.func4, Tryd.ntmps4
    go_wp2
    go_ret
    exact ⟨rfl, k0⟩
  have hn' : (n : Int) ≤ 1048576 := by omega
  have hsp := fun (g c : Nat) W hr => specSheetsFrom_any (p := p) (k := k) (b := b) (t := t) (v := v) (u := u) (a := a) g n c xs sl hn hb hb1 ht ht1 W hr
  have him := fun (g c : Nat) W hr hT hE => SheetsFrom_any (p := p) (k := k) (b := b) (t := t) (v := v) (u := u) (a := a) z g n c xs sl hn hb hb1 ht ht1 W hr hT hE
  generalize sfR p k b t v u a sl n xs = R at hsp him
  generalize arC (bathOk p k b t v u a) n xs sl = C at hsp him
  have Hsp := Lib.hid hsp; clear hsp
  have Him := Lib.hid him; clear him
  have Hd := Lib.hid (fun W => toDeveloper_any p k b t W)
  have Hb := Lib.hid (fun W => toBath_any v u a W)
  have D0 : DvAt ((w.alloc (.cells #[.int .i64 p, .int .i64 k, .int .i8 b, .int .i8 t] 24)).alloc (.cells #[.int .i64 v, .int .i64 u, .int .i64 a] 26)) w.heap.size p k b t := (DvAt.newAt w _ rfl _ p k b t).alloc _
  have B0 : BtAt ((w.alloc (.cells #[.int .i64 p, .int .i64 k, .int .i8 b, .int .i8 t] 24)).alloc (.cells #[.int .i64 v, .int .i64 u, .int .i64 a] 26)) (w.heap.size + 1) v u a := BtAt.newAt _ _ (by simp) _ v u a
  have HE := Lib.hid hE; clear hE
  have HT := Lib.hid hT; clear hT hL
  go_enter Tryd.func4, Tryd.ntmps4
  go_wp2_with fail
  generalize ((w.alloc (.cells #[.int .i64 p, .int .i64 k, .int .i8 b, .int .i8 t] 24)).alloc (.cells #[.int .i64 v, .int .i64 u, .int .i64 a] 26)) = W at *
  have Hti := Lib.hid (fun V (hV : Below W.heap.size W V) => toInt64S_any A n cap xs hn V (hr.below (k0.trans (hV.mono k0.size)) (Nat.le_refl _)))
  have hw0 : SDB2 W w.heap.size (w.heap.size + 1) p k b t v u a W := ⟨D0.c0, D0.c1, D0.c2, D0.c3, B0.c0, B0.c1, B0.c2, Below.refl _ _⟩
  go_cut [9, 10] from 17 to 27 (fun s9 s10 wx => s9 = .int .i64 R ∧ s10 = .int .i64 C ∧ Below W.heap.size W wx)
  case first =>
    go_region_held3 (fun w' => w'.cell? ⟨w.heap.size, 0, none⟩ = some (.int .i64 p) ∧ w'.cell? ⟨w.heap.size, 1, none⟩ = some (.int .i64 k) ∧ w'.cell? ⟨w.heap.size, 2, none⟩ = some (.int .i8 b) ∧ w'.cell? ⟨w.heap.size, 3, none⟩ = some (.int .i8 t) ∧ w'.cell? ⟨w.heap.size + 1, 0, none⟩ = some (.int .i64 v) ∧ w'.cell? ⟨w.heap.size + 1, 1, none⟩ = some (.int .i64 u) ∧ w'.cell? ⟨w.heap.size + 1, 2, none⟩ = some (.int .i64 a) ∧ Below W.heap.size W w') (first | assumption | exact hw0.drew (by assumption))
      (first
        | (go_at_call 10; (with_reducible refine (Hd.out _).mono ?_); rintro e w1 ⟨rfl, hb1⟩; have sw1 := hw0.call (by assumption) hb1)
        | (go_at_call 11; (with_reducible refine (Hb.out _).mono ?_); rintro e w2 ⟨rfl, hb2⟩; have sw2 := hw0.call (by assumption) hb2)
        | (go_at_call 12; (with_reducible refine (Hti.out _ ?hB).mono ?_); (case hB => exact sw2.2.2.2.2.2.2.2); rintro e w3 ⟨rfl, hr3, hb3⟩; have sw3 := hw0.call (by assumption) hb3)
        | (go_at_call 17; (with_reducible refine (Hsp.out _ _ _ hr3).mono ?_); rintro e w4 ⟨rfl, hb4⟩; have sw4 := hw0.call (by assumption) hb4))
    all_goals
      go_wp2_with fail
      go_meet
      exact ⟨rfl, rfl, by first | exact sw4.2.2.2.2.2.2.2 | exact sw4.2.2.2.2.2.2.2.drew⟩
  case rest =>
    obtain ⟨rfl, rfl, kx⟩ := hcut
    clear hw0
    have k1 := k0.trans (kx.mono k0.size)
    have D1 := D0.below kx (Nat.le_refl _)
    have B1 := B0.below kx (Nat.le_refl _)
    go_wp2_with fail
    refine (Hti.out _ kx).mono ?_; rintro e w5 ⟨rfl, hr5, hb5⟩
    have k5 := k1.trans (hb5.mono k1.size)
    have D5 := D1.below hb5 (Nat.le_refl _)
    have B5 := B1.below hb5 (Nat.le_refl _)
    clear D1 B1 D0 B0 k1
    obtain ⟨d0, d1, d2, d3⟩ := D5
    obtain ⟨b0, b1, b2, _, _, _⟩ := B5
    have hix := fun (x : WIn (Below w5.heap.size w5)) => Him.out wc.heap.size n x.w (rowIs_below hr5 x.ok hr5.lt) (HT.out.below (k5.trans (x.ok.mono k5.size)) (Nat.le_refl _)) (HE.out.below (k5.trans (x.ok.mono k5.size)) (Nat.le_refl _))
    have Hix := Lib.hid hix; clear hix
    go_wp2_with fail
    refine wp_region_quietD (Below w5.heap.size w5) (by kernel_rfl) (by kernel_rfl) (below_drew1 _) ?_
    have n0 := below_nonempty w5
    have f0 := inCell d0
    have f1 := inCell d1
    have f2 := inCell d2
    have f3 := inCell d3
    have f4 := inCell b0
    have f5 := inCell b1
    have f6 := inCell b2
    repeat (go_big_quiet_step (first | (go_at_call 10; exact inCall _ (Hd.out _)) | (go_at_call 11; exact inCall _ (Hb.out _)) | (go_at_call 18; exact inCall _ (Hix.out _))))
    refine wpQuiet_nil ?_
    rintro _ ⟨y, rfl⟩
    have k6 := k5.trans (y.ok.mono k5.size)
    have hr6 := rowIs_below hr5 y.ok hr5.lt
    have kW6 := kx.trans ((hb5.trans (y.ok.mono hb5.size)).mono kx.size)
    clear f0 f1 f2 f3 f4 f5 f6 d0 d1 d2 d3 b0 b1 b2
    generalize y.w = w6 at *
    go_wp2_with fail
    refine (Hti.out _ kW6).mono ?_; rintro e w7 ⟨rfl, hr7, hb7⟩
    have k7 := k6.trans (hb7.mono k6.size)
    have hr8 := rowIs_below hr6 hb7 hr6.lt
    go_wp2_with fail
    refine (eqInt64S_same _ _ n n n xs hn _ hr8 hr7).mono ?_; rintro e w8 ⟨rfl, hb8⟩
    go_wp2_with fail
    go_ret
    exact ⟨rfl, k7.trans (hb8.mono k7.size)⟩
end Go.Proofs.YtdjipllfjmociaaDoor

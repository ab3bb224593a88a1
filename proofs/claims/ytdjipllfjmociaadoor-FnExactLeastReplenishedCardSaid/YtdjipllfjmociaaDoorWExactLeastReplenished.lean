/-
  The walk of the law FnExactLeastReplenished: it returns true for every argument. Condition: the listed variables hold what the row lists.
-/
import Derived.Test.YtdjipllfjmociaaDoorLeastS
import Derived.Test.YtdjipllfjmociaaDoorLeastI
import Derived.Test.YtdjipllfjmociaaDoorOwnInts
import Derived.Test.YtdjipllfjmociaaDoorKeepT
import Derived.Test.YtdjipllfjmociaaDoorEnv
namespace Go.Proofs.YtdjipllfjmociaaDoor
open Go.RowKit

theorem mine_row {w : World} {g n cap : Nat} {E : TypeId} {f : Nat → Value} (h : w.rowIs g E n f) : Mine w g (g + 1) E 1 (.slice (some ⟨g, 0, none⟩) n cap) n f :=
  ⟨_, _, rfl, .inr ⟨g, n, f, rfl, Nat.le_refl _, Nat.lt_succ_self _, by omega, h, fun _ _ => rfl⟩⟩

set_option maxRecDepth 100000 in
set_option maxHeartbeats 8000000 in
theorem walk_FnExactLeastReplenished (p k b t : Int) (_hp : -9223372036854775808 ≤ p) (_hp1 : p ≤ 9223372036854775807) (_hk : -9223372036854775808 ≤ k) (_hk1 : k ≤ 9223372036854775807) (hb : -128 ≤ b) (hb1 : b ≤ 127) (ht : -128 ≤ t) (ht1 : t ≤ 127) (v u a : Int) (_hv0 : -9223372036854775808 ≤ v) (_hv1 : v ≤ 9223372036854775807) (_hu0 : -9223372036854775808 ≤ u) (_hu1 : u ≤ 9223372036854775807) (_ha0 : -9223372036854775808 ≤ a) (_ha1 : a ≤ 9223372036854775807)
    (A : Option Addr) (n cap : Nat) (xs : Nat → Int) (sl : Int) (_hs0 : -9223372036854775808 ≤ sl) (_hs1 : sl ≤ 9223372036854775807) (w : World) (hL : laidMetH Tryd.prog Rows.fnExactLeastReplenishedRow.laid w) (hr : IntsIn w A n xs) (hm : n ≤ maxLen) :
    Calls Tryd.prog 3 #[devV p k b t, batV v u a, .slice A n cap, .int .i64 sl] w fun e w' => e = .returned (.bool true) ∧ Below w.heap.size w w' := by
  obtain ⟨z, hE⟩ := errEnv_of_row hL (by kernel_rfl) (by kernel_rfl)
  have hT := timEnv_of_row hL (by kernel_rfl) (by kernel_rfl)
  unfold maxLen at hm
  have k0 : Below w.heap.size w ((w.alloc (.cells #[.int .i64 p, .int .i64 k, .int .i8 b, .int .i8 t] 24)).alloc (.cells #[.int .i64 v, .int .i64 u, .int .i64 a] 26)) := below_2 _ _ _
  by_cases hn : n ≤ 1048576
  rotate_left
  · have hn' : ¬ (n : Int) ≤ 1048576 := by omega
    clear hE hT hL
    go_enter Tryd.func3, Tryd.ntmps3
    go_wp2
    go_ret
    exact ⟨rfl, k0⟩
  have hn' : (n : Int) ≤ 1048576 := by omega
  have hsp := fun (g c : Nat) W hr => specLeastReplenished_any (p := p) (k := k) (b := b) (t := t) (v := v) (u := u) (a := a) g n c xs sl hn hb hb1 ht ht1 W hr
  have him := fun (g c : Nat) W hr hT hE => LeastReplenished_any (p := p) (k := k) (b := b) (t := t) (v := v) (u := u) (a := a) z g n c xs sl hn hb hb1 ht ht1 W hr hT hE
  have hl := lrR_len (lrJ p k b t v sl xs u a) v n (arC (bathOk p k b t v u a) n xs sl)
  generalize lrR (lrJ p k b t v sl xs u a) v n (arC (bathOk p k b t v u a) n xs sl) = l at hsp him hl
  generalize lrV (lrJ p k b t v sl xs u a) v n (arC (bathOk p k b t v u a) n xs sl) = sm at hsp him
  generalize lrC (lrJ p k b t v sl xs u a) v n (arC (bathOk p k b t v u a) n xs sl) = c at hsp him
  have Hsp := Lib.hid hsp; clear hsp
  have Him := Lib.hid him; clear him
  have Hd := Lib.hid (fun W => toDeveloper_any p k b t W)
  have Hb := Lib.hid (fun W => toBath_any v u a W)
  have D0 : DvAt ((w.alloc (.cells #[.int .i64 p, .int .i64 k, .int .i8 b, .int .i8 t] 24)).alloc (.cells #[.int .i64 v, .int .i64 u, .int .i64 a] 26)) w.heap.size p k b t := (DvAt.newAt w _ rfl _ p k b t).alloc _
  have B0 : BtAt ((w.alloc (.cells #[.int .i64 p, .int .i64 k, .int .i8 b, .int .i8 t] 24)).alloc (.cells #[.int .i64 v, .int .i64 u, .int .i64 a] 26)) (w.heap.size + 1) v u a := BtAt.newAt _ _ (by simp) _ v u a
  have HE := Lib.hid hE; clear hE
  have HT := Lib.hid hT; clear hT hL
  go_enter Tryd.func3, Tryd.ntmps3
  go_wp2_with fail
  generalize ((w.alloc (.cells #[.int .i64 p, .int .i64 k, .int .i8 b, .int .i8 t] 24)).alloc (.cells #[.int .i64 v, .int .i64 u, .int .i64 a] 26)) = W at *
  have Hti := Lib.hid (fun V (hV : Below W.heap.size W V) => toInt64S_any A n cap xs hn V (hr.below (k0.trans (hV.mono k0.size)) (Nat.le_refl _)))
  have hw0 : SDB2 W w.heap.size (w.heap.size + 1) p k b t v u a W := ⟨D0.c0, D0.c1, D0.c2, D0.c3, B0.c0, B0.c1, B0.c2, Below.refl _ _⟩
  go_cut [9, 10, 11] from 25 to 36 (fun s9 s10 s11 wx => s10 = .int .i64 sm ∧ s11 = .int .i64 c ∧ Mine wx W.heap.size wx.heap.size 2 1 s9 l.length (fun j => .int .i64 (l.getD j 0)) ∧ Below W.heap.size W wx)
  case first =>
    go_region_held3 (fun w' => w'.cell? ⟨w.heap.size, 0, none⟩ = some (.int .i64 p) ∧ w'.cell? ⟨w.heap.size, 1, none⟩ = some (.int .i64 k) ∧ w'.cell? ⟨w.heap.size, 2, none⟩ = some (.int .i8 b) ∧ w'.cell? ⟨w.heap.size, 3, none⟩ = some (.int .i8 t) ∧ w'.cell? ⟨w.heap.size + 1, 0, none⟩ = some (.int .i64 v) ∧ w'.cell? ⟨w.heap.size + 1, 1, none⟩ = some (.int .i64 u) ∧ w'.cell? ⟨w.heap.size + 1, 2, none⟩ = some (.int .i64 a) ∧ Below W.heap.size W w') (first | assumption | exact hw0.drew (by assumption))
      (first
        | (go_at_call 10; (with_reducible refine (Hd.out _).mono ?_); rintro e w1 ⟨rfl, hb1⟩; have sw1 := hw0.call (by assumption) hb1)
        | (go_at_call 11; (with_reducible refine (Hb.out _).mono ?_); rintro e w2 ⟨rfl, hb2⟩; have sw2 := hw0.call (by assumption) hb2)
        | (go_at_call 12; (with_reducible refine (Hti.out _ ?hB).mono ?_); (case hB => exact sw2.2.2.2.2.2.2.2); rintro e w3 ⟨rfl, hr3, hb3⟩; have sw3 := hw0.call (by assumption) hb3)
        | (go_at_call 9; (with_reducible refine (Hsp.out _ _ _ hr3).mono ?_); rintro e w4 ⟨v4, rfl, hm4, hb4⟩; have sw4 := hw0.call (by assumption) hb4))
    all_goals
      go_wp2_with fail
      go_meet
      exact ⟨rfl, rfl, hm4.mono sw3.2.2.2.2.2.2.2.size (Nat.le_refl _), by first | exact sw4.2.2.2.2.2.2.2 | exact sw4.2.2.2.2.2.2.2.drew⟩
  case rest =>
    obtain ⟨rfl, rfl, hm0, kx⟩ := hcut
    obtain ⟨wa, rfl⟩ : ∃ wa : World, wa = wc := ⟨wc, rfl⟩
    clear hw0
    have k1 := k0.trans (kx.mono k0.size)
    have z1 := kx.size
    have z0 := k0.size
    go_wp2_with fail
    refine (Hti.out _ kx).mono ?_; rintro e w5 ⟨rfl, hr5, hb5⟩
    have k5 := k1.trans (hb5.mono k1.size)
    have kW5 := kx.trans (hb5.mono kx.size)
    have D5 := D0.below kW5 (Nat.le_refl _)
    have B5 := B0.below kW5 (Nat.le_refl _)
    have hm0 := hm0.below hb5 (Nat.le_refl _)
    have z5 := hb5.size
    have y5 := hr5.lt
    have hw0 : SDB2 w5 w.heap.size (w.heap.size + 1) p k b t v u a w5 := ⟨D5.c0, D5.c1, D5.c2, D5.c3, B5.c0, B5.c1, B5.c2, Below.refl _ _⟩
    clear D5 B5 k1
    have Hix := Lib.hid (fun V (hV : Below w5.heap.size w5 V) => Him.out wa.heap.size n V (rowIs_below hr5 hV hr5.lt) (HT.out.below (k5.trans (hV.mono k5.size)) (Nat.le_refl _)) (HE.out.below (k5.trans (hV.mono k5.size)) (Nat.le_refl _)))
    go_wp2_with fail
    go_cut [13, 14, 15] from 39 to 49 (fun s9 s10 s11 wx => s10 = .int .i64 sm ∧ s11 = .int .i64 c ∧ Mine wx w5.heap.size wx.heap.size 2 1 s9 l.length (fun j => .int .i64 (l.getD j 0)) ∧ Below w5.heap.size w5 wx)
    case first =>
      go_region_held3 (fun w' => w'.cell? ⟨w.heap.size, 0, none⟩ = some (.int .i64 p) ∧ w'.cell? ⟨w.heap.size, 1, none⟩ = some (.int .i64 k) ∧ w'.cell? ⟨w.heap.size, 2, none⟩ = some (.int .i8 b) ∧ w'.cell? ⟨w.heap.size, 3, none⟩ = some (.int .i8 t) ∧ w'.cell? ⟨w.heap.size + 1, 0, none⟩ = some (.int .i64 v) ∧ w'.cell? ⟨w.heap.size + 1, 1, none⟩ = some (.int .i64 u) ∧ w'.cell? ⟨w.heap.size + 1, 2, none⟩ = some (.int .i64 a) ∧ Below w5.heap.size w5 w') (first | assumption | exact hw0.drew (by assumption))
        (first
          | (go_at_call 10; (with_reducible refine (Hd.out _).mono ?_); rintro e w1 ⟨rfl, hb1⟩; have sw1 := hw0.call (by assumption) hb1)
          | (go_at_call 11; (with_reducible refine (Hb.out _).mono ?_); rintro e w2 ⟨rfl, hb2⟩; have sw2 := hw0.call (by assumption) hb2)
          | (go_at_call 13; (with_reducible refine (Hix.out _ ?hB).mono ?_); (case hB => exact sw2.2.2.2.2.2.2.2); rintro e w4 ⟨v4, rfl, hm4, hb4⟩; have sw4 := hw0.call (by assumption) hb4))
      all_goals
        go_wp2_with fail
        go_meet
        exact ⟨rfl, rfl, hm4.mono sw2.2.2.2.2.2.2.2.size (Nat.le_refl _), by first | exact sw4.2.2.2.2.2.2.2 | exact sw4.2.2.2.2.2.2.2.drew⟩
    case rest =>
      obtain ⟨rfl, rfl, hm1, k56⟩ := hcut
      obtain ⟨w6, rfl⟩ : ∃ w6 : World, w6 = wc := ⟨wc, rfl⟩
      clear hw0 Hix
      have k6 := k5.trans (k56.mono k5.size)
      have kW6 := kW5.trans (k56.mono kW5.size)
      have hm0 := hm0.below k56 z5
      have hr6 := rowIs_below hr5 k56 hr5.lt
      have z6 := k56.size
      clear k5 kW5 k56 hr5 hb5
      go_wp2_with fail
      refine (eqInt64S_mine _ _ _ _ _ _ _ _ (by omega) _ hm1 hm0).mono ?_; rintro e w7 ⟨rfl, hb7⟩
      have k7 := k6.trans (hb7.mono k6.size)
      have kW7 := kW6.trans (hb7.mono kW6.size)
      have hm0 := hm0.below hb7 (by omega)
      have hm1 := hm1.below hb7 (by omega)
      have z7 := hb7.size
      have hr7 := rowIs_below hr6 hb7 hr6.lt
      go_wp2_with fail
      refine (Hti.out _ kW7).mono ?_; rintro e w8 ⟨rfl, hr8', hb8⟩
      have k8 := k7.trans (hb8.mono k7.size)
      have kW8 := kW7.trans (hb8.mono kW7.size)
      have hm0 := hm0.below hb8 (by omega)
      have hm1 := hm1.below hb8 (by omega)
      have z8 := hb8.size
      have hr8 := rowIs_below hr7 hb8 hr7.lt
      go_wp2_with fail
      refine (eqInt64S_same _ _ n n n xs hn _ hr8 hr8').mono ?_; rintro e w9 ⟨rfl, hb9⟩
      have k9 := k8.trans (hb9.mono k8.size)
      have kW9 := kW8.trans (hb9.mono kW8.size)
      have hm0 := hm0.below hb9 (by omega)
      have hm1 := hm1.below hb9 (by omega)
      have z9 := hb9.size
      have hr9 := rowIs_below hr8 hb9 hr8.lt
      go_wp2_with fail
      refine (markInt64S_mine _ _ _ _ _ 1 (by omega) (by omega) hn _ (mine_row hr9)).mono ?_; rintro e w10 ⟨rfl, _, ho10⟩
      have k10 := k9.trans ((ho10.below (by omega)).mono (by omega))
      have kW10 := kW9.trans ((ho10.below (by omega)).mono (by omega))
      have z10 := ho10.size
      have hm0 := hm0.only ho10 (.inl (by omega))
      have hm1 := hm1.only ho10 (.inr (by omega))
      clear hr6 hr7 hr8 hr8' hr9 k6 k7 k8 k9 kW6 kW7 kW8 kW9 hb7 hb8 hb9
      go_wp2_with fail
      refine (eqInt64S_mine _ _ _ _ _ _ _ _ (by omega) _ hm1 hm0).mono ?_; rintro e w11 ⟨rfl, hb11⟩
      have k11 := k10.trans (hb11.mono k10.size)
      have kW11 := kW10.trans (hb11.mono kW10.size)
      have hm0 := hm0.below hb11 (by omega)
      have hm1 := hm1.below hb11 (by omega)
      have z11 := hb11.size
      go_wp2_with fail
      refine (markInt64S_mine _ _ _ _ _ 1 (by omega) (by omega) (by omega) _ hm1).mono ?_; rintro e w12 ⟨rfl, hm1', ho12⟩
      have k12 := k11.trans ((ho12.below (by omega)).mono (by omega))
      have kW12 := kW11.trans ((ho12.below (by omega)).mono (by omega))
      have z12 := ho12.size
      have hm0 := hm0.only ho12 (.inl (by omega))
      go_wp2_with fail
      refine (heldInt64S_mine _ _ _ _ 1 (by omega) (by omega) (by omega) _ hm1').mono ?_; rintro e w13 ⟨rfl, rfl⟩
      go_wp2_with fail
      clear hm1 k10 k11 kW10 kW11 ho10 ho12 hb11
      have D5 := D0.below kW12 (Nat.le_refl _)
      have B5 := B0.below kW12 (Nat.le_refl _)
      have hw0 : SDB2 w12 w.heap.size (w.heap.size + 1) p k b t v u a w12 := ⟨D5.c0, D5.c1, D5.c2, D5.c3, B5.c0, B5.c1, B5.c2, Below.refl _ _⟩
      clear D5 B5
      have Hti2 := Lib.hid (fun V (hV : Below w12.heap.size w12 V) => Hti.out V (kW12.trans (hV.mono kW12.size)))
      have Hix := Lib.hid (fun g V hr (hV : Below w12.heap.size w12 V) => Him.out g n V hr (HT.out.below (k12.trans (hV.mono k12.size)) (Nat.le_refl _)) (HE.out.below (k12.trans (hV.mono k12.size)) (Nat.le_refl _)))
      go_cut [19, 20, 21] from 101 to 112 (fun s9 s10 s11 wx => s10 = .int .i64 sm ∧ s11 = .int .i64 c ∧ Mine wx w12.heap.size wx.heap.size 2 1 s9 l.length (fun j => .int .i64 (l.getD j 0)) ∧ Below w12.heap.size w12 wx)
      case first =>
        go_region_held3 (fun w' => w'.cell? ⟨w.heap.size, 0, none⟩ = some (.int .i64 p) ∧ w'.cell? ⟨w.heap.size, 1, none⟩ = some (.int .i64 k) ∧ w'.cell? ⟨w.heap.size, 2, none⟩ = some (.int .i8 b) ∧ w'.cell? ⟨w.heap.size, 3, none⟩ = some (.int .i8 t) ∧ w'.cell? ⟨w.heap.size + 1, 0, none⟩ = some (.int .i64 v) ∧ w'.cell? ⟨w.heap.size + 1, 1, none⟩ = some (.int .i64 u) ∧ w'.cell? ⟨w.heap.size + 1, 2, none⟩ = some (.int .i64 a) ∧ Below w12.heap.size w12 w') (first | assumption | exact hw0.drew (by assumption))
          (first
            | (go_at_call 10; (with_reducible refine (Hd.out _).mono ?_); rintro e w1 ⟨rfl, hb1⟩; have sw1 := hw0.call (by assumption) hb1)
            | (go_at_call 11; (with_reducible refine (Hb.out _).mono ?_); rintro e w2 ⟨rfl, hb2⟩; have sw2 := hw0.call (by assumption) hb2)
            | (go_at_call 12; (with_reducible refine (Hti2.out _ ?hB).mono ?_); (case hB => exact sw2.2.2.2.2.2.2.2); rintro e w3 ⟨rfl, hr3, hb3⟩; have sw3 := hw0.call (by assumption) hb3)
            | (go_at_call 13; (with_reducible refine (Hix.out _ _ hr3 ?hB).mono ?_); (case hB => exact sw3.2.2.2.2.2.2.2); rintro e w4 ⟨v4, rfl, hm4, hb4⟩; have sw4 := hw0.call (by assumption) hb4))
        all_goals
          go_wp2_with fail
          go_meet
          exact ⟨rfl, rfl, hm4.mono sw3.2.2.2.2.2.2.2.size (Nat.le_refl _), by first | exact sw4.2.2.2.2.2.2.2 | exact sw4.2.2.2.2.2.2.2.drew⟩
      case rest =>
        obtain ⟨rfl, rfl, hm2, kc⟩ := hcut
        have k13 := k12.trans (kc.mono k12.size)
        have z13 := kc.size
        have hm0 := hm0.below kc (by omega)
        have hm1 := hm1'.below kc (by omega)
        clear hw0 Hti2 Hix hm1'
        go_wp2_with fail
        refine (eqInt64S_mine _ _ _ _ _ _ _ _ (by omega) _ hm2 hm0).mono ?_; rintro e w14 ⟨rfl, hb14⟩
        have k14 := k13.trans (hb14.mono k13.size)
        have hm1 := hm1.below hb14 (by omega)
        go_wp2_with fail
        refine (heldInt64S_mine _ _ _ _ 1 (by omega) (by omega) (by omega) _ hm1).mono ?_; rintro e w15 ⟨rfl, rfl⟩
        go_wp2_with fail
        go_ret
        exact ⟨rfl, k14⟩
end Go.Proofs.YtdjipllfjmociaaDoor

/-
  The density of a cell of a print, by the reference. Condition: a curve that is valid.
-/
import Derived.Test.YtnlcjbobfhmnmaaDoorLightS2
import Derived.Test.YtnlcjbobfhmnmaaDoorAtS
import Derived.Test.YtnlcjbobfhmnmaaDoorValidC
import Derived.Test.YtnlcjbobfhmnmaaDoorPlace
import Derived.Test.YtnlcjbobfhmnmaaDoorNegs
import Derived.Test.YtnlcjbobfhmnmaaDoorArrTools
namespace Go.Proofs.YtnlcjbobfhmnmaaDoor
open Go.RowKit

theorem l03Held_any (D : Int) (h0 : 0 ≤ D) (h1 : D ≤ 400) (w : World) : Calls Tryd.prog 45 #[.int .i16 D] w fun e w' => e = .returned (.int .i64 ((D + 5) / 10)) ∧ w = w' := by
  go_enter Tryd.func45, Tryd.ntmps45
  go_wp2_with fail
  go_ret
  exact ⟨rfl, rfl⟩

set_option maxRecDepth 100000 in
set_option maxHeartbeats 1000000 in
theorem l03Printed_any (b n cap : Nat) (xs ys : Nat → Int) (hn : n ≤ 1048576) (c : Crv n xs ys) (D L : Int) (h0 : 0 ≤ D) (h1 : D ≤ 400) (hL : -1 ≤ L) (hL2 : L ≤ 36) (w : World) (hr : PtRow w b n xs ys) :
    Calls Tryd.prog 32 #[.int .i16 D, .slice (some ⟨b, 0, none⟩) n cap, .int .i64 L] w fun e w' => e = .returned (.int .i16 (dens n xs ys (plc L D))) ∧ Below w.heap.size w w' := by
  have hd := dens_400 c (plc L D)
  have i1 : IntKind.i16.wrap (dens n xs ys (plc L D)) = dens n xs ys (plc L D) := IntWalk.i16_in _ (by omega)
  by_cases h : L = -1
  · subst h
    have ha := fun W h => l02At_any b n cap xs ys hn c (-200) (by omega) (by omega) W h
    have e : plc (-1) D = -200 := rfl
    rw [e] at i1 hd ⊢
    generalize dens n xs ys (-200) = V at *
    have Ha := Lib.hid ha; clear ha
    clear e
    go_enter Tryd.func32, Tryd.ntmps32
    go_wp2_with fail
    refine (Ha.out _ hr).mono ?_; rintro e w1 ⟨rfl, hb1⟩
    go_wp2_with fail
    go_ret
    exact ⟨rfl, hb1⟩
  · have e : plc L D = L - (D + 5) / 10 := if_neg h
    rw [e] at i1 hd ⊢
    have ha := fun W h => l02At_any b n cap xs ys hn c (L - (D + 5) / 10) (by omega) (by omega) W h
    have hh := fun W => l03Held_any D h0 h1 W
    generalize dens n xs ys (L - (D + 5) / 10) = V at *
    have hq : 0 ≤ (D + 5) / 10 ∧ (D + 5) / 10 ≤ 41 := by omega
    generalize (D + 5) / 10 = H at *
    have hl0 : ¬ L < 0 := by omega
    have Ha := Lib.hid ha; clear ha
    have Hh := Lib.hid hh; clear hh e c
    go_enter Tryd.func32, Tryd.ntmps32
    go_wp2_with fail
    refine (Hh.out _).mono ?_; rintro e w1 ⟨rfl, rfl⟩
    go_wp2_with fail
    refine (Ha.out _ hr).mono ?_; rintro e w1 ⟨rfl, hb1⟩
    go_wp2_with fail
    go_ret
    exact ⟨rfl, hb1⟩

theorem wpList_store_zS {P : Program} {ops : Array Oper} {rest : List Oper} {o : Oper} {a : Act} {w : World} {Q : Exit → Act → World → Prop} {b : Nat} {T : TypeId} {κ : IntKind} {f : Nat → Int}
    (h : HasArr w b T κ 64 f) (ty : TypeId) (x y : Operand) (hgd : o.guard = none) (ho : o.op = .store ty x y) (hx : a.eval x = .pointer (some ⟨b, 0, none⟩)) (hy : a.eval y = .agg #[.int .i16 0, .int .i16 0, .int .i16 0, .int .i16 0, .int .i16 0, .int .i16 0, .int .i16 0, .int .i16 0, .int .i16 0, .int .i16 0, .int .i16 0, .int .i16 0, .int .i16 0, .int .i16 0, .int .i16 0, .int .i16 0, .int .i16 0, .int .i16 0, .int .i16 0, .int .i16 0, .int .i16 0, .int .i16 0, .int .i16 0, .int .i16 0, .int .i16 0, .int .i16 0, .int .i16 0, .int .i16 0, .int .i16 0, .int .i16 0, .int .i16 0, .int .i16 0, .int .i16 0, .int .i16 0, .int .i16 0, .int .i16 0, .int .i16 0, .int .i16 0, .int .i16 0, .int .i16 0, .int .i16 0, .int .i16 0, .int .i16 0, .int .i16 0, .int .i16 0, .int .i16 0, .int .i16 0, .int .i16 0, .int .i16 0, .int .i16 0, .int .i16 0, .int .i16 0, .int .i16 0, .int .i16 0, .int .i16 0, .int .i16 0, .int .i16 0, .int .i16 0, .int .i16 0, .int .i16 0, .int .i16 0, .int .i16 0, .int .i16 0, .int .i16 0]) (hi : (P.info? ty).map (·.size) = some 64)
    (hK : wpList P ops Q rest (a.put o.dst undef) (w.setRow b (arrV .i16 64 fun _ => 0))) : wpList P ops Q (o :: rest) a w :=
  wpList_store_arr h ty x y hgd ho hx (hy.trans (by rw [zeroArr16])) hi hK

end Go.Proofs.YtnlcjbobfhmnmaaDoor

namespace Go.Proofs.YtnlcjbobfhmnmaaDoor
open Go.RowKit

set_option maxRecDepth 100000 in
set_option maxHeartbeats 4000000 in
theorem l03From_any (g : Nat) (TN : TypeId) (f : Nat → Int) (hf : ∀ k, k < 64 → 0 ≤ f k ∧ f k ≤ 400) (b n cap : Nat) (xs ys : Nat → Int) (hn : n ≤ 1048576) (cv : Crv n xs ys) (b' m cap' : Nat) (fs es : Nat → Int) (hm : m ≤ 1048576) (hs : SmallS m fs es) (hl : ∀ k, k < m → inB (es k) 0 36 = true)
    (w : World) (ha : HasArr w g TN .i16 64 f) (hr : PtRow w b n xs ys) (hr' : StRow w b' m fs es) :
    Calls Tryd.prog 24 #[.pointer (some ⟨g, 0, none⟩), .slice (some ⟨b, 0, none⟩) n cap, .slice (some ⟨b', 0, none⟩) m cap'] w fun e w' => e = .returned (.agg (arrV .i16 64 fun c => dens n xs ys (plc (thin (addT fs es m c)) (f c)))) ∧ Below w.heap.size w w' := by
  have a0 := HasArr.zero w 28 (b := w.heap.size) rfl
  have k0 := (Below.refl w.heap.size w).alloc (Nat.le_refl _) (.cells #[.int .i16 0, .int .i16 0, .int .i16 0, .int .i16 0, .int .i16 0, .int .i16 0, .int .i16 0, .int .i16 0, .int .i16 0, .int .i16 0, .int .i16 0, .int .i16 0, .int .i16 0, .int .i16 0, .int .i16 0, .int .i16 0, .int .i16 0, .int .i16 0, .int .i16 0, .int .i16 0, .int .i16 0, .int .i16 0, .int .i16 0, .int .i16 0, .int .i16 0, .int .i16 0, .int .i16 0, .int .i16 0, .int .i16 0, .int .i16 0, .int .i16 0, .int .i16 0, .int .i16 0, .int .i16 0, .int .i16 0, .int .i16 0, .int .i16 0, .int .i16 0, .int .i16 0, .int .i16 0, .int .i16 0, .int .i16 0, .int .i16 0, .int .i16 0, .int .i16 0, .int .i16 0, .int .i16 0, .int .i16 0, .int .i16 0, .int .i16 0, .int .i16 0, .int .i16 0, .int .i16 0, .int .i16 0, .int .i16 0, .int .i16 0, .int .i16 0, .int .i16 0, .int .i16 0, .int .i16 0, .int .i16 0, .int .i16 0, .int .i16 0, .int .i16 0] 28)
  have hlt := hr.lt
  have hal := ha.lt
  have hli := fun W h => l03Light_any b' m cap' fs es hm hs hl W h
  have hpr := fun D L h0 h1 hL hL2 W h => l03Printed_any b n cap xs ys hn cv D L h0 h1 hL hL2 W h
  have htb := fun c => thin_bd (addT fs es m c)
  have hrk := hr'.below k0 hr'.lt
  have hF : ∀ c, (fun c => dens n xs ys (plc (thin (addT fs es m c)) (f c))) c = dens n xs ys (plc (thin (addT fs es m c)) (f c)) := fun _ => rfl
  generalize hG : (fun c => dens n xs ys (plc (thin (addT fs es m c)) (f c))) = G at *
  clear hG
  have hT : ∀ c, (fun c => thin (addT fs es m c)) c = thin (addT fs es m c) := fun _ => rfl
  generalize (fun c => thin (addT fs es m c)) = T at *
  have hF2 : ∀ c, G c = dens n xs ys (plc (T c) (f c)) := fun c => by rw [hF c, hT c]
  have htb2 : ∀ c, -1 ≤ T c ∧ T c ≤ 36 := fun c => by rw [hT c]; exact htb c
  clear hF hT htb
  have Hli := Lib.hid hli; clear hli hl hs
  have Hpr := Lib.hid hpr; clear hpr cv
  have HF := Lib.hid hF2; clear hF2
  have Htb := Lib.hid htb2; clear htb2
  have Hf := Lib.hid hf; clear hf
  go_enter Tryd.func24, Tryd.ntmps24
  go_wp2_with fail
  refine (Hli.out _ hrk).mono ?_; rintro e w1 ⟨rfl, hb1⟩
  have b0 := a0.below hb1 a0.lt
  have k1 := k0.trans (hb1.mono k0.size)
  have z1 : w.heap.size < w1.heap.size := b0.lt
  have a1 := HasArr.zeroI w1 (b := w1.heap.size) rfl
  have kk := below_setRow (k1.alloc k1.size (.cells #[.int .i64 0, .int .i64 0, .int .i64 0, .int .i64 0, .int .i64 0, .int .i64 0, .int .i64 0, .int .i64 0, .int .i64 0, .int .i64 0, .int .i64 0, .int .i64 0, .int .i64 0, .int .i64 0, .int .i64 0, .int .i64 0, .int .i64 0, .int .i64 0, .int .i64 0, .int .i64 0, .int .i64 0, .int .i64 0, .int .i64 0, .int .i64 0, .int .i64 0, .int .i64 0, .int .i64 0, .int .i64 0, .int .i64 0, .int .i64 0, .int .i64 0, .int .i64 0, .int .i64 0, .int .i64 0, .int .i64 0, .int .i64 0, .int .i64 0, .int .i64 0, .int .i64 0, .int .i64 0, .int .i64 0, .int .i64 0, .int .i64 0, .int .i64 0, .int .i64 0, .int .i64 0, .int .i64 0, .int .i64 0, .int .i64 0, .int .i64 0, .int .i64 0, .int .i64 0, .int .i64 0, .int .i64 0, .int .i64 0, .int .i64 0, .int .i64 0, .int .i64 0, .int .i64 0, .int .i64 0, .int .i64 0, .int .i64 0, .int .i64 0, .int .i64 0] 80)) (b := w1.heap.size) k1.size (arrV .i64 64 T)
  have c1 := (b0.alloc (.cells #[.int .i64 0, .int .i64 0, .int .i64 0, .int .i64 0, .int .i64 0, .int .i64 0, .int .i64 0, .int .i64 0, .int .i64 0, .int .i64 0, .int .i64 0, .int .i64 0, .int .i64 0, .int .i64 0, .int .i64 0, .int .i64 0, .int .i64 0, .int .i64 0, .int .i64 0, .int .i64 0, .int .i64 0, .int .i64 0, .int .i64 0, .int .i64 0, .int .i64 0, .int .i64 0, .int .i64 0, .int .i64 0, .int .i64 0, .int .i64 0, .int .i64 0, .int .i64 0, .int .i64 0, .int .i64 0, .int .i64 0, .int .i64 0, .int .i64 0, .int .i64 0, .int .i64 0, .int .i64 0, .int .i64 0, .int .i64 0, .int .i64 0, .int .i64 0, .int .i64 0, .int .i64 0, .int .i64 0, .int .i64 0, .int .i64 0, .int .i64 0, .int .i64 0, .int .i64 0, .int .i64 0, .int .i64 0, .int .i64 0, .int .i64 0, .int .i64 0, .int .i64 0, .int .i64 0, .int .i64 0, .int .i64 0, .int .i64 0, .int .i64 0, .int .i64 0] 80)).rowOther (b' := w1.heap.size) (by omega) (arrV .i64 64 T)
  have a6 := HasArr.zero ((w1.alloc (.cells #[.int .i64 0, .int .i64 0, .int .i64 0, .int .i64 0, .int .i64 0, .int .i64 0, .int .i64 0, .int .i64 0, .int .i64 0, .int .i64 0, .int .i64 0, .int .i64 0, .int .i64 0, .int .i64 0, .int .i64 0, .int .i64 0, .int .i64 0, .int .i64 0, .int .i64 0, .int .i64 0, .int .i64 0, .int .i64 0, .int .i64 0, .int .i64 0, .int .i64 0, .int .i64 0, .int .i64 0, .int .i64 0, .int .i64 0, .int .i64 0, .int .i64 0, .int .i64 0, .int .i64 0, .int .i64 0, .int .i64 0, .int .i64 0, .int .i64 0, .int .i64 0, .int .i64 0, .int .i64 0, .int .i64 0, .int .i64 0, .int .i64 0, .int .i64 0, .int .i64 0, .int .i64 0, .int .i64 0, .int .i64 0, .int .i64 0, .int .i64 0, .int .i64 0, .int .i64 0, .int .i64 0, .int .i64 0, .int .i64 0, .int .i64 0, .int .i64 0, .int .i64 0, .int .i64 0, .int .i64 0, .int .i64 0, .int .i64 0, .int .i64 0, .int .i64 0] 80)).setRow w1.heap.size (arrV .i64 64 T)) 28 (b := w1.heap.size + 1) (by simp)
  have d0 := (c1.alloc (.cells #[.int .i16 0, .int .i16 0, .int .i16 0, .int .i16 0, .int .i16 0, .int .i16 0, .int .i16 0, .int .i16 0, .int .i16 0, .int .i16 0, .int .i16 0, .int .i16 0, .int .i16 0, .int .i16 0, .int .i16 0, .int .i16 0, .int .i16 0, .int .i16 0, .int .i16 0, .int .i16 0, .int .i16 0, .int .i16 0, .int .i16 0, .int .i16 0, .int .i16 0, .int .i16 0, .int .i16 0, .int .i16 0, .int .i16 0, .int .i16 0, .int .i16 0, .int .i16 0, .int .i16 0, .int .i16 0, .int .i16 0, .int .i16 0, .int .i16 0, .int .i16 0, .int .i16 0, .int .i16 0, .int .i16 0, .int .i16 0, .int .i16 0, .int .i16 0, .int .i16 0, .int .i16 0, .int .i16 0, .int .i16 0, .int .i16 0, .int .i16 0, .int .i16 0, .int .i16 0, .int .i16 0, .int .i16 0, .int .i16 0, .int .i16 0, .int .i16 0, .int .i16 0, .int .i16 0, .int .i16 0, .int .i16 0, .int .i16 0, .int .i16 0, .int .i16 0] 28)).rowOther (b' := w1.heap.size + 1) (by omega) (arrV .i16 64 fun _ => 0)
  have d1 := ((a1.setRow .i64 T).alloc (.cells #[.int .i16 0, .int .i16 0, .int .i16 0, .int .i16 0, .int .i16 0, .int .i16 0, .int .i16 0, .int .i16 0, .int .i16 0, .int .i16 0, .int .i16 0, .int .i16 0, .int .i16 0, .int .i16 0, .int .i16 0, .int .i16 0, .int .i16 0, .int .i16 0, .int .i16 0, .int .i16 0, .int .i16 0, .int .i16 0, .int .i16 0, .int .i16 0, .int .i16 0, .int .i16 0, .int .i16 0, .int .i16 0, .int .i16 0, .int .i16 0, .int .i16 0, .int .i16 0, .int .i16 0, .int .i16 0, .int .i16 0, .int .i16 0, .int .i16 0, .int .i16 0, .int .i16 0, .int .i16 0, .int .i16 0, .int .i16 0, .int .i16 0, .int .i16 0, .int .i16 0, .int .i16 0, .int .i16 0, .int .i16 0, .int .i16 0, .int .i16 0, .int .i16 0, .int .i16 0, .int .i16 0, .int .i16 0, .int .i16 0, .int .i16 0, .int .i16 0, .int .i16 0, .int .i16 0, .int .i16 0, .int .i16 0, .int .i16 0, .int .i16 0, .int .i16 0] 28)).rowOther (b' := w1.heap.size + 1) (by omega) (arrV .i16 64 fun _ => 0)
  have d6 := (a6.setRow .i16 fun _ => 0).congr (fun j _ => mixG_0 (fun _ => 0) G j)
  have kz : w.heap.size ≤ ((w1.alloc (.cells #[.int .i64 0, .int .i64 0, .int .i64 0, .int .i64 0, .int .i64 0, .int .i64 0, .int .i64 0, .int .i64 0, .int .i64 0, .int .i64 0, .int .i64 0, .int .i64 0, .int .i64 0, .int .i64 0, .int .i64 0, .int .i64 0, .int .i64 0, .int .i64 0, .int .i64 0, .int .i64 0, .int .i64 0, .int .i64 0, .int .i64 0, .int .i64 0, .int .i64 0, .int .i64 0, .int .i64 0, .int .i64 0, .int .i64 0, .int .i64 0, .int .i64 0, .int .i64 0, .int .i64 0, .int .i64 0, .int .i64 0, .int .i64 0, .int .i64 0, .int .i64 0, .int .i64 0, .int .i64 0, .int .i64 0, .int .i64 0, .int .i64 0, .int .i64 0, .int .i64 0, .int .i64 0, .int .i64 0, .int .i64 0, .int .i64 0, .int .i64 0, .int .i64 0, .int .i64 0, .int .i64 0, .int .i64 0, .int .i64 0, .int .i64 0, .int .i64 0, .int .i64 0, .int .i64 0, .int .i64 0, .int .i64 0, .int .i64 0, .int .i64 0, .int .i64 0] 80)).setRow w1.heap.size (arrV .i64 64 T)).heap.size := by simp; omega
  have k6 := below_setRow (kk.alloc kz (.cells #[.int .i16 0, .int .i16 0, .int .i16 0, .int .i16 0, .int .i16 0, .int .i16 0, .int .i16 0, .int .i16 0, .int .i16 0, .int .i16 0, .int .i16 0, .int .i16 0, .int .i16 0, .int .i16 0, .int .i16 0, .int .i16 0, .int .i16 0, .int .i16 0, .int .i16 0, .int .i16 0, .int .i16 0, .int .i16 0, .int .i16 0, .int .i16 0, .int .i16 0, .int .i16 0, .int .i16 0, .int .i16 0, .int .i16 0, .int .i16 0, .int .i16 0, .int .i16 0, .int .i16 0, .int .i16 0, .int .i16 0, .int .i16 0, .int .i16 0, .int .i16 0, .int .i16 0, .int .i16 0, .int .i16 0, .int .i16 0, .int .i16 0, .int .i16 0, .int .i16 0, .int .i16 0, .int .i16 0, .int .i16 0, .int .i16 0, .int .i16 0, .int .i16 0, .int .i16 0, .int .i16 0, .int .i16 0, .int .i16 0, .int .i16 0, .int .i16 0, .int .i16 0, .int .i16 0, .int .i16 0, .int .i16 0, .int .i16 0, .int .i16 0, .int .i16 0] 28)) (b := w1.heap.size + 1) (by omega) (arrV .i16 64 fun _ => 0)
  have K0 := Lib.hid (And.intro d0 (And.intro d1 (And.intro d6 k6)))
  clear a0 k0 hrk hb1 b0 k1 kk c1 d0 d1 d6 k6 kz
  go_wp2_with (first | (refine wpList_store_arr a1 _ _ _ rfl rfl rfl rfl sizeI64 ?_) | (refine wpList_store_zS a6 _ _ _ rfl rfl rfl rfl sizePrint ?_))
  clear a1 a6
  go_loopw [9] (fun i wr => ∃ c : Nat, c ≤ 64 ∧ i = .int .i64 (c : Int) ∧ HasArr wr w.heap.size 28 .i16 64 (fun _ => 0) ∧ HasArr wr w1.heap.size 80 .i64 64 T ∧ HasArr wr (w1.heap.size + 1) 28 .i16 64 (mixG (fun _ => 0) G c) ∧ Below w.heap.size w wr) (fun i _ => 64 - (intOf i).toNat)
  case atStart => exact ⟨0, by omega, rfl, K0.out⟩
  case round =>
    obtain ⟨c, hc, rfl, h0, h1, h2, hB⟩ := hrel
    clear K0
    by_cases hcn : c < 64
    · have w4 : (c : Int) < 64 := by omega
      have cn := (ha.below hB ha.lt).cell hcn
      have cl := h1.cell hcn
      have hb := Hf.out c hcn
      have ht := Htb.out c
      have hFc := HF.out c
      have hpr := fun W h => Hpr.out (f c) (T c) hb.1 hb.2 ht.1 ht.2 W h
      rw [← hFc] at hpr
      have hst := fun (W : World) (h : HasArr W (w1.heap.size + 1) 28 .i16 64 (mixG (fun _ => 0) G c)) => (h.set c (G c)).congr (fun j _ => mixG_step (fun _ => 0) G c j)
      clear hFc
      generalize G c = V at *
      generalize T c = L at *
      generalize f c = D at *
      have hrw := hr.below hB hr.lt
      have Hp := Lib.hid (fun (x : WIn (Below wr.heap.size wr)) => hpr x.w (hrw.below x.ok hrw.lt)); clear hpr hrw
      have Hst := Lib.hid hst; clear hst
      have HR0 := Lib.hid h0; clear h0
      have HR1 := Lib.hid h1; clear h1
      have HR2 := Lib.hid h2; clear h2
      have HB := Lib.hid hB; clear hB
      go_wp2_with fail
      refine wp_region_quiet_tail 12 (fun w' => ∃ x : WIn (Below wr.heap.size wr), w' = x.w) (by kernel_rfl) (by kernel_rfl) ⟨⟨_, below_drew1 _⟩, rfl⟩ ?_
      simp only [List.take_succ_cons, List.take_zero, List.drop_succ_cons, List.drop_zero]
      have n0 := below_nonempty wr
      have f0 := inCell cn
      have f1 := inCell cl
      refine wpQuiet_yield (.int .i64 (c : Int)) rfl (fun _ => rfl) ?_
      go_frame
      refine wpQuiet_yield (.pointer (some ⟨g, 0, none⟩)) rfl (fun _ => rfl) ?_
      go_frame
      refine wpQuiet_yield (.int .i64 (c : Int)) rfl (fun _ => rfl) ?_
      go_frame
      refine wpQuiet_yield (.pointer (some ⟨g, 0, none⟩)) rfl (fun _ => rfl) ?_
      go_frame
      quiet_step (fail)
      quiet_step (fail)
      refine wpQuiet_yield (.slice (some ⟨b, 0, none⟩) n cap) rfl (fun _ => rfl) ?_
      go_frame
      refine wpQuiet_yield (.int .i64 (c : Int)) rfl (fun _ => rfl) ?_
      go_frame
      quiet_step (fail)
      quiet_step (fail)
      quiet_step ((go_at_call 32; exact inCall _ (Hp.out _)))
      quiet_step (fail)
      refine wpQuiet_nil ?_
      rintro w2 ⟨⟨w3, hb2⟩, rfl⟩
      have g0 := HR0.out.below hb2 HR0.out.lt
      have g1 := HR1.out.below hb2 HR1.out.lt
      have g2 := HR2.out.below hb2 HR2.out.lt
      have gB := HB.out.trans (hb2.mono HB.out.size)
      have d0 := g2.cell hcn
      have e0 := g2.free c
      have K := Lib.hid (And.intro (g0.other (a := ⟨w1.heap.size + 1, c, none⟩) (by simp; omega) (.int .i16 V)) (And.intro (g1.other (a := ⟨w1.heap.size + 1, c, none⟩) (by simp) (.int .i16 V)) (And.intro (Hst.out _ g2) (gB.setCell (p := ⟨w1.heap.size + 1, c, none⟩) (by simp; omega) (.int .i16 V)))))
      clear g0 g1 g2 gB f0 f1 n0 cn cl
      go_wp2_with fail
      go_roundw
      case rel => exact ⟨c + 1, by omega, by go_num, K.out⟩
      case measure => simp [intOf]; omega
    · obtain rfl : c = 64 := by omega
      have h2 := h2.congr (g := G) (fun j hj => mixG_64 hj)
      have h2' := h0.setRow .i16 G
      have hB' := below_setRow hB (b := w.heap.size) (by omega) (arrV .i16 64 G)
      go_wp2_with (first | (refine wpList_load_arr h2 _ _ rfl rfl rfl Tryd.underlying28 sizePrint ?_) | (refine wpList_store_arr h0 _ _ _ rfl rfl rfl rfl sizePrint ?_))
      refine bodyPost_ret (v := .agg (arrV .i16 64 G)) ?_ rfl ⟨rfl, hB'⟩
      exact results_cell_row rfl _ _ _ _ _ _ _ rfl h2' Tryd.underlying28 rfl (by rw [arrV_size]; exact sizePrint)
end Go.Proofs.YtnlcjbobfhmnmaaDoor

namespace Go.Proofs.YtnlcjbobfhmnmaaDoor
open Go.RowKit

def prtB (f : Nat → Int) (n : Nat) (xs ys : Nat → Int) (m : Nat) (es : Nat → Int) : Bool := dnsB f && validC n xs ys && stpB m es
def prtC (f : Nat → Int) (n : Nat) (xs ys : Nat → Int) (m : Nat) (es : Nat → Int) : Int := if prtB f n xs ys m es = true then 0 else 1
def prtG (f : Nat → Int) (n : Nat) (xs ys : Nat → Int) (m : Nat) (fs es : Nat → Int) : Nat → Int := if prtB f n xs ys m es = true then (fun c => dens n xs ys (plc (thin (addT fs es m c)) (f c))) else fun _ => 0
theorem prt_no {f : Nat → Int} {n : Nat} {xs ys : Nat → Int} {m : Nat} {fs es : Nat → Int} (h : prtB f n xs ys m es = false) : prtC f n xs ys m es = 1 ∧ prtG f n xs ys m fs es = fun _ => 0 := by simp [prtC, prtG, h]
theorem prt_yes {f : Nat → Int} {n : Nat} {xs ys : Nat → Int} {m : Nat} {fs es : Nat → Int} (h : prtB f n xs ys m es = true) : prtC f n xs ys m es = 0 ∧ prtG f n xs ys m fs es = fun c => dens n xs ys (plc (thin (addT fs es m c)) (f c)) := by simp [prtC, prtG, h]

theorem resultsRowTmpP {P : Program} {fn : Func} {p q : Tmp} {ty : TypeId} (h : fn.results = #[.cell p ty, .tmp q]) (tmps : Array Value) (w : World) (g : Nat) (t : TypeId) (cs : Array Value) (fr : Nat × Nat) (d : TypeDesc)
    (hp : tmps.getD p undef = .pointer (some ⟨g, 0, none⟩)) (hg : w.heap[g]? = some (.cells cs t fr))
    (hu : P.underlying ty = some d) (hd : (match d with | .struct _ | .array _ _ => true | _ => false) = true) (hi : (P.info? ty).map (·.size) = some cs.size) (v : Value) (hq : tmps.getD q undef = v) :
    (results fn tmps).run P w = .ok (.tuple #[.agg cs, v]) w := results_row_tmp h tmps w g t cs fr d hp hg hu hd hi v hq

set_option maxRecDepth 100000 in
set_option maxHeartbeats 2000000 in
theorem specPrintFrom_any (f : Nat → Int) (hf : S16 f) (b n cap : Nat) (xs ys : Nat → Int) (hn : n ≤ 1048576) (hs : SmallP n xs ys) (b' m cap' : Nat) (fs es : Nat → Int) (hm : m ≤ 1048576) (hs' : SmallS m fs es)
    (w : World) (hr : PtRow w b n xs ys) (hr' : StRow w b' m fs es) :
    Calls Tryd.prog 7 #[.agg (arrV .i16 64 f), .slice (some ⟨b, 0, none⟩) n cap, .slice (some ⟨b', 0, none⟩) m cap'] w fun e w' => e = .returned (.tuple #[.agg (arrV .i16 64 (prtG f n xs ys m fs es)), .int .i64 (prtC f n xs ys m es)]) ∧ Below w.heap.size w w' := by
  have a1 := (HasArr.new w 31 .i16 64 f).alloc (.cells #[.int .i16 0, .int .i16 0, .int .i16 0, .int .i16 0, .int .i16 0, .int .i16 0, .int .i16 0, .int .i16 0, .int .i16 0, .int .i16 0, .int .i16 0, .int .i16 0, .int .i16 0, .int .i16 0, .int .i16 0, .int .i16 0, .int .i16 0, .int .i16 0, .int .i16 0, .int .i16 0, .int .i16 0, .int .i16 0, .int .i16 0, .int .i16 0, .int .i16 0, .int .i16 0, .int .i16 0, .int .i16 0, .int .i16 0, .int .i16 0, .int .i16 0, .int .i16 0, .int .i16 0, .int .i16 0, .int .i16 0, .int .i16 0, .int .i16 0, .int .i16 0, .int .i16 0, .int .i16 0, .int .i16 0, .int .i16 0, .int .i16 0, .int .i16 0, .int .i16 0, .int .i16 0, .int .i16 0, .int .i16 0, .int .i16 0, .int .i16 0, .int .i16 0, .int .i16 0, .int .i16 0, .int .i16 0, .int .i16 0, .int .i16 0, .int .i16 0, .int .i16 0, .int .i16 0, .int .i16 0, .int .i16 0, .int .i16 0, .int .i16 0, .int .i16 0] 28)
  have a2 := HasArr.zero (w.alloc (.cells (arrV .i16 64 f) 31)) 28 (b := w.heap.size + 1) (by simp)
  have k0 := ((Below.refl w.heap.size w).alloc (Nat.le_refl _) (.cells (arrV .i16 64 f) 31)).alloc (by simp) (.cells #[.int .i16 0, .int .i16 0, .int .i16 0, .int .i16 0, .int .i16 0, .int .i16 0, .int .i16 0, .int .i16 0, .int .i16 0, .int .i16 0, .int .i16 0, .int .i16 0, .int .i16 0, .int .i16 0, .int .i16 0, .int .i16 0, .int .i16 0, .int .i16 0, .int .i16 0, .int .i16 0, .int .i16 0, .int .i16 0, .int .i16 0, .int .i16 0, .int .i16 0, .int .i16 0, .int .i16 0, .int .i16 0, .int .i16 0, .int .i16 0, .int .i16 0, .int .i16 0, .int .i16 0, .int .i16 0, .int .i16 0, .int .i16 0, .int .i16 0, .int .i16 0, .int .i16 0, .int .i16 0, .int .i16 0, .int .i16 0, .int .i16 0, .int .i16 0, .int .i16 0, .int .i16 0, .int .i16 0, .int .i16 0, .int .i16 0, .int .i16 0, .int .i16 0, .int .i16 0, .int .i16 0, .int .i16 0, .int .i16 0, .int .i16 0, .int .i16 0, .int .i16 0, .int .i16 0, .int .i16 0, .int .i16 0, .int .i16 0, .int .i16 0, .int .i16 0] 28)
  have r1 := hr.below k0 hr.lt
  have r2 := hr'.below k0 hr'.lt
  have hd := fun W h => l03Negative_any w.heap.size 31 f hf W h
  have hv := fun W h => l02Ok_any b n cap xs ys hn hs W h
  have ht := fun W h => l03Ok_any b' m cap' fs es hm hs' W h
  rcases h1 : dnsB f with _ | _
  · obtain ⟨e1, e2⟩ := prt_no (f := f) (n := n) (xs := xs) (ys := ys) (m := m) (fs := fs) (es := es) (by simp [prtB, h1])
    rw [e1, e2]
    rw [h1] at hd
    have Hd := Lib.hid hd; clear hd hv ht h1 e1 e2
    go_enter Tryd.func7, Tryd.ntmps7
    go_wp2_with fail
    refine (Hd.out _ a1).mono ?_; rintro e w1 ⟨rfl, hb1⟩
    have b2 := a2.below hb1 a2.lt
    have k1 := k0.trans (hb1.mono k0.size)
    clear a1 a2 k0 hb1 r1 r2
    go_wp2_with (refine wpList_store_zS b2 _ _ _ rfl rfl rfl rfl sizePrint ?_)
    refine bodyPost_ret (v := .tuple #[.agg (arrV .i16 64 fun _ => 0), .int .i64 1]) ?_ rfl ⟨rfl, below_setRow k1 (b := w.heap.size + 1) (by omega) _⟩
    exact resultsRowTmpP rfl _ _ _ _ _ _ _ rfl (b2.setRow .i16 fun _ => 0) Tryd.underlying28 rfl (by rw [arrV_size]; exact sizePrint) _ rfl
  rw [h1] at hd
  have Hd := Lib.hid hd; clear hd
  rcases h2 : validC n xs ys with _ | _
  · obtain ⟨e1, e2⟩ := prt_no (f := f) (n := n) (xs := xs) (ys := ys) (m := m) (fs := fs) (es := es) (by simp [prtB, h2])
    rw [e1, e2]
    rw [h2] at hv
    have Hv := Lib.hid hv; clear hv ht h1 h2 e1 e2
    go_enter Tryd.func7, Tryd.ntmps7
    go_wp2_with fail
    refine (Hd.out _ a1).mono ?_; rintro e w1 ⟨rfl, hb1⟩
    have b2 := a2.below hb1 a2.lt
    have k1 := k0.trans (hb1.mono k0.size)
    have s1 := r1.below hb1 r1.lt
    clear a1 a2 k0 hb1 r1 r2
    go_wp2_with fail
    refine (Hv.out _ s1).mono ?_; rintro e w2 ⟨rfl, hb2⟩
    have b3 := b2.below hb2 b2.lt
    have k2 := k1.trans (hb2.mono k1.size)
    clear b2 k1 hb2 s1
    go_wp2_with (refine wpList_store_zS b3 _ _ _ rfl rfl rfl rfl sizePrint ?_)
    refine bodyPost_ret (v := .tuple #[.agg (arrV .i16 64 fun _ => 0), .int .i64 1]) ?_ rfl ⟨rfl, below_setRow k2 (b := w.heap.size + 1) (by omega) _⟩
    exact resultsRowTmpP rfl _ _ _ _ _ _ _ rfl (b3.setRow .i16 fun _ => 0) Tryd.underlying28 rfl (by rw [arrV_size]; exact sizePrint) _ rfl
  rw [h2] at hv
  have Hv := Lib.hid hv; clear hv
  rcases h3 : stpB m es with _ | _
  · obtain ⟨e1, e2⟩ := prt_no (f := f) (n := n) (xs := xs) (ys := ys) (m := m) (fs := fs) (es := es) (by simp [prtB, h3])
    rw [e1, e2]
    rw [h3] at ht
    have Ht := Lib.hid ht; clear ht h1 h2 h3 e1 e2
    go_enter Tryd.func7, Tryd.ntmps7
    go_wp2_with fail
    refine (Hd.out _ a1).mono ?_; rintro e w1 ⟨rfl, hb1⟩
    have b2 := a2.below hb1 a2.lt
    have k1 := k0.trans (hb1.mono k0.size)
    have s1 := r1.below hb1 r1.lt
    have s2 := r2.below hb1 r2.lt
    clear a1 a2 k0 hb1 r1 r2
    go_wp2_with fail
    refine (Hv.out _ s1).mono ?_; rintro e w2 ⟨rfl, hb2⟩
    have b3 := b2.below hb2 b2.lt
    have k2 := k1.trans (hb2.mono k1.size)
    have t2 := s2.below hb2 s2.lt
    clear b2 k1 hb2 s1 s2
    go_wp2_with fail
    refine (Ht.out _ t2).mono ?_; rintro e w3 ⟨rfl, rfl⟩
    go_wp2_with (refine wpList_store_zS b3 _ _ _ rfl rfl rfl rfl sizePrint ?_)
    refine bodyPost_ret (v := .tuple #[.agg (arrV .i16 64 fun _ => 0), .int .i64 1]) ?_ rfl ⟨rfl, below_setRow k2 (b := w.heap.size + 1) (by omega) _⟩
    exact resultsRowTmpP rfl _ _ _ _ _ _ _ rfl (b3.setRow .i16 fun _ => 0) Tryd.underlying28 rfl (by rw [arrV_size]; exact sizePrint) _ rfl
  rw [h3] at ht
  have Ht := Lib.hid ht; clear ht
  obtain ⟨e1, e2⟩ := prt_yes (f := f) (n := n) (xs := xs) (ys := ys) (m := m) (fs := fs) (es := es) (by simp [prtB, h1, h2, h3])
  rw [e1, e2]
  have hl := fun W ha hr hr' => l03From_any w.heap.size 31 f (fun k hk => dnsB_bd h1 hk) b n cap xs ys hn (validC_crv h2).1 b' m cap' fs es hm hs' (stpB_lit h3) W ha hr hr'
  have Hl := Lib.hid hl; clear hl h1 h2 h3 e1 e2
  generalize (fun c => dens n xs ys (plc (thin (addT fs es m c)) (f c))) = G at *
  go_enter Tryd.func7, Tryd.ntmps7
  go_wp2_with fail
  refine (Hd.out _ a1).mono ?_; rintro e w1 ⟨rfl, hb1⟩
  have b1 := a1.below hb1 a1.lt
  have b2 := a2.below hb1 a2.lt
  have k1 := k0.trans (hb1.mono k0.size)
  have s1 := r1.below hb1 r1.lt
  have s2 := r2.below hb1 r2.lt
  clear a1 a2 k0 hb1 r1 r2
  go_wp2_with fail
  refine (Hv.out _ s1).mono ?_; rintro e w2 ⟨rfl, hb2⟩
  have c1 := b1.below hb2 b1.lt
  have b3 := b2.below hb2 b2.lt
  have k2 := k1.trans (hb2.mono k1.size)
  have t1 := s1.below hb2 s1.lt
  have t2 := s2.below hb2 s2.lt
  clear b1 b2 k1 hb2 s1 s2
  go_wp2_with fail
  refine (Ht.out _ t2).mono ?_; rintro e w3 ⟨rfl, rfl⟩
  go_wp2_with fail
  refine (Hl.out _ c1 t1 t2).mono ?_; rintro e w4 ⟨rfl, hb4⟩
  have b4 := b3.below hb4 b3.lt
  have k4 := k2.trans (hb4.mono k2.size)
  clear b3 k2 hb4 c1 t1 t2
  go_wp2_with (refine wpList_store_arr b4 _ _ _ rfl rfl rfl rfl sizePrint ?_)
  refine bodyPost_ret (v := .tuple #[.agg (arrV .i16 64 G), .int .i64 0]) ?_ rfl ⟨rfl, below_setRow k4 (b := w.heap.size + 1) (by omega) _⟩
  exact resultsRowTmpP rfl _ _ _ _ _ _ _ rfl (b4.setRow .i16 G) Tryd.underlying28 rfl (by rw [arrV_size]; exact sizePrint) _ rfl
end Go.Proofs.YtnlcjbobfhmnmaaDoor

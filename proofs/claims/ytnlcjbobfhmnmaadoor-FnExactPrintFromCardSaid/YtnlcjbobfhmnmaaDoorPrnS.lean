/-
  The density of a cell of a print, by the reference. Condition: a curve that is valid.
-/
import Derived.Test.YtnlcjbobfhmnmaaDoorLightS2
import Derived.Test.YtnlcjbobfhmnmaaDoorAtS
import Derived.Test.YtnlcjbobfhmnmaaDoorValidC
import Derived.Test.YtnlcjbobfhmnmaaDoorPlace
import Derived.Test.YtnlcjbobfhmnmaaDoorNegs
namespace Go.Proofs.YtnlcjbobfhmnmaaDoor
open Go.RowKit

theorem l03Held_any (D : Int) (h0 : 0 ≤ D) (h1 : D ≤ 400) (w : World) : Calls Tryd.prog 45 #[.int .i16 D] w fun e w' => e = .returned (.int .i64 ((D + 5) / 10)) ∧ w = w' := by
  go_enter Tryd.func45, Tryd.ntmps45
  go_wp2_with fail
  go_ret
  exact ⟨rfl, rfl⟩

set_option maxRecDepth 100000 in
set_option maxHeartbeats 1000000 in
theorem l03Printed_any (b n cap : Nat) (xs ys : Nat → Int) (hn : n ≤ 1048576) (c : Crv n xs ys) (D L : Int) (h0 : 0 ≤ D) (h1 : D ≤ 400) (hL : -1 ≤ L) (hL2 : L ≤ 36) (w : World) (hr : PtRow w b n xs ys) :
    Calls Tryd.prog 32 #[.int .i16 D, .slice (some ⟨b, 0, none⟩) n cap, .int .i64 L] w fun e w' => e = .returned (.int .i16 (dens n xs ys (plc L D))) ∧ Below w.heap.size w w' := by
  have hd := dens_400 c (plc L D)
  have i1 : IntKind.i16.wrap (dens n xs ys (plc L D)) = dens n xs ys (plc L D) := IntWalk.i16_in _ (by omega)
  by_cases h : L = -1
  · subst h
    have ha := fun W h => l02At_any b n cap xs ys hn c (-200) (by omega) (by omega) W h
    have e : plc (-1) D = -200 := rfl
    rw [e] at i1 hd ⊢
    generalize dens n xs ys (-200) = V at *
    have Ha := Lib.hid ha; clear ha
    clear e
    go_enter Tryd.func32, Tryd.ntmps32
    go_wp2_with fail
    refine (Ha.out _ hr).mono ?_; rintro e w1 ⟨rfl, hb1⟩
    go_wp2_with fail
    go_ret
    exact ⟨rfl, hb1⟩
  · have e : plc L D = L - (D + 5) / 10 := if_neg h
    rw [e] at i1 hd ⊢
    have ha := fun W h => l02At_any b n cap xs ys hn c (L - (D + 5) / 10) (by omega) (by omega) W h
    have hh := fun W => l03Held_any D h0 h1 W
    generalize dens n xs ys (L - (D + 5) / 10) = V at *
    have hq : 0 ≤ (D + 5) / 10 ∧ (D + 5) / 10 ≤ 41 := by omega
    generalize (D + 5) / 10 = H at *
    have hl0 : ¬ L < 0 := by omega
    have Ha := Lib.hid ha; clear ha
    have Hh := Lib.hid hh; clear hh e c
    go_enter Tryd.func32, Tryd.ntmps32
    go_wp2_with fail
    refine (Hh.out _).mono ?_; rintro e w1 ⟨rfl, rfl⟩
    go_wp2_with fail
    refine (Ha.out _ hr).mono ?_; rintro e w1 ⟨rfl, hb1⟩
    go_wp2_with fail
    go_ret
    exact ⟨rfl, hb1⟩

theorem wpList_store_zS {P : Program} {ops : Array Oper} {rest : List Oper} {o : Oper} {a : Act} {w : World} {Q : Exit → Act → World → Prop} {b : Nat} {T : TypeId} {κ : IntKind} {f : Nat → Int}
    (h : HasArr w b T κ 64 f) (ty : TypeId) (x y : Operand) (hgd : o.guard = none) (ho : o.op = .store ty x y) (hx : a.eval x = .pointer (some ⟨b, 0, none⟩)) (hy : a.eval y = .agg #[.int .i16 0, .int .i16 0, .int .i16 0, .int .i16 0, .int .i16 0, .int .i16 0, .int .i16 0, .int .i16 0, .int .i16 0, .int .i16 0, .int .i16 0, .int .i16 0, .int .i16 0, .int .i16 0, .int .i16 0, .int .i16 0, .int .i16 0, .int .i16 0, .int .i16 0, .int .i16 0, .int .i16 0, .int .i16 0, .int .i16 0, .int .i16 0, .int .i16 0, .int .i16 0, .int .i16 0, .int .i16 0, .int .i16 0, .int .i16 0, .int .i16 0, .int .i16 0, .int .i16 0, .int .i16 0, .int .i16 0, .int .i16 0, .int .i16 0, .int .i16 0, .int .i16 0, .int .i16 0, .int .i16 0, .int .i16 0, .int .i16 0, .int .i16 0, .int .i16 0, .int .i16 0, .int .i16 0, .int .i16 0, .int .i16 0, .int .i16 0, .int .i16 0, .int .i16 0, .int .i16 0, .int .i16 0, .int .i16 0, .int .i16 0, .int .i16 0, .int .i16 0, .int .i16 0, .int .i16 0, .int .i16 0, .int .i16 0, .int .i16 0, .int .i16 0]) (hi : (P.info? ty).map (·.size) = some 64)
    (hK : wpList P ops Q rest (a.put o.dst undef) (w.setRow b (arrV .i16 64 fun _ => 0))) : wpList P ops Q (o :: rest) a w :=
  wpList_store_arr h ty x y hgd ho hx (hy.trans (by rw [zeroArr16])) hi hK

end Go.Proofs.YtnlcjbobfhmnmaaDoor

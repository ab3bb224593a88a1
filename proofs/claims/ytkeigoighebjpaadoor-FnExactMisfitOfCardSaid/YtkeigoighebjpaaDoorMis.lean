/-
  The misfit of a paper: by the program and by the reference, for every list of at most 1048576 points. Condition of the program's: its variables hold their own errors.
-/
import Derived.Test.YtkeigoighebjpaaDoorBlack
import Derived.Test.YtkeigoighebjpaaDoorQuietTail
import Derived.Deep.RegionWith
namespace Go.Proofs.YtkeigoighebjpaaDoor
open Go.RowKit

def fourB (a b c e : Int) : Bool := inB a 0 400 && inB b 0 400 && inB c 0 400 && inB e 0 400 && decide (a ≤ b)
theorem fourB_true {a b c e : Int} (h : fourB a b c e = true) : (0 ≤ a ∧ a ≤ 400) ∧ (0 ≤ b ∧ b ≤ 400) ∧ (0 ≤ c ∧ c ≤ 400) ∧ (0 ≤ e ∧ e ≤ 400) := by
  simp only [fourB, Bool.and_eq_true] at h
  obtain ⟨⟨⟨⟨h1, h2⟩, h3⟩, h4⟩, _⟩ := h
  exact ⟨inB_true.1 h1, inB_true.1 h2, inB_true.1 h3, inB_true.1 h4⟩
/-- The code of a paper and of four numbers. -/
def misC (n : Nat) (xs ys : Nat → Int) (a b c e : Int) : Int := if validC n xs ys = true then (if fourB a b c e = true then leaC (shdF n xs ys a) c else 2) else 1
/-- What is read of the light: its misfit. -/
def misV (n : Nat) (xs ys : Nat → Int) (a b c e : Int) : Int := shdF n xs ys b (leaK (shdF n xs ys a) c) - e
theorem mis_1 {n : Nat} {xs ys : Nat → Int} {a b c e : Int} (h : validC n xs ys = false) : misC n xs ys a b c e = 1 := by simp [misC, h]
theorem mis_2 {n : Nat} {xs ys : Nat → Int} {a b c e : Int} (h : validC n xs ys = true) (h2 : fourB a b c e = false) : misC n xs ys a b c e = 2 := by simp [misC, h, h2]
theorem mis_0 {n : Nat} {xs ys : Nat → Int} {a b c e : Int} (h : validC n xs ys = true) (h2 : fourB a b c e = true) : misC n xs ys a b c e = leaC (shdF n xs ys a) c := by simp [misC, h, h2]

structure FourAt (w : World) (g : Nat) (a b c e : Int) : Prop where
  c0 : w.cell? ⟨g, 0, none⟩ = some (.int .i64 a)
  c1 : w.cell? ⟨g, 1, none⟩ = some (.int .i64 b)
  c2 : w.cell? ⟨g, 2, none⟩ = some (.int .i64 c)
  c3 : w.cell? ⟨g, 3, none⟩ = some (.int .i64 e)
theorem FourAt.lt {w : World} {g : Nat} {a b c e : Int} (h : FourAt w g a b c e) : g < w.heap.size := World.block_lt_of_cell? w _ h.c0
theorem FourAt.below {w w' : World} {g : Nat} {a b c e : Int} {B : Nat} (h : FourAt w g a b c e) (hb : Below B w w') (hB : g < B) : FourAt w' g a b c e :=
  ⟨(hb.cell (p := ⟨g, 0, none⟩) hB).trans h.c0, (hb.cell (p := ⟨g, 1, none⟩) hB).trans h.c1, (hb.cell (p := ⟨g, 2, none⟩) hB).trans h.c2, (hb.cell (p := ⟨g, 3, none⟩) hB).trans h.c3⟩
theorem FourAt.new (w : World) (t : TypeId) (a b c e : Int) : FourAt (w.alloc (.cells #[.int .i64 a, .int .i64 b, .int .i64 c, .int .i64 e] t)) w.heap.size a b c e := ⟨by simp, by simp, by simp, by simp⟩
structure PairAt (w : World) (g : Nat) (x y : Int) : Prop where
  c0 : w.cell? ⟨g, 0, none⟩ = some (.int .i64 x)
  c1 : w.cell? ⟨g, 1, none⟩ = some (.int .i64 y)
  fz : ∀ o, w.frozen? ⟨g, o, none⟩ = false
theorem PairAt.lt {w : World} {g : Nat} {x y : Int} (h : PairAt w g x y) : g < w.heap.size := World.block_lt_of_cell? w _ h.c0
theorem PairAt.below {w w' : World} {g : Nat} {x y : Int} {B : Nat} (h : PairAt w g x y) (hb : Below B w w') (hB : g < B) : PairAt w' g x y :=
  ⟨(hb.cell (p := ⟨g, 0, none⟩) hB).trans h.c0, (hb.cell (p := ⟨g, 1, none⟩) hB).trans h.c1, fun o => (hb.frozen (p := ⟨g, o, none⟩) hB).trans (h.fz o)⟩
theorem PairAt.new (w : World) (t : TypeId) (x y : Int) : PairAt (w.alloc (.cells #[.int .i64 x, .int .i64 y] t)) w.heap.size x y := ⟨by simp, by simp, fun o => by simp⟩

set_option maxHeartbeats 1000000 in
theorem l05Four_any (a b c e : Int) (w : World) : Calls Tryd.prog 31 #[.int .i64 a, .int .i64 b, .int .i64 c, .int .i64 e] w fun r w' => r = .returned (.bool (fourB a b c e)) ∧ w = w' := by
  have ha := fun W => l02Density_any a W
  have hb := fun W => l02Density_any b W
  have hc := fun W => l02Density_any c W
  have he := fun W => l02Density_any e W
  unfold fourB
  generalize inB a 0 400 = A at *
  generalize inB b 0 400 = B at *
  generalize inB c 0 400 = C at *
  generalize inB e 0 400 = E at *
  rcases A with _ | _
  · have Ha := Lib.hid ha; have Hb := Lib.hid hb; have Hc := Lib.hid hc; have He := Lib.hid he
    clear ha hb hc he
    go_enter Tryd.func31, Tryd.ntmps31
    go_wp2_with fail
    refine (Ha.out _).mono ?_; rintro r w1 ⟨rfl, rfl⟩
    go_wp2_with fail
    go_ret
    exact ⟨rfl, rfl⟩
  rcases B with _ | _
  · have Ha := Lib.hid ha; have Hb := Lib.hid hb; have Hc := Lib.hid hc; have He := Lib.hid he
    clear ha hb hc he
    go_enter Tryd.func31, Tryd.ntmps31
    go_wp2_with fail
    refine (Ha.out _).mono ?_; rintro r w1 ⟨rfl, rfl⟩
    go_wp2_with fail
    refine (Hb.out _).mono ?_; rintro r w1 ⟨rfl, rfl⟩
    go_wp2_with fail
    go_ret
    exact ⟨rfl, rfl⟩
  rcases C with _ | _
  · have Ha := Lib.hid ha; have Hb := Lib.hid hb; have Hc := Lib.hid hc; have He := Lib.hid he
    clear ha hb hc he
    go_enter Tryd.func31, Tryd.ntmps31
    go_wp2_with fail
    refine (Ha.out _).mono ?_; rintro r w1 ⟨rfl, rfl⟩
    go_wp2_with fail
    refine (Hb.out _).mono ?_; rintro r w1 ⟨rfl, rfl⟩
    go_wp2_with fail
    refine (Hc.out _).mono ?_; rintro r w1 ⟨rfl, rfl⟩
    go_wp2_with fail
    go_ret
    exact ⟨rfl, rfl⟩
  rcases E with _ | _
  · have Ha := Lib.hid ha; have Hb := Lib.hid hb; have Hc := Lib.hid hc; have He := Lib.hid he
    clear ha hb hc he
    go_enter Tryd.func31, Tryd.ntmps31
    go_wp2_with fail
    refine (Ha.out _).mono ?_; rintro r w1 ⟨rfl, rfl⟩
    go_wp2_with fail
    refine (Hb.out _).mono ?_; rintro r w1 ⟨rfl, rfl⟩
    go_wp2_with fail
    refine (Hc.out _).mono ?_; rintro r w1 ⟨rfl, rfl⟩
    go_wp2_with fail
    refine (He.out _).mono ?_; rintro r w1 ⟨rfl, rfl⟩
    go_wp2_with fail
    go_ret
    exact ⟨rfl, rfl⟩
  have Ha := Lib.hid ha; have Hb := Lib.hid hb; have Hc := Lib.hid hc; have He := Lib.hid he
  clear ha hb hc he
  go_enter Tryd.func31, Tryd.ntmps31
  go_wp2_with fail
  refine (Ha.out _).mono ?_; rintro r w1 ⟨rfl, rfl⟩
  go_wp2_with fail
  refine (Hb.out _).mono ?_; rintro r w1 ⟨rfl, rfl⟩
  go_wp2_with fail
  refine (Hc.out _).mono ?_; rintro r w1 ⟨rfl, rfl⟩
  go_wp2_with fail
  refine (He.out _).mono ?_; rintro r w1 ⟨rfl, rfl⟩
  go_wp2_with fail
  go_ret
  exact ⟨rfl, rfl⟩
set_option maxHeartbeats 1000000 in
theorem areOnScale_any (a b c e : Int) (w : World) : Calls Tryd.prog 59 #[.agg #[.int .i64 a, .int .i64 b, .int .i64 c, .int .i64 e]] w fun r w' => r = .returned (.bool (fourB a b c e)) ∧ Below w.heap.size w w' := by
  have ha := fun W => isDensity_any a W
  have hb := fun W => isDensity_any b W
  have hc := fun W => isDensity_any c W
  have he := fun W => isDensity_any e W
  unfold fourB
  generalize inB a 0 400 = A at *
  generalize inB b 0 400 = B at *
  generalize inB c 0 400 = C at *
  generalize inB e 0 400 = E at *
  rcases A with _ | _
  · have Ha := Lib.hid ha; have Hb := Lib.hid hb; have Hc := Lib.hid hc; have He := Lib.hid he
    clear ha hb hc he
    go_enter Tryd.func59, Tryd.ntmps59
    go_wp2_with fail
    refine (Ha.out _).mono ?_; rintro r w1 ⟨rfl, rfl⟩
    go_wp2_with fail
    go_ret
    exact ⟨rfl, by (repeat (first | exact Below.refl _ _ | assumption | apply Below.drew | apply below_drewL | (refine Below.alloc ?_ (by first | omega | (simp; done) | (simp; omega)) _) | (refine Below.setCell ?_ (by first | omega | (simp; done) | (simp; omega)) _)))⟩
  rcases B with _ | _
  · have Ha := Lib.hid ha; have Hb := Lib.hid hb; have Hc := Lib.hid hc; have He := Lib.hid he
    clear ha hb hc he
    go_enter Tryd.func59, Tryd.ntmps59
    go_wp2_with fail
    refine (Ha.out _).mono ?_; rintro r w1 ⟨rfl, rfl⟩
    go_wp2_with fail
    refine (Hb.out _).mono ?_; rintro r w1 ⟨rfl, rfl⟩
    go_wp2_with fail
    go_ret
    exact ⟨rfl, by (repeat (first | exact Below.refl _ _ | assumption | apply Below.drew | apply below_drewL | (refine Below.alloc ?_ (by first | omega | (simp; done) | (simp; omega)) _) | (refine Below.setCell ?_ (by first | omega | (simp; done) | (simp; omega)) _)))⟩
  rcases C with _ | _
  · have Ha := Lib.hid ha; have Hb := Lib.hid hb; have Hc := Lib.hid hc; have He := Lib.hid he
    clear ha hb hc he
    go_enter Tryd.func59, Tryd.ntmps59
    go_wp2_with fail
    refine (Ha.out _).mono ?_; rintro r w1 ⟨rfl, rfl⟩
    go_wp2_with fail
    refine (Hb.out _).mono ?_; rintro r w1 ⟨rfl, rfl⟩
    go_wp2_with fail
    refine (Hc.out _).mono ?_; rintro r w1 ⟨rfl, rfl⟩
    go_wp2_with fail
    go_ret
    exact ⟨rfl, by (repeat (first | exact Below.refl _ _ | assumption | apply Below.drew | apply below_drewL | (refine Below.alloc ?_ (by first | omega | (simp; done) | (simp; omega)) _) | (refine Below.setCell ?_ (by first | omega | (simp; done) | (simp; omega)) _)))⟩
  rcases E with _ | _
  · have Ha := Lib.hid ha; have Hb := Lib.hid hb; have Hc := Lib.hid hc; have He := Lib.hid he
    clear ha hb hc he
    go_enter Tryd.func59, Tryd.ntmps59
    go_wp2_with fail
    refine (Ha.out _).mono ?_; rintro r w1 ⟨rfl, rfl⟩
    go_wp2_with fail
    refine (Hb.out _).mono ?_; rintro r w1 ⟨rfl, rfl⟩
    go_wp2_with fail
    refine (Hc.out _).mono ?_; rintro r w1 ⟨rfl, rfl⟩
    go_wp2_with fail
    refine (He.out _).mono ?_; rintro r w1 ⟨rfl, rfl⟩
    go_wp2_with fail
    go_ret
    exact ⟨rfl, by (repeat (first | exact Below.refl _ _ | assumption | apply Below.drew | apply below_drewL | (refine Below.alloc ?_ (by first | omega | (simp; done) | (simp; omega)) _) | (refine Below.setCell ?_ (by first | omega | (simp; done) | (simp; omega)) _)))⟩
  have Ha := Lib.hid ha; have Hb := Lib.hid hb; have Hc := Lib.hid hc; have He := Lib.hid he
  clear ha hb hc he
  go_enter Tryd.func59, Tryd.ntmps59
  go_wp2_with fail
  refine (Ha.out _).mono ?_; rintro r w1 ⟨rfl, rfl⟩
  go_wp2_with fail
  refine (Hb.out _).mono ?_; rintro r w1 ⟨rfl, rfl⟩
  go_wp2_with fail
  refine (Hc.out _).mono ?_; rintro r w1 ⟨rfl, rfl⟩
  go_wp2_with fail
  refine (He.out _).mono ?_; rintro r w1 ⟨rfl, rfl⟩
  go_wp2_with fail
  go_ret
  exact ⟨rfl, by (repeat (first | exact Below.refl _ _ | assumption | apply Below.drew | apply below_drewL | (refine Below.alloc ?_ (by first | omega | (simp; done) | (simp; omega)) _) | (refine Below.setCell ?_ (by first | omega | (simp; done) | (simp; omega)) _)))⟩

section
variable (g n cap : Nat) (xs ys : Nat → Int) (a b c e : Int)
set_option maxRecDepth 100000 in
set_option maxHeartbeats 2000000 in
theorem specMisfitOf_any (hn : n ≤ 1048576) (hs : SmallP n xs ys) (w : World) (hr : PtRow w g n xs ys) :
    Calls Tryd.prog 9 #[.slice (some ⟨g, 0, none⟩) n cap, .int .i64 a, .int .i64 b, .int .i64 c, .int .i64 e] w fun r w' => r = .returned (.tuple #[.int .i64 (ifOk (misC n xs ys a b c e) (leaK (shdF n xs ys a) c : Nat)), .int .i64 (ifOk (misC n xs ys a b c e) (misV n xs ys a b c e)), .int .i64 (misC n xs ys a b c e)]) ∧ Below w.heap.size w w' := by
  have hlt := hr.lt
  have hk := fun W hW => l02Ok_any g n cap xs ys hn hs W hW
  rcases h : validC n xs ys with _ | _
  · rw [mis_1 h, ifOk_1, ifOk_1]
    rw [h] at hk
    have Hk := Lib.hid hk; clear hk h
    go_enter Tryd.func9, Tryd.ntmps9
    go_wp2_with fail
    refine (Hk.out _ hr).mono ?_; rintro r w1 ⟨rfl, hb1⟩
    go_wp2_with fail
    go_ret3
    exact ⟨rfl, hb1⟩
  rw [h] at hk
  have Hk := Lib.hid hk; clear hk
  have hp := fun W => l05Four_any a b c e W
  rcases h3 : fourB a b c e with _ | _
  · rw [mis_2 h h3, ifOk_2, ifOk_2]
    rw [h3] at hp
    have Hp := Lib.hid hp; clear hp h h3
    go_enter Tryd.func9, Tryd.ntmps9
    go_wp2_with fail
    refine (Hk.out _ hr).mono ?_; rintro r w1 ⟨rfl, hb1⟩
    go_wp2_with fail
    refine (Hp.out _).mono ?_; rintro r w3 ⟨rfl, rfl⟩
    go_wp2_with fail
    go_ret3
    exact ⟨rfl, hb1⟩
  rw [mis_0 h h3]
  unfold misV
  rw [h3] at hp
  obtain ⟨ba, bb, bc, be⟩ := fourB_true h3
  have Hp := Lib.hid hp; clear hp
  have hc := (validC_crv h).1
  have hle := fun W hW => l05Least_any g n cap xs ys a c hn hc ba.1 ba.2 W hW
  have hdk := fun (x : Int) h0 h1 W hW => l05Dark_any g n cap xs ys b x hn hc bb.1 bb.2 h0 h1 W hW
  have hDb := fun k => shdF_bd hc b k
  have eD : ∀ k : Nat, darkV n xs ys b (k : Int) = shdF n xs ys b k := fun _ => rfl
  have hor := leaB_or (shdF n xs ys a) c
  have h37 := leaK_le (shdF n xs ys a) c
  generalize leaC (shdF n xs ys a) c = C at *
  generalize leaR (shdF n xs ys a) c = R at *
  generalize leaK (shdF n xs ys a) c = K at *
  have hdk := hdk K (by omega) (by omega)
  have hDb := hDb K
  rw [eD] at hdk
  generalize shdF n xs ys b K = D at *
  have Hdk := Lib.hid hdk; clear hdk
  have Hle := Lib.hid hle; clear hle h h3 hc eD
  rcases hor with ⟨rfl, rfl⟩ | ⟨rfl, rfl, hK⟩
  · rw [ifOk_6, ifOk_6]
    go_enter Tryd.func9, Tryd.ntmps9
    go_wp2_with fail
    refine (Hk.out _ hr).mono ?_; rintro r w1 ⟨rfl, hb1⟩
    go_wp2_with fail
    refine (Hp.out _).mono ?_; rintro r w3 ⟨rfl, rfl⟩
    go_wp2_with fail
    refine (Hle.out _ (hr.below hb1 hlt)).mono ?_; rintro r w4 ⟨rfl, hb4⟩
    go_wp2_with fail
    go_ret3
    exact ⟨rfl, hb1.trans (hb4.mono hb1.size)⟩
  · rw [ifOk_0, ifOk_0]
    have hK2 : decide ((K : Int) < 0) = false := decide_eq_false (by omega)
    go_enter Tryd.func9, Tryd.ntmps9
    go_wp2_with fail
    refine (Hk.out _ hr).mono ?_; rintro r w1 ⟨rfl, hb1⟩
    go_wp2_with fail
    refine (Hp.out _).mono ?_; rintro r w3 ⟨rfl, rfl⟩
    go_wp2_with fail
    refine (Hle.out _ (hr.below hb1 hlt)).mono ?_; rintro r w4 ⟨rfl, hb4⟩
    have k4 := hb1.trans (hb4.mono hb1.size)
    go_wp2_with fail
    refine (Hdk.out _ (hr.below k4 hlt)).mono ?_; rintro r w5 ⟨rfl, hb5⟩
    go_wp2_with fail
    go_ret3
    exact ⟨rfl, k4.trans (hb5.mono k4.size)⟩

set_option maxRecDepth 100000 in
set_option maxHeartbeats 4000000 in
theorem fitOf_any (s : Ers) (hn : n ≤ 1048576) (hcv : Crv n xs ys) (hab : fourB a b c e = true) (w : World) (hr : PtRow w g n xs ys) (hE : ErrEnv s w) :
    Calls Tryd.prog 60 #[.agg #[.int .i64 a, .int .i64 b, .int .i64 c, .int .i64 e], .slice (some ⟨g, 0, none⟩) n cap] w (CodedX s (.agg #[.int .i64 (ifOk (leaC (shdF n xs ys a) c) (leaK (shdF n xs ys a) c : Nat)), .int .i64 (ifOk (leaC (shdF n xs ys a) c) (misV n xs ys a b c e))]) (leaC (shdF n xs ys a) c) w.heap.size w) := by
  have hlt := hr.lt
  obtain ⟨ba, bb, bc, be⟩ := fourB_true hab
  unfold misV
  have k0 : Below w.heap.size w ((w.alloc (.cells #[.int .i64 a, .int .i64 b, .int .i64 c, .int .i64 e] 72)).alloc (.cells #[.int .i64 0, .int .i64 0] 66)) := ((Below.refl _ _).alloc (Nat.le_refl _) _).alloc (by simp) _
  have A0 := (FourAt.new w 72 a b c e).below ((Below.refl (w.heap.size + 1) _).alloc (by simp) (.cells #[.int .i64 0, .int .i64 0] 66)) (by omega)
  have P0 := PairAt.new (w.alloc (.cells #[.int .i64 a, .int .i64 b, .int .i64 c, .int .i64 e] 72)) 66 0 0
  rw [show (w.alloc (.cells #[.int .i64 a, .int .i64 b, .int .i64 c, .int .i64 e] 72)).heap.size = w.heap.size + 1 by simp] at P0
  have hz : ((w.alloc (.cells #[.int .i64 a, .int .i64 b, .int .i64 c, .int .i64 e] 72)).alloc (.cells #[.int .i64 0, .int .i64 0] 66)).heap.size = w.heap.size + 1 + 1 := by simp
  have hsb := fun g2 W h1 h2 => shadesBehind_any g n cap xs ys hn hcv g2 2 2 (twoS a b) (by omega) (fun j _ => by unfold twoS; split <;> omega) W h1 h2
  have hDb := fun k => shdF_bd hcv b k
  generalize shdF n xs ys = F at *
  have hle := fun W hE => leastLight_v s (F a) c W hE
  have hor := leaC_or (F a) c
  have hC0 : leaC (F a) c = 0 → leaK (F a) c < 37 := fun h => by
    rcases Nat.lt_or_ge (leaK (F a) c) 37 with h2 | h2
    · exact h2
    · have h3 := leaK_le (F a) c
      rw [leaC_6 (show leaK (F a) c = 37 by omega)] at h
      omega
  generalize leaC (F a) c = C at *
  generalize leaK (F a) c = K at *
  have hDb := hDb K
  have hat := fun (hK : K < 37) W => shAt_any (F b) K hK W
  generalize hD : F b K = D at *
  clear hD
  have Hsb := Lib.hid hsb; clear hsb
  have Hat := Lib.hid hat; clear hat
  have R0 := twoS_row ((w.alloc (.cells #[.int .i64 a, .int .i64 b, .int .i64 c, .int .i64 e] 72)).alloc (.cells #[.int .i64 0, .int .i64 0] 66)) a b
  have kq := (Below.refl _ ((w.alloc (.cells #[.int .i64 a, .int .i64 b, .int .i64 c, .int .i64 e] 72)).alloc (.cells #[.int .i64 0, .int .i64 0] 66))).alloc (Nat.le_refl _) (.cells #[.int .i64 a, .int .i64 b] 2)
  have k1 := k0.trans (kq.mono k0.size)
  have A1 := A0.below kq A0.lt
  have P1 := P0.below kq P0.lt
  have r1 := hr.below k1 hlt
  rw [hz] at R0
  clear A0 P0 k0 kq
  go_enter Tryd.func60, Tryd.ntmps60
  go_wp2_with fail
  generalize ((w.alloc (.cells #[.int .i64 a, .int .i64 b, .int .i64 c, .int .i64 e] 72)).alloc (.cells #[.int .i64 0, .int .i64 0] 66)).alloc (.cells #[.int .i64 a, .int .i64 b] 2) = W at *
  refine (Hsb.out _ _ r1 R0).mono ?_; rintro r w3 ⟨m, rfl, hm, hM, hb3⟩
  have k3 := k1.trans (hb3.mono k1.size)
  have A3 := A1.below hb3 A1.lt
  have P3 := P1.below hb3 P1.lt
  clear A1 P1 R0 k1 r1 hb3
  have hE3 := hE.below k3 (Nat.le_refl _)
  have Hle := Lib.hid (hle w3 hE3)
  clear hle
  rcases hor with rfl | rfl
  rotate_left
  · rw [ifOk_6, ifOk_6, errN_6] at *
    obtain ⟨a0, a1, a2, a3⟩ := A3
    go_wp2_with (refine wpList_lookup_sh (k := a) hM ⟨0, by omega, rfl⟩ (by omega) (by omega) rfl _ _ rfl rfl rfl ?_)
    refine Hle.out.mono ?_; rintro r w4 ⟨rfl, hb4⟩
    have k4 := k3.trans (hb4.mono k3.size)
    have P4 := P3.below hb4 P3.lt
    clear hM a0 a1 a2 a3 P3 hb4
    have hlt4 := P4.lt
    obtain ⟨r0, r1, fz⟩ := P4
    have z0 := fz 0; have z1 := fz 1
    go_wp2_with fail
    exact bodyPost_ret (v := .tuple #[.agg #[.int .i64 0, .int .i64 0], errV s.enotfound]) (by simp [results, Tryd.results60, go_sem, r0, r1]) rfl ⟨_, .enotfound, rfl, by (repeat (first | exact Below.refl _ _ | assumption | apply Below.drew | apply below_drewL | (refine Below.alloc ?_ (by first | omega | (simp; done) | (simp; omega)) _) | (refine Below.setCell ?_ (by first | omega | (simp; done) | (simp; omega)) _)))⟩
  rw [ifOk_0, ifOk_0]
  rw [errN_0, ifOk_0] at Hle
  have Hat := Lib.hid (Hat.out (hC0 rfl))
  obtain ⟨a0, a1, a2, a3⟩ := A3
  go_wp2_with (refine wpList_lookup_sh (k := a) hM ⟨0, by omega, rfl⟩ (by omega) (by omega) rfl _ _ rfl rfl rfl ?_)
  refine Hle.out.mono ?_; rintro r w4 ⟨rfl, hb4⟩
  have k4 := k3.trans (hb4.mono k3.size)
  have P4 := P3.below hb4 P3.lt
  have A4 := FourAt.below ⟨a0, a1, a2, a3⟩ hb4 (World.block_lt_of_cell? w3 _ a0)
  have M4 := hM.below hb4 hM.lt
  clear hM a0 a1 a2 a3 P3 hb4 k3 hE3
  go_wp2_with fail
  refine wp_region_quiet_tail 11 (fun w' => ∃ x : WIn (Below w4.heap.size w4), w' = x.w) (by kernel_rfl) (by kernel_rfl) ⟨⟨_, below_drew1 _⟩, rfl⟩ ?_
  simp only [List.take_succ_cons, List.take_zero, List.drop_succ_cons, List.drop_zero]
  have n0 := below_nonempty w4
  have hM5 : ∀ W, (∃ x : WIn (Below w4.heap.size w4), W = x.w) → ShMap W m 2 F (fun x => ∃ j, j < 2 ∧ x = twoS a b j) := fun W hW => by
    obtain ⟨x, rfl⟩ := hW
    exact M4.below x.ok M4.lt
  obtain ⟨a0, a1, a2, a3⟩ := A4
  have f1 := inCell a1
  have f3 := inCell a3
  quiet_step (fail)
  quiet_step (fail)
  quiet_step (fail)
  quiet_step (fail)
  refine wpQuiet_lookup_sh (k := b) hM5 ⟨1, by omega, rfl⟩ (by omega) (by omega) rfl _ _ rfl rfl rfl ?_
  quiet_step (fail)
  quiet_step ((go_at_call 66; exact inCall _ (Hat.out _)))
  quiet_step (fail)
  quiet_step (fail)
  quiet_step (fail)
  quiet_step (fail)
  refine wpQuiet_nil ?_
  rintro _ ⟨y, rfl⟩
  have P5 := P4.below y.ok P4.lt
  have k5 := k4.trans (y.ok.mono k4.size)
  have hlt5 := P5.lt
  obtain ⟨r0, r1, fz⟩ := P5
  have z0 := fz 0; have z1 := fz 1
  clear fz f1 f3 n0 a0 a1 a2 a3 P4 hM5 M4
  go_wp2
  exact bodyPost_ret (v := .tuple #[.agg #[.int .i64 (K : Int), .int .i64 (D - e)], .nilIface]) (by simp [results, Tryd.results60, go_sem, r0, r1]) rfl ⟨_, .ok, rfl, by (repeat (first | exact Below.refl _ _ | assumption | apply Below.drew | apply below_drewL | (refine Below.alloc ?_ (by first | omega | (simp; done) | (simp; omega)) _) | (refine Below.setCell ?_ (by first | omega | (simp; done) | (simp; omega)) _)))⟩
end
end Go.Proofs.YtkeigoighebjpaaDoor


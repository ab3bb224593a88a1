/-
  Prints: the density of a paper below a film, with its code: what the program's and the reference's functions return, for every two lists of at most 1048576 points. Condition of the program's: its variables hold their own errors.
-/
import Derived.Test.YtnlcjbobfhmnmabGreatDoorCurA
namespace Go.Proofs.YtnlcjbobfhmnmabGreatDoor
open Go.RowKit

/-- What a density holds back; the density of a print. -/
def heldH (d : Int) : Int := (d + 5) / 10
def prnV (n : Nat) (xs ys : Nat → Int) (m : Nat) (us vs : Nat → Int) (x light : Int) : Int := dens m us vs (light - heldH (dens n xs ys x))
theorem heldH_bd {d : Int} (h : 0 ≤ d) (h' : d ≤ 400) : 0 ≤ heldH d ∧ heldH d ≤ 40 := by unfold heldH; omega
/-- The code of two curves and two places. -/
def bthC (n : Nat) (xs ys : Nat → Int) (m : Nat) (us vs : Nat → Int) (x light : Int) : Int := if (validC n xs ys && validC m us vs) = true then (if (inB x (-200) 200 && inB light (-200) 200) = true then 0 else 2) else 1
theorem bth_1 {n : Nat} {xs ys : Nat → Int} {m : Nat} {us vs : Nat → Int} {x light : Int} (h : validC n xs ys = false) : bthC n xs ys m us vs x light = 1 := by simp [bthC, h]
theorem bth_2 {n : Nat} {xs ys : Nat → Int} {m : Nat} {us vs : Nat → Int} {x light : Int} (h : validC m us vs = false) : bthC n xs ys m us vs x light = 1 := by simp [bthC, h]
theorem bth_3 {n : Nat} {xs ys : Nat → Int} {m : Nat} {us vs : Nat → Int} {x light : Int} (h : validC n xs ys = true) (h2 : validC m us vs = true) (h3 : inB x (-200) 200 = false) : bthC n xs ys m us vs x light = 2 := by simp [bthC, h, h2, h3]
theorem bth_4 {n : Nat} {xs ys : Nat → Int} {m : Nat} {us vs : Nat → Int} {x light : Int} (h : validC n xs ys = true) (h2 : validC m us vs = true) (h3 : inB light (-200) 200 = false) : bthC n xs ys m us vs x light = 2 := by simp [bthC, h, h2, h3]
theorem bth_0 {n : Nat} {xs ys : Nat → Int} {m : Nat} {us vs : Nat → Int} {x light : Int} (h : validC n xs ys = true) (h2 : validC m us vs = true) (h3 : inB x (-200) 200 = true) (h4 : inB light (-200) 200 = true) : bthC n xs ys m us vs x light = 0 := by simp [bthC, h, h2, h3, h4]

/-! ### THE PROGRAM'S -/
theorem heldBack_any (d : Int) (h : 0 ≤ d) (h' : d ≤ 400) (w : World) : Calls Tryz.prog 110 #[.int .i64 d] w fun e w' => e = .returned (.int .i64 (heldH d)) ∧ w = w' := by
  go_enter Tryz.func110, Tryz.ntmps110
  go_wp2
  go_ret
  exact ⟨rfl, rfl⟩

/-- A paper below a film as a function value: the blocks that it holds. -/
def Papered (p q : Nat) (P : Value) (H : Int) (w : World) : Prop := w.cell? ⟨p, 0, none⟩ = some P ∧ w.cell? ⟨q, 0, none⟩ = some (.int .i64 H)
theorem Papered.below {p q : Nat} {P : Value} {H : Int} {w w' : World} {B : Nat} (h : Papered p q P H w) (hb : Below B w w') (hB : w.heap.size ≤ B) : Papered p q P H w' := ⟨below_cellOf hb h.1 hB, below_cellOf hb h.2 hB⟩
def MadePaper (P : Value) (H : Int) (w : World) (e : Ending) (w' : World) : Prop := ∃ p q, e = .returned (.func (.func 111) #[] #[.pointer (some ⟨p, 0, none⟩), .pointer (some ⟨q, 0, none⟩)]) ∧ Papered p q P H w' ∧ Below w.heap.size w w'

set_option maxHeartbeats 1000000 in
theorem printBehindP_any (b' m cap' : Nat) (d : Int) (h : 0 ≤ d) (h' : d ≤ 400) (w : World) :
    Calls Tryz.prog 90 #[.int .i64 d, .slice (some ⟨b', 0, none⟩) m cap'] w (MadePaper (.slice (some ⟨b', 0, none⟩) m cap') (heldH d) w) := by
  have hh := fun W => heldBack_any d h h' W
  generalize heldH d = H at hh ⊢
  have Hh := Lib.hid hh; clear hh
  have k0 : Below w.heap.size w (w.alloc (.cells #[.slice (some ⟨b', 0, none⟩) m cap'] 29)) := (Below.refl _ _).alloc (Nat.le_refl _) _
  have c1 : (w.alloc (.cells #[.slice (some ⟨b', 0, none⟩) m cap'] 29)).cell? ⟨w.heap.size, 0, none⟩ = some (.slice (some ⟨b', 0, none⟩) m cap') := by simp
  go_enter Tryz.func90, Tryz.ntmps90
  go_wp2_with fail
  refine (Hh.out _).mono ?_; rintro e w2 ⟨rfl, rfl⟩
  go_wp2_with fail
  go_ret
  refine ⟨w.heap.size, _, rfl, ⟨?_, by simp⟩, k0.alloc k0.size _⟩
  exact below_cellOf ((Below.refl _ _).alloc (Nat.le_refl _) _) c1 (Nat.le_refl _)

set_option maxHeartbeats 1000000 in
theorem printOn1_any (p q b' m cap' : Nat) (us vs : Nat → Int) (H light : Int) (hm : m ≤ 1048576) (c' : Crv m us vs) (h0 : 0 ≤ H) (h1 : H ≤ 40) (hl : -1000 ≤ light) (hl' : light ≤ 1000) (w : World) (hr' : PtRow w b' m us vs) (hp : Papered p q (.slice (some ⟨b', 0, none⟩) m cap') H w) :
    Calls Tryz.prog 111 #[.int .i64 light, .pointer (some ⟨p, 0, none⟩), .pointer (some ⟨q, 0, none⟩)] w fun e w' => e = .returned (.int .i64 (dens m us vs (light - H))) ∧ Below w.heap.size w w' := by
  have hv := at_any b' m cap' us vs hm c' (light - H) (by omega) (by omega)
  generalize dens m us vs (light - H) = V at *
  have Hv := Lib.hid hv; clear hv
  obtain ⟨c0, c1⟩ := hp
  go_enter Tryz.func111, Tryz.ntmps111
  go_wp2_with fail
  refine (Hv.out _ hr').mono ?_; rintro e w1 ⟨rfl, hb1⟩
  go_wp2_with fail
  go_ret
  exact ⟨rfl, hb1⟩

end Go.Proofs.YtnlcjbobfhmnmabGreatDoor


namespace Go.Proofs.YtnlcjbobfhmnmabGreatDoor
open Go.RowKit

/-- The density of a paper behind a density of a negative, with a light. -/
def darkV (n : Nat) (xs ys : Nat → Int) (d x : Int) : Int := dens n xs ys (x - heldH d)
theorem darkV_bd {n : Nat} {xs ys : Nat → Int} (c : Crv n xs ys) (d x : Int) : 0 ≤ darkV n xs ys d x ∧ darkV n xs ys d x ≤ 400 := dens_400 c _
theorem darkV_mono {n : Nat} {xs ys : Nat → Int} (c : Crv n xs ys) (d : Int) {x x' : Int} (h : x ≤ x') : darkV n xs ys d x ≤ darkV n xs ys d x' := dens_mono c (by omega)
theorem darkV_0 (n : Nat) (xs ys : Nat → Int) (x : Int) : darkV n xs ys 0 x = dens n xs ys x := by
  have : heldH 0 = 0 := by decide
  unfold darkV; rw [this, Int.sub_zero]

set_option maxHeartbeats 1000000 in
theorem l03Held_any (d : Int) (h : 0 ≤ d) (h' : d ≤ 400) (w : World) : Calls Tryz.prog 93 #[.int .i16 d] w fun e w' => e = .returned (.int .i64 (heldH d)) ∧ w = w' := by
  go_enter Tryz.func93, Tryz.ntmps93
  go_wp2
  go_ret
  exact ⟨rfl, rfl⟩

set_option maxHeartbeats 1000000 in
theorem l05Dark_any (b n cap : Nat) (xs ys : Nat → Int) (d x : Int) (hn : n ≤ 1048576) (c : Crv n xs ys) (h : 0 ≤ d) (h' : d ≤ 400) (hx : -1000 ≤ x) (hx' : x ≤ 1000) (w : World) (hr : PtRow w b n xs ys) :
    Calls Tryz.prog 74 #[.slice (some ⟨b, 0, none⟩) n cap, .int .i64 d, .int .i64 x] w fun e w' => e = .returned (.int .i64 (darkV n xs ys d x)) ∧ Below w.heap.size w w' := by
  have hh := heldH_bd h h'
  have hl := fun W => l03Held_any d h h' W
  have hv := l02At_any b n cap xs ys hn c (x - heldH d) (by omega) (by omega)
  unfold darkV
  generalize dens n xs ys (x - heldH d) = V at *
  generalize heldH d = H at *
  have Hl := Lib.hid hl; clear hl
  have Hv := Lib.hid hv; clear hv
  have i1 : IntKind.i16.wrap d = d := IntWalk.i16_in _ (by omega)
  have i2 : IntKind.i64.wrap (x - H) = x - H := IntWalk.i64_in _ (by omega)
  go_enter Tryz.func74, Tryz.ntmps74
  go_wp2_with fail
  refine (Hl.out _).mono ?_; rintro e w1 ⟨rfl, rfl⟩
  go_wp2_with fail
  refine (Hv.out _ hr).mono ?_; rintro e w2 ⟨rfl, hb2⟩
  go_wp2_with fail
  go_ret
  exact ⟨rfl, hb2⟩

/-- What a paper behind a density holds. -/
def PaperB (p q : Nat) (P : Value) (H : Int) (w : World) : Prop := w.cell? ⟨p, 0, none⟩ = some P ∧ w.cell? ⟨q, 0, none⟩ = some (.int .i64 H)
theorem PaperB.below {p q : Nat} {P : Value} {H : Int} {w w' : World} {B : Nat} (h : PaperB p q P H w) (hb : Below B w w') (hB : w.heap.size ≤ B) : PaperB p q P H w' := ⟨below_cellOf hb h.1 hB, below_cellOf hb h.2 hB⟩

set_option maxHeartbeats 1000000 in
theorem printBehind_any (b' m cap' : Nat) (d : Int) (h : 0 ≤ d) (h' : d ≤ 400) (w : World) :
    Calls Tryz.prog 90 #[.int .i64 d, .slice (some ⟨b', 0, none⟩) m cap'] w fun e w' => ∃ p q, e = .returned (.func (.func 111) #[] #[.pointer (some ⟨p, 0, none⟩), .pointer (some ⟨q, 0, none⟩)]) ∧ PaperB p q (.slice (some ⟨b', 0, none⟩) m cap') (heldH d) w' ∧ Below w.heap.size w w' := by
  have hh := fun W => heldBack_any d h h' W
  generalize heldH d = H at hh ⊢
  have Hh := Lib.hid hh; clear hh
  have k0 : Below w.heap.size w (w.alloc (.cells #[.slice (some ⟨b', 0, none⟩) m cap'] 29)) := (Below.refl _ _).alloc (Nat.le_refl _) _
  have c1 : (w.alloc (.cells #[.slice (some ⟨b', 0, none⟩) m cap'] 29)).cell? ⟨w.heap.size, 0, none⟩ = some (.slice (some ⟨b', 0, none⟩) m cap') := by simp
  go_enter Tryz.func90, Tryz.ntmps90
  go_wp2_with fail
  refine (Hh.out _).mono ?_; rintro e w2 ⟨rfl, rfl⟩
  go_wp2_with fail
  go_ret
  refine ⟨w.heap.size, _, rfl, ⟨?_, by simp⟩, k0.alloc k0.size _⟩
  exact below_cellOf ((Below.refl _ _).alloc (Nat.le_refl _) _) c1 (Nat.le_refl _)

set_option maxHeartbeats 1000000 in
theorem printBehind1_any (p q b' m cap' : Nat) (us vs : Nat → Int) (H x : Int) (hm : m ≤ 1048576) (c' : Crv m us vs) (h0 : 0 ≤ H) (h1 : H ≤ 40) (hl : -1000 ≤ x) (hl' : x ≤ 1000) (w : World) (hr' : PtRow w b' m us vs) (hp : PaperB p q (.slice (some ⟨b', 0, none⟩) m cap') H w) :
    Calls Tryz.prog 111 #[.int .i64 x, .pointer (some ⟨p, 0, none⟩), .pointer (some ⟨q, 0, none⟩)] w fun e w' => e = .returned (.int .i64 (dens m us vs (x - H))) ∧ Below w.heap.size w w' := by
  have hv := at_any b' m cap' us vs hm c' (x - H) (by omega) (by omega)
  generalize dens m us vs (x - H) = V at *
  have Hv := Lib.hid hv; clear hv
  obtain ⟨c0, c1⟩ := hp
  go_enter Tryz.func111, Tryz.ntmps111
  go_wp2_with fail
  refine (Hv.out _ hr').mono ?_; rintro e w1 ⟨rfl, hb1⟩
  go_wp2_with fail
  go_ret
  exact ⟨rfl, hb1⟩
end Go.Proofs.YtnlcjbobfhmnmabGreatDoor

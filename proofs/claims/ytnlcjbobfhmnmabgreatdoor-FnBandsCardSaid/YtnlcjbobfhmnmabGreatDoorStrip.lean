/-
  Strips: whether one is valid, and the light of a band, by the program and by the reference. No condition.
-/
import Derived.Test.YtnlcjbobfhmnmabGreatDoorBase
namespace Go.Proofs.YtnlcjbobfhmnmabGreatDoor
open Go.RowKit

/-- A strip as a value. -/
abbrev stV (a b c : Int) : Value := .agg #[.int .i8 a, .int .i8 b, .int .i8 c]
/-- Is it valid? -/
def okT (a b c : Int) : Bool := inB a 0 36 && inB b 1 9 && inB c 1 20 && inB (a + b * (c - 1)) 0 36
/-- The numbers of a valid strip. -/
structure StOk (a b c : Int) : Prop where
  a0 : 0 ≤ a
  a1 : a ≤ 36
  b0 : 1 ≤ b
  b1 : b ≤ 9
  c0 : 1 ≤ c
  c1 : c ≤ 20
  l1 : a + b * (c - 1) ≤ 36
theorem okT_ok {a b c : Int} (h : okT a b c = true) : StOk a b c := by
  simp only [okT, Bool.and_eq_true, inB_true] at h
  obtain ⟨⟨⟨⟨h1, h2⟩, h3, h4⟩, h5, h6⟩, h7, h8⟩ := h
  exact ⟨h1, h2, h3, h4, h5, h6, h8⟩
theorem StOk.light {a b c : Int} (h : StOk a b c) {k : Int} (h0 : 0 ≤ k) (hk : k < c) : 0 ≤ a + b * k ∧ a + b * k ≤ 36 := by
  have h1 := h.a0
  have h2 := h.l1
  have h3 : b * k ≤ b * (c - 1) := Int.mul_le_mul_of_nonneg_left (by omega) (by have := h.b0; omega)
  have h4 : 0 ≤ b * k := Int.mul_nonneg (by have := h.b0; omega) h0
  omega
theorem mulT_bd {a b : Int} (ha : -128 ≤ a) (ha' : a ≤ 128) (hb : -1000 ≤ b) (hb' : b ≤ 1000) : -128000 ≤ a * b ∧ a * b ≤ 128000 := by
  rcases Int.lt_or_le a 0 with h | h
  · have h1 : -a * b ≤ -a * 1000 := Int.mul_le_mul_of_nonneg_left hb' (by omega)
    have h2 : -a * (-1000) ≤ -a * b := Int.mul_le_mul_of_nonneg_left hb (by omega)
    rw [Int.neg_mul a b] at h1 h2
    omega
  · have h1 : a * b ≤ a * 1000 := Int.mul_le_mul_of_nonneg_left hb' h
    have h2 : a * (-1000) ≤ a * b := Int.mul_le_mul_of_nonneg_left hb h
    omega

theorem thirdsT_any (x : Int) (w : World) : Calls Tryz.prog 66 #[.int .i64 x] w fun e w' => e = .returned (.bool (inB x 0 36)) ∧ w = w' := by
  go_enter Tryz.func66, Tryz.ntmps66
  go_wp2_with fail
  refine (l00In_any _ _ _ _).mono ?_; rintro e w1 ⟨rfl, rfl⟩
  go_wp2_with fail
  go_ret
  exact ⟨rfl, rfl⟩

theorem isLightT_any (x : Int) (w : World) : Calls Tryz.prog 42 #[.int .i64 x] w fun e w' => e = .returned (.bool (inB x 0 36)) ∧ w = w' := by
  go_enter Tryz.func42, Tryz.ntmps42
  go_wp2_with fail
  refine (inRange_any _ _ _ _).mono ?_; rintro e w1 ⟨rfl, rfl⟩
  go_wp2_with fail
  go_ret
  exact ⟨rfl, rfl⟩

set_option maxHeartbeats 1000000 in
theorem stLight_any (a b c k : Int) (ha : -128 ≤ a) (ha' : a ≤ 127) (hb : -128 ≤ b) (hb' : b ≤ 127) (hk : -1000 ≤ k) (hk' : k ≤ 1000) (w : World) :
    Calls Tryz.prog 44 #[stV a b c, .int .i64 k] w fun x w' => x = .returned (.int .i64 (a + b * k)) ∧ Below w.heap.size w w' := by
  have hP := mulT_bd (a := b) (b := k) hb (by omega) hk hk'
  generalize hPe : b * k = P at *
  have i2 : IntKind.i64.wrap P = P := IntWalk.i64_in _ (by omega)
  have i3 : IntKind.i64.wrap (a + P) = a + P := IntWalk.i64_in _ (by omega)
  go_enter Tryz.func44, Tryz.ntmps44
  go_wp2
  go_ret
  exact ⟨rfl, (Below.refl _ _).alloc (Nat.le_refl _) _⟩

set_option maxHeartbeats 1000000 in
theorem l05Ok_any (a b c : Int) (ha : -128 ≤ a) (ha' : a ≤ 127) (hb : -128 ≤ b) (hb' : b ≤ 127) (hc : -128 ≤ c) (hc' : c ≤ 127) (w : World) :
    Calls Tryz.prog 38 #[stV a b c] w fun x w' => x = .returned (.bool (okT a b c)) ∧ Below w.heap.size w w' := by
  have hP := mulT_bd (a := b) (b := c - 1) hb (by omega) (by omega) (by omega)
  unfold okT
  generalize hPe : b * (c - 1) = P at *
  have i1 : IntKind.i64.wrap (c - 1) = c - 1 := IntWalk.i64_in _ (by omega)
  have i2 : IntKind.i64.wrap P = P := IntWalk.i64_in _ (by omega)
  have i3 : IntKind.i64.wrap (a + P) = a + P := IntWalk.i64_in _ (by omega)
  rcases h1 : inB a 0 36 with _ | _
  rotate_left
  rcases h2 : inB b 1 9 with _ | _
  rotate_left
  rcases h3 : inB c 1 20 with _ | _
  rotate_left
  rcases h4 : inB (a + P) 0 36 with _ | _
  all_goals
    go_enter Tryz.func38, Tryz.ntmps38
    go_wp2_with (first | (go_at_call 66; refine (thirdsT_any _ _).mono ?_; rintro x w' ⟨rfl, rfl⟩) | (go_at_call 57; refine (l00In_any _ _ _ _).mono ?_; rintro x w' ⟨rfl, rfl⟩))
    go_ret
    exact ⟨by simp [*], (Below.refl _ _).alloc (Nat.le_refl _) _⟩

set_option maxHeartbeats 2000000 in
theorem ValidStrip_any (a b c : Int) (ha : -128 ≤ a) (ha' : a ≤ 127) (hb : -128 ≤ b) (hb' : b ≤ 127) (hc : -128 ≤ c) (hc' : c ≤ 127) (w : World) :
    Calls Tryz.prog 17 #[stV a b c] w fun x w' => x = .returned (.bool (okT a b c)) ∧ Below w.heap.size w w' := by
  have hl := fun W => stLight_any a b c (c - 1) ha ha' hb hb' (by omega) (by omega) W
  unfold okT
  generalize a + b * (c - 1) = L at *
  have Hl := Lib.hid hl; clear hl
  have i1 : IntKind.i64.wrap (c - 1) = c - 1 := IntWalk.i64_in _ (by omega)
  rcases h1 : inB a 0 36 with _ | _
  rotate_left
  rcases h2 : inB b 1 9 with _ | _
  rotate_left
  rcases h3 : inB c 1 20 with _ | _
  rotate_left
  rcases h4 : inB L 0 36 with _ | _
  all_goals
    go_enter Tryz.func17, Tryz.ntmps17
    go_wp2_with (first | (go_at_call 42; refine (isLightT_any _ _).mono ?_; rintro x w' ⟨rfl, rfl⟩) | (go_at_call 43; refine (inRange_any _ _ _ _).mono ?_; rintro x w' ⟨rfl, rfl⟩) | (go_at_call 44; refine (Hl.out _).mono ?_; rintro x w1 ⟨rfl, hb1⟩))
    go_ret
    first
    | exact ⟨by simp [*], ((Below.refl _ _).alloc (Nat.le_refl _) _).trans (hb1.mono (by simp))⟩
    | exact ⟨by simp [*], (Below.refl _ _).alloc (Nat.le_refl _) _⟩

/-- A block that holds a strip. -/
structure StAt (w : World) (g : Nat) (a b c : Int) : Prop where
  c0 : w.cell? ⟨g, 0, none⟩ = some (.int .i8 a)
  c1 : w.cell? ⟨g, 1, none⟩ = some (.int .i8 b)
  c2 : w.cell? ⟨g, 2, none⟩ = some (.int .i8 c)
section
variable {w w' : World} {g : Nat} {a b c : Int}
theorem StAt.lt (h : StAt w g a b c) : g < w.heap.size := World.block_lt_of_cell? w _ h.c0
theorem StAt.below {B : Nat} (h : StAt w g a b c) (hb : Below B w w') (hB : g < B) : StAt w' g a b c :=
  ⟨(hb.cell (p := ⟨g, 0, none⟩) hB).trans h.c0, (hb.cell (p := ⟨g, 1, none⟩) hB).trans h.c1, (hb.cell (p := ⟨g, 2, none⟩) hB).trans h.c2⟩
theorem StAt.new (w : World) (t : TypeId) (a b c : Int) : StAt (w.alloc (.cells #[.int .i8 a, .int .i8 b, .int .i8 c] t)) w.heap.size a b c :=
  ⟨by simp, by simp, by simp⟩
theorem StAt.alloc (h : StAt w g a b c) (o : Obj) : StAt (w.alloc o) g a b c := h.below (B := w.heap.size) ((Below.refl _ _).alloc (Nat.le_refl _) o) h.lt
theorem StAt.far {row : Option Nat} (h : StAt w g a b c) (hg : w.grownBy w' row) (hne : some g ≠ row) : StAt w' g a b c :=
  have e : ∀ o, w'.cell? ⟨g, o, none⟩ = w.cell? ⟨g, o, none⟩ := fun o => World.cell?_of_block (hg.block g h.lt hne)
  ⟨(e 0).trans h.c0, (e 1).trans h.c1, (e 2).trans h.c2⟩
end
end Go.Proofs.YtnlcjbobfhmnmabGreatDoor

/-
  Whether a list of points is a curve, by the reference: for every list of at most 1048576 points. No other condition.
-/
import Derived.Test.YtnlcjbobfhmnmabGreatDoorPlainCurves
import Derived.Test.YtnlcjbobfhmnmabGreatDoorCvX
import Derived.Test.YtnlcjbobfhmnmabGreatDoorQX
namespace Go.Proofs.YtnlcjbobfhmnmabGreatDoor
open Go.RowKit

theorem l02Place_any (x : Int) (w : World) : Calls Tryz.prog 113 #[.int .i64 x] w fun e w' => e = .returned (.bool (inB x (-200) 200)) ∧ w = w' := by
  go_enter Tryz.func113, Tryz.ntmps113
  go_wp2_with fail
  refine (l00In_any _ _ _ _).mono ?_; rintro e w1 ⟨rfl, rfl⟩
  go_wp2_with fail
  go_ret
  exact ⟨rfl, rfl⟩

theorem l02Density_any (x : Int) (w : World) : Calls Tryz.prog 54 #[.int .i64 x] w fun e w' => e = .returned (.bool (inB x 0 400)) ∧ w = w' := by
  go_enter Tryz.func54, Tryz.ntmps54
  go_wp2_with fail
  refine (l00In_any _ _ _ _).mono ?_; rintro e w1 ⟨rfl, rfl⟩
  go_wp2_with fail
  go_ret
  exact ⟨rfl, rfl⟩

set_option maxHeartbeats 1000000 in
theorem l02Point_any (x y : Int) (hx : -32768 ≤ x) (hx' : x ≤ 32767) (hy : -32768 ≤ y) (hy' : y ≤ 32767) (w : World) :
    Calls Tryz.prog 96 #[.agg #[.int .i16 x, .int .i16 y]] w fun e w' => e = .returned (.bool (ptOk x y)) ∧ Below w.heap.size w w' := by
  have hp := fun W => l02Place_any x W
  rcases h1 : inB x (-200) 200 with _ | _
  · have e : ptOk x y = false := by simp [ptOk, h1]
    rw [e]; rw [h1] at hp
    have Hp := Lib.hid hp; clear hp h1 e
    go_enter Tryz.func96, Tryz.ntmps96
    go_wp2_with fail
    refine (Hp.out _).mono ?_; rintro e w1 ⟨rfl, rfl⟩
    go_wp2_with fail
    go_ret
    exact ⟨rfl, by (repeat (first | exact Below.refl _ _ | assumption | apply Below.drew | apply below_drewL | apply below_drewP | (refine Below.alloc ?_ (by first | omega | (simp; done) | (simp; omega)) _) | (refine Below.setCell ?_ (by first | omega | (simp; done) | (simp; omega)) _)))⟩
  · have e : ptOk x y = inB y 0 400 := by simp [ptOk, h1]
    rw [e]; rw [h1] at hp
    have Hp := Lib.hid hp; clear hp h1 e
    go_enter Tryz.func96, Tryz.ntmps96
    go_wp2_with fail
    refine (Hp.out _).mono ?_; rintro e w1 ⟨rfl, rfl⟩
    go_wp2_with fail
    refine (l02Density_any y _).mono ?_; rintro e w1 ⟨rfl, rfl⟩
    go_wp2_with fail
    go_ret
    exact ⟨rfl, by (repeat (first | exact Below.refl _ _ | assumption | apply Below.drew | apply below_drewL | apply below_drewP | (refine Below.alloc ?_ (by first | omega | (simp; done) | (simp; omega)) _) | (refine Below.setCell ?_ (by first | omega | (simp; done) | (simp; omega)) _)))⟩

/-- The first k points are as those of a curve. -/
def PreC (k : Nat) (xs ys : Nat → Int) : Prop := (∀ j, j < k → ptOk (xs j) (ys j) = true) ∧ ∀ j, j + 1 < k → xs j < xs (j + 1) ∧ ys j ≤ ys (j + 1)
theorem PreC.zero (xs ys : Nat → Int) : PreC 0 xs ys := ⟨fun j hj => by omega, fun j hj => by omega⟩
theorem PreC.one {xs ys : Nat → Int} (h : ptOk (xs 0) (ys 0) = true) : PreC 1 xs ys :=
  ⟨fun j hj => by obtain rfl : j = 0 := by omega
                  exact h, fun j hj => by omega⟩
theorem PreC.succ {m : Nat} {xs ys : Nat → Int} (hp : PreC (m + 1) xs ys) (h : ptOk (xs (m + 1)) (ys (m + 1)) = true) (h1 : xs m < xs (m + 1)) (h2 : ys m ≤ ys (m + 1)) : PreC (m + 1 + 1) xs ys :=
  ⟨fun j hj => by
    rcases Nat.lt_or_ge j (m + 1) with h3 | h3
    · exact hp.1 j h3
    · obtain rfl : j = m + 1 := by omega
      exact h, fun j hj => by
    rcases Nat.lt_or_ge (j + 1) (m + 1) with h3 | h3
    · exact hp.2 j h3
    · obtain rfl : j = m := by omega
      exact ⟨h1, h2⟩⟩
theorem PreC.crv {n : Nat} {xs ys : Nat → Int} (hp : PreC n xs ys) (h : 0 < n) : Crv n xs ys := ⟨h, fun j hj => ptOk_iff.1 (hp.1 j hj), hp.2⟩
theorem shaped_pt {n k : Nat} {xs ys : Nat → Int} (hk : k < n) (h : ptOk (xs k) (ys k) = false) : shapedB n xs ys = false :=
  shapedB_no fun c => by rw [ptOk_iff.2 (c.scale k hk)] at h; cases h
theorem shaped_x {n m : Nat} {xs ys : Nat → Int} (hk : m + 1 < n) (h : xs (m + 1) ≤ xs m) : shapedB n xs ys = false :=
  shapedB_no fun c => by have := c.rise m hk; omega
theorem shaped_y {n m : Nat} {xs ys : Nat → Int} (hk : m + 1 < n) (h : ys (m + 1) < ys m) : shapedB n xs ys = false :=
  shapedB_no fun c => by have := c.rise m hk; omega

theorem keepP2 {B b : Nat} {W W' : World} (hb : Below B W W') {o1 o2 : Nat} {x1 x2 : Option Value} (h : W.cell? ⟨b, o1, none⟩ = x1 ∧ W.cell? ⟨b, o2, none⟩ = x2) (hB : b < B) :
    W'.cell? ⟨b, o1, none⟩ = x1 ∧ W'.cell? ⟨b, o2, none⟩ = x2 :=
  ⟨(hb.cell (p := ⟨b, o1, none⟩) hB).trans h.1, (hb.cell (p := ⟨b, o2, none⟩) hB).trans h.2⟩
theorem keepP4 {B b : Nat} {W W' : World} (hb : Below B W W') {o1 o2 o3 o4 : Nat} {x1 x2 x3 x4 : Option Value} (h : W.cell? ⟨b, o1, none⟩ = x1 ∧ W.cell? ⟨b, o2, none⟩ = x2 ∧ W.cell? ⟨b, o3, none⟩ = x3 ∧ W.cell? ⟨b, o4, none⟩ = x4) (hB : b < B) :
    W'.cell? ⟨b, o1, none⟩ = x1 ∧ W'.cell? ⟨b, o2, none⟩ = x2 ∧ W'.cell? ⟨b, o3, none⟩ = x3 ∧ W'.cell? ⟨b, o4, none⟩ = x4 :=
  ⟨(hb.cell (p := ⟨b, o1, none⟩) hB).trans h.1, (hb.cell (p := ⟨b, o2, none⟩) hB).trans h.2.1, (hb.cell (p := ⟨b, o3, none⟩) hB).trans h.2.2.1, (hb.cell (p := ⟨b, o4, none⟩) hB).trans h.2.2.2⟩

set_option maxRecDepth 100000 in
set_option maxHeartbeats 1000000 in
theorem l02Shape_any (b n cap : Nat) (xs ys : Nat → Int) (hn : n ≤ 1048576) (hs : SmallP n xs ys) (w : World) (hr : PtRow w b n xs ys) :
    Calls Tryz.prog 83 #[.slice (some ⟨b, 0, none⟩) n cap] w fun e w' => e = .returned (.bool (shapedB n xs ys)) ∧ Below w.heap.size w w' := by
  go_enter Tryz.func83, Tryz.ntmps83
  go_wp2
  go_loopw [3] (fun i wr => ∃ k : Nat, k ≤ n ∧ i = .int .i64 k ∧ PreC k xs ys ∧ Below w.heap.size w wr) (fun i _ => n - (intOf i).toNat)
  case atStart => exact ⟨0, Nat.zero_le _, rfl, PreC.zero _ _, Below.refl _ _⟩
  case round =>
    obtain ⟨k, hk, rfl, hp, hB⟩ := hrel
    have Hp := Lib.hid hp; clear hp
    by_cases hkn : k < n
    · have hR := hr.below hB hr.lt
      have hlt := hR.lt
      have hz := hB.size
      have c0 := hR.cell0 hkn
      have c1 := hR.cell1 hkn
      have hsk := hs k hkn
      have hq := fun W => l02Point_any (xs k) (ys k) hsk.1.1 hsk.1.2 hsk.2.1 hsk.2.2 W
      rcases h1 : ptOk (xs k) (ys k) with _ | _
      · have hno := shaped_pt hkn h1
        rw [h1] at hq
        have Hno := Lib.hid hno; clear hno
        have Hq := Lib.hid hq; clear hq h1 hr hR
        go_wp2_with fail
        refine wp_region_quietD (Below wr.heap.size wr) (by kernel_rfl) (by kernel_rfl) (below_drew1 _) ?_
        have n0 := below_nonempty wr
        have e0 := inCell c0
        have e1 := inCell c1
        repeat (go_big_quiet_step ((go_at_call 96; exact inCall _ (Hq.out _))))
        refine wpQuiet_nil ?_
        rintro _ ⟨x, rfl⟩
        have hx := x.ok
        have hxs := hx.size
        go_wp2
        go_ret
        exact ⟨ret_bool Hno.out.symm, hB.trans (hx.mono hz)⟩
      · rw [h1] at hq
        have Hq := Lib.hid hq; clear hq
        cases k with
        | zero =>
          have hp1 := PreC.one h1
          have Hp1 := Lib.hid hp1; clear hp1 h1 hr hR
          rw [Nat.zero_mul] at c0 c1
          rw [Nat.zero_add] at c1
          go_wp2_with fail
          refine wp_region_quietD (Below wr.heap.size wr) (by kernel_rfl) (by kernel_rfl) (below_drew1 _) ?_
          have n0 := below_nonempty wr
          have e0 := inCell c0
          have e1 := inCell c1
          repeat (go_big_quiet_step ((go_at_call 96; exact inCall _ (Hq.out _))))
          refine wpQuiet_nil ?_
          rintro _ ⟨x, rfl⟩
          have hx := x.ok
          have hxs := hx.size
          go_wp2
          go_roundw
          case rel => exact ⟨1, by omega, by go_num, Hp1.out, hB.trans (hx.mono hz)⟩
          case measure => simp [intOf]; omega
        | succ m =>
          have d0 := hR.cell0 (k := m) (by omega)
          have d1 := hR.cell1 (k := m) (by omega)
          have hsm := hs m (by omega)
          by_cases h3 : xs (m + 1) ≤ xs m
          · have hno := shaped_x (ys := ys) hkn h3
            have Hno := Lib.hid hno; clear hno h1 hr hR
            go_wp2_with fail
            refine wp_region_quietD (Below wr.heap.size wr) (by kernel_rfl) (by kernel_rfl) (below_drew1 _) ?_
            have n0 := below_nonempty wr
            have e0 := inCell c0
            have e1 := inCell c1
            have e2 := inCell d0
            have e3 := inCell d1
            repeat (go_big_quiet_step ((go_at_call 96; exact inCall _ (Hq.out _))))
            refine wpQuiet_nil ?_
            rintro _ ⟨x, rfl⟩
            have hx := x.ok
            have hxs := hx.size
            go_wp2
            go_ret
            exact ⟨ret_bool Hno.out.symm, hB.trans (hx.mono hz)⟩
          · have d3 : decide (xs (m + 1) ≤ xs m) = false := decide_eq_false h3
            by_cases h4 : ys (m + 1) < ys m
            · have hno := shaped_y (xs := xs) hkn h4
              have Hno := Lib.hid hno; clear hno h1 hr hR
              go_wp2_with fail
              refine wp_region_quietD (Below wr.heap.size wr) (by kernel_rfl) (by kernel_rfl) (below_drew1 _) ?_
              have n0 := below_nonempty wr
              have e0 := inCell c0
              have e1 := inCell c1
              have e2 := inCell d0
              have e3 := inCell d1
              repeat (go_big_quiet_step ((go_at_call 96; exact inCall _ (Hq.out _))))
              refine wpQuiet_nil ?_
              rintro _ ⟨x, rfl⟩
              have hx := x.ok
              have hxs := hx.size
              go_wp2
              go_ret
              exact ⟨ret_bool Hno.out.symm, hB.trans (hx.mono hz)⟩
            · have d4 : decide (ys (m + 1) < ys m) = false := decide_eq_false h4
              have hp2 := Hp.out.succ h1 (by omega) (by omega)
              have Hp2 := Lib.hid hp2; clear hp2 h1 hr hR
              go_wp2_with fail
              refine wp_region_quietD (Below wr.heap.size wr) (by kernel_rfl) (by kernel_rfl) (below_drew1 _) ?_
              have n0 := below_nonempty wr
              have e0 := inCell c0
              have e1 := inCell c1
              have e2 := inCell d0
              have e3 := inCell d1
              repeat (go_big_quiet_step ((go_at_call 96; exact inCall _ (Hq.out _))))
              refine wpQuiet_nil ?_
              rintro _ ⟨x, rfl⟩
              have hx := x.ok
              have hxs := hx.size
              go_wp2
              go_roundw
              case rel => exact ⟨m + 1 + 1, by omega, by go_num, Hp2.out, hB.trans (hx.mono hz)⟩
              case measure => simp [intOf]; omega
    · have e : k = n := by omega
      subst e
      go_wp2
      go_ret
      by_cases h0 : 0 < k
      · rw [shapedB_iff.2 (Hp.out.crv h0)]
        exact ⟨ret_bool (by simp; omega), hB⟩
      · rw [shapedB_no (fun c => h0 c.pos)]
        exact ⟨ret_bool (by simp; omega), hB⟩
end Go.Proofs.YtnlcjbobfhmnmabGreatDoor

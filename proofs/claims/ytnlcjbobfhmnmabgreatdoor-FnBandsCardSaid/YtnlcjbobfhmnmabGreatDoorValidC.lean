/-
  Whether a curve is valid, by the program and by the reference; its first and last density. Condition: at most 1048576 points.
-/
import Derived.Test.YtnlcjbobfhmnmabGreatDoorParts
import Derived.Test.YtnlcjbobfhmnmabGreatDoorShapeS
import Derived.Test.YtnlcjbobfhmnmabGreatDoorQX
namespace Go.Proofs.YtnlcjbobfhmnmabGreatDoor
open Go.RowKit

theorem shaped_0 {n : Nat} {xs ys : Nat → Int} (h : ¬ 0 < n) : shapedB n xs ys = false := by simp [shapedB, h]
theorem shaped_1 {n : Nat} {xs ys : Nat → Int} (h : scaleB xs ys n = false) : shapedB n xs ys = false := by simp [shapedB, h]
theorem shaped_2 {n : Nat} {xs ys : Nat → Int} (h : risesB xs ys (n - 1) = false) : shapedB n xs ys = false := by simp [shapedB, h]
theorem shaped_3 {n : Nat} {xs ys : Nat → Int} (h0 : 0 < n) (h1 : scaleB xs ys n = true) (h2 : risesB xs ys (n - 1) = true) : shapedB n xs ys = true := by simp [shapedB, h0, h1, h2]
/-- What has been found in the first k of the three tests. -/
def shPre (n : Nat) (xs ys : Nat → Int) (k : Nat) : Prop := (0 < k → 0 < n) ∧ (1 < k → scaleB xs ys n = true) ∧ (2 < k → risesB xs ys (n - 1) = true)

set_option maxRecDepth 100000 in
set_option maxHeartbeats 1000000 in
theorem isShaped_any (b n cap : Nat) (xs ys : Nat → Int) (hn : n ≤ 1048576) (hs : SmallP n xs ys) (w : World) (hr : PtRow w b n xs ys) :
    Calls Tryz.prog 89 #[.slice (some ⟨b, 0, none⟩) n cap] w fun e w' => e = .returned (.bool (shapedB n xs ys)) ∧ Below w.heap.size w w' := by
  have hlt := hr.lt
  have k0 := fun W => hasPoints_any (some ⟨b, 0, none⟩) n cap W
  have k1 := fun W h => isOnScale_any b n cap xs ys hn hs W h
  have k2 := fun W h => rises_any b n cap xs ys hn hs W h
  have K0 := Lib.hid k0; clear k0
  have K1 := Lib.hid k1; clear k1
  have K2 := Lib.hid k2; clear k2
  go_enter Tryz.func89, Tryz.ntmps89
  go_wp2_with fail
  go_loopw [7] (fun i wr => ∃ k : Nat, k ≤ 3 ∧ i = .int .i64 k ∧ shPre n xs ys k ∧ w.heap.size < wr.heap.size ∧ (wr.cell? ⟨w.heap.size, 0, none⟩ = some (.func (.func 107) #[] #[]) ∧ wr.cell? ⟨w.heap.size, 1, none⟩ = some (.func (.func 108) #[] #[]) ∧ wr.cell? ⟨w.heap.size, 2, none⟩ = some (.func (.func 109) #[] #[])) ∧ Below w.heap.size w wr) (fun i _ => 3 - (intOf i).toNat)
  case atStart =>
    exact ⟨0, Nat.zero_le _, rfl, ⟨fun h => by omega, fun h => by omega, fun h => by omega⟩, by simp, by simp, (Below.refl _ _).alloc (Nat.le_refl _) _⟩
  case round =>
    obtain ⟨k, hk, rfl, hp, hz, ⟨c0, c1, c2⟩, hB⟩ := hrel
    have Hp := Lib.hid hp; clear hp
    have hsz := hB.size
    rcases (show k = 0 ∨ k = 1 ∨ k = 2 ∨ k = 3 by omega) with rfl | rfl | rfl | rfl
    · by_cases h0 : 0 < n
      · have k0 := K0.out
        rw [decide_eq_true h0] at k0
        have K0' := Lib.hid k0; clear k0
        have hq : shPre n xs ys 1 := ⟨fun _ => h0, fun h => by omega, fun h => by omega⟩
        have Hq := Lib.hid hq; clear hq
        go_wp2_with fail
        refine (K0'.out _).mono ?_; rintro e w1 ⟨rfl, rfl⟩
        go_wp2_with fail
        go_roundw
        case rel => exact ⟨1, by omega, by go_num, Hq.out, hz, ⟨c0, c1, c2⟩, hB⟩
        case measure => simp [intOf]
      · have k0 := K0.out
        rw [decide_eq_false h0] at k0
        have K0' := Lib.hid k0; clear k0
        have hno := shaped_0 (xs := xs) (ys := ys) h0
        have Hno := Lib.hid hno; clear hno
        go_wp2_with fail
        refine (K0'.out _).mono ?_; rintro e w1 ⟨rfl, rfl⟩
        go_wp2_with fail
        go_ret
        exact ⟨ret_bool Hno.out.symm, hB⟩
    · have k1 := K1.out wr (hr.below hB hlt)
      have h0 := Hp.out.1 (by omega)
      rcases h1 : scaleB xs ys n with _ | _
      · rw [h1] at k1
        have K1' := Lib.hid k1; clear k1
        have hno := shaped_1 h1
        have Hno := Lib.hid hno; clear hno h1
        go_wp2_with fail
        refine K1'.out.mono ?_; rintro e w1 ⟨rfl, hb1⟩
        go_wp2_with fail
        go_ret
        exact ⟨ret_bool Hno.out.symm, hB.trans (hb1.mono hsz)⟩
      · rw [h1] at k1
        have K1' := Lib.hid k1; clear k1
        have hq : shPre n xs ys 2 := ⟨fun _ => h0, fun _ => h1, fun h => by omega⟩
        have Hq := Lib.hid hq; clear hq h1
        go_wp2_with fail
        refine K1'.out.mono ?_; rintro e w1 ⟨rfl, hb1⟩
        have c0 := (hb1.cell (p := ⟨w.heap.size, 0, none⟩) hz).trans c0
        have c1 := (hb1.cell (p := ⟨w.heap.size, 1, none⟩) hz).trans c1
        have c2 := (hb1.cell (p := ⟨w.heap.size, 2, none⟩) hz).trans c2
        have hz1 := Nat.lt_of_lt_of_le hz hb1.size
        go_wp2_with fail
        go_roundw
        case rel => exact ⟨2, by omega, by go_num, Hq.out, hz1, ⟨c0, c1, c2⟩, hB.trans (hb1.mono hsz)⟩
        case measure => simp [intOf]
    · have k2 := K2.out wr (hr.below hB hlt)
      have h0 := Hp.out.1 (by omega)
      have hsc := Hp.out.2.1 (by omega)
      rcases h1 : risesB xs ys (n - 1) with _ | _
      · rw [h1] at k2
        have K2' := Lib.hid k2; clear k2
        have hno := shaped_2 h1
        have Hno := Lib.hid hno; clear hno h1 hsc
        go_wp2_with fail
        refine K2'.out.mono ?_; rintro e w1 ⟨rfl, hb1⟩
        go_wp2_with fail
        go_ret
        exact ⟨ret_bool Hno.out.symm, hB.trans (hb1.mono hsz)⟩
      · rw [h1] at k2
        have K2' := Lib.hid k2; clear k2
        have hq : shPre n xs ys 3 := ⟨fun _ => h0, fun _ => hsc, fun _ => h1⟩
        have Hq := Lib.hid hq; clear hq h1 hsc
        go_wp2_with fail
        refine K2'.out.mono ?_; rintro e w1 ⟨rfl, hb1⟩
        have c0 := (hb1.cell (p := ⟨w.heap.size, 0, none⟩) hz).trans c0
        have c1 := (hb1.cell (p := ⟨w.heap.size, 1, none⟩) hz).trans c1
        have c2 := (hb1.cell (p := ⟨w.heap.size, 2, none⟩) hz).trans c2
        have hz1 := Nat.lt_of_lt_of_le hz hb1.size
        go_wp2_with fail
        go_roundw
        case rel => exact ⟨3, by omega, by go_num, Hq.out, hz1, ⟨c0, c1, c2⟩, hB.trans (hb1.mono hsz)⟩
        case measure => simp [intOf]
    · have hy := shaped_3 (Hp.out.1 (by omega)) (Hp.out.2.1 (by omega)) (Hp.out.2.2 (by omega))
      have Hy := Lib.hid hy; clear hy
      go_wp2
      go_ret
      exact ⟨ret_bool Hy.out.symm, hB⟩

set_option maxHeartbeats 1000000 in
theorem ValidCurve_any (b n cap : Nat) (xs ys : Nat → Int) (hn : n ≤ 1048576) (hs : SmallP n xs ys) (w : World) (hr : PtRow w b n xs ys) :
    Calls Tryz.prog 70 #[.slice (some ⟨b, 0, none⟩) n cap] w fun e w' => e = .returned (.bool (validC n xs ys)) ∧ Below w.heap.size w w' := by
  by_cases h12 : n ≤ 12
  · have hv : validC n xs ys = shapedB n xs ys := by simp [validC, h12]
    rw [hv]; clear hv
    go_enter Tryz.func70, Tryz.ntmps70
    go_wp2_with fail
    refine (isShaped_any b n cap xs ys hn hs _ hr).mono ?_; rintro e w1 ⟨rfl, hb1⟩
    go_wp2_with fail
    go_ret
    exact ⟨rfl, hb1⟩
  · have hv : validC n xs ys = false := by simp [validC, h12]
    rw [hv]; clear hv
    go_enter Tryz.func70, Tryz.ntmps70
    go_wp2
    go_ret
    exact ⟨rfl, Below.refl _ _⟩

set_option maxHeartbeats 1000000 in
theorem l02Ok_any (b n cap : Nat) (xs ys : Nat → Int) (hn : n ≤ 1048576) (hs : SmallP n xs ys) (w : World) (hr : PtRow w b n xs ys) :
    Calls Tryz.prog 53 #[.slice (some ⟨b, 0, none⟩) n cap] w fun e w' => e = .returned (.bool (validC n xs ys)) ∧ Below w.heap.size w w' := by
  have hk := l02Shape_any b n cap xs ys hn hs
  rcases h1 : shapedB n xs ys with _ | _
  · have hv : validC n xs ys = false := by simp [validC, h1]
    rw [hv]; clear hv
    rw [h1] at hk
    have Hk := Lib.hid hk; clear hk h1
    go_enter Tryz.func53, Tryz.ntmps53
    go_wp2_with fail
    refine (Hk.out _ hr).mono ?_; rintro e w1 ⟨rfl, hb1⟩
    go_wp2_with fail
    go_ret
    exact ⟨rfl, hb1⟩
  · have hv : validC n xs ys = decide (n ≤ 12) := by simp [validC, h1]
    rw [hv]; clear hv
    rw [h1] at hk
    have Hk := Lib.hid hk; clear hk h1
    go_enter Tryz.func53, Tryz.ntmps53
    go_wp2_with fail
    refine (Hk.out _ hr).mono ?_; rintro e w1 ⟨rfl, hb1⟩
    go_wp2_with fail
    go_ret
    exact ⟨ret_bool (by simp; omega), hb1⟩

/-- The first and the last density as a value. -/
theorem densities_any (b n cap : Nat) (xs ys : Nat → Int) (hn : n ≤ 1048576) (h0 : 0 < n) (hs : SmallP n xs ys) (w : World) (hr : PtRow w b n xs ys) :
    Calls Tryz.prog 131 #[.slice (some ⟨b, 0, none⟩) n cap] w fun e w' => e = .returned (.agg #[.int .i64 (ys 0), .int .i64 (ys (n - 1))]) ∧ Below w.heap.size w w' := by
  have hs0 := hs 0 h0
  have hsn := hs (n - 1) (by omega)
  have c1 := hr.cell1 h0
  have d1 := hr.cell1 (k := n - 1) (by omega)
  rw [Nat.zero_mul, Nat.zero_add] at c1
  have w1 : ((n : Int) - 1).toNat = n - 1 := by omega
  have hlt := hr.lt
  have w2 : (0 : Int) < n := by omega
  have w3 : (n : Int) - 1 < n := by omega
  have w4 : (1 : Int) ≤ n := by omega
  go_enter Tryz.func131, Tryz.ntmps131
  go_wp2
  refine wp_region_quiet_tail 14 (fun w' => ∃ q, w' = (w.alloc (.cells #[.int .i64 0, .int .i64 0] 165)).drewN q) (by kernel_rfl) (by kernel_rfl) ⟨1, rfl⟩ ?_
  simp only [List.take_succ_cons, List.take_zero, List.drop_succ_cons, List.drop_zero]
  repeat (go_big_quiet_step (fail))
  refine wpQuiet_nil ?_
  rintro _ ⟨q, rfl⟩
  go_wp2
  refine bodyPost_ret (v := .agg #[.int .i64 (ys 0), .int .i64 (ys (n - 1))]) (by simp [results, Tryz.results131, go_sem]) rfl ⟨rfl, ?_⟩
  (repeat (first | exact Below.refl _ _ | assumption | apply Below.drew | apply below_drewL | apply below_drewP | (refine Below.alloc ?_ (by first | omega | (simp; done) | (simp; omega)) _) | (refine Below.setCell ?_ (by first | omega | (simp; done) | (simp; omega)) _)))
end Go.Proofs.YtnlcjbobfhmnmabGreatDoor

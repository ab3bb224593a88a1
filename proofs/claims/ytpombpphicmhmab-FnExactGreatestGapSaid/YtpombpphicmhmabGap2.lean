/-
  The greatest gap of two curves, by the program; the exported functions. Condition: at most 1048576 points each.
-/
import Derived.Test.YtpombpphicmhmabGap
import Derived.Test.YtpombpphicmhmabQuietTail
namespace Go.Proofs.Ytpombpphicmhmab
open Go.RowKit

/-- A gap in its variable. -/
def GapAt (w : World) (B : Nat) (x y : Int) : Prop := (w.cell? ⟨B, 0, none⟩ = some (.int .i64 x) ∧ w.cell? ⟨B, 1, none⟩ = some (.int .i64 y)) ∧ w.frozen? ⟨B, 0, none⟩ = false ∧ w.frozen? ⟨B, 1, none⟩ = false
theorem GapAt.below {w w' : World} {B : Nat} {x y : Int} {L : Nat} (h : GapAt w B x y) (hb : Below L w w') (hB : B < L) : GapAt w' B x y := by
  obtain ⟨⟨h0, h1⟩, f0, f1⟩ := h
  exact ⟨⟨(hb.cell (p := ⟨B, 0, none⟩) hB).trans h0, (hb.cell (p := ⟨B, 1, none⟩) hB).trans h1⟩, (hb.frozen (p := ⟨B, 0, none⟩) hB).trans f0, (hb.frozen (p := ⟨B, 1, none⟩) hB).trans f1⟩
theorem GapAt.store {w : World} {B : Nat} {x y : Int} (h : GapAt w B x y) (x' y' : Int) : GapAt ((w.setCell ⟨B, 0, none⟩ (.int .i64 x')).setCell ⟨B, 1, none⟩ (.int .i64 y')) B x' y' := by
  obtain ⟨⟨h0, h1⟩, f0, f1⟩ := h
  exact ⟨⟨by simp [go_sem, h0], by simp [go_sem, h1]⟩, by rw [World.frozen?_setCell, World.frozen?_setCell]; exact f0, by rw [World.frozen?_setCell, World.frozen?_setCell]; exact f1⟩
theorem GapAt.other {w : World} {B B' : Nat} {x y : Int} (h : GapAt w B x y) (hne : B ≠ B') (x' y' : Int) : GapAt ((w.setCell ⟨B', 0, none⟩ (.int .i64 x')).setCell ⟨B', 1, none⟩ (.int .i64 y')) B x y := by
  obtain ⟨⟨h0, h1⟩, f0, f1⟩ := h
  exact ⟨⟨by simp [go_sem, hne, h0], by simp [go_sem, hne, h1]⟩, by rw [World.frozen?_setCell, World.frozen?_setCell]; exact f0, by rw [World.frozen?_setCell, World.frozen?_setCell]; exact f1⟩
theorem GapAt.new (w : World) (x y : Int) (t : TypeId) : GapAt (w.alloc (.cells #[.int .i64 x, .int .i64 y] t)) w.heap.size x y := ⟨⟨by simp, by simp⟩, by simp, by simp⟩

set_option maxRecDepth 100000 in
set_option maxHeartbeats 1000000 in
theorem greatestGap_any (b n cap : Nat) (xs ys : Nat → Int) (b' m cap' : Nat) (us vs : Nat → Int) (hn : n ≤ 1048576) (hm : m ≤ 1048576) (c : Crv n xs ys) (c' : Crv m us vs) (w : World) (hr : PtRow w b n xs ys) (hr' : PtRow w b' m us vs) :
    Calls Try.prog 13 #[.slice (some ⟨b, 0, none⟩) n cap, .slice (some ⟨b', 0, none⟩) m cap'] w fun e w' => e = .returned (.agg #[.int .i64 (gapS (gapD n xs ys m us vs) 401).1, .int .i64 (gapS (gapD n xs ys m us vs) 401).2]) ∧ Below w.heap.size w w' := by
  have hlt := hr.lt
  have hlt' := hr'.lt
  have hA := fun (x : Int) (h : -1000 ≤ x) (h' : x ≤ 1000) W hW => at_any b n cap xs ys hn c x (by omega) (by omega) W hW
  have hB := fun (x : Int) (h : -1000 ≤ x) (h' : x ≤ 1000) W hW => at_any b' m cap' us vs hm c' x (by omega) (by omega) W hW
  have b1 := fun x => dens_400 c x
  have b2 := fun x => dens_400 c' x
  have hbd := gapS_bd (gapD_bd c c')
  have hdd : ∀ x, gapD n xs ys m us vs x = dens m us vs x - dens n xs ys x := fun _ => rfl
  generalize gapD n xs ys m us vs = d at *
  generalize dens n xs ys = f at *
  generalize dens m us vs = g at *
  have HA := Lib.hid hA; clear hA
  have HB := Lib.hid hB; clear hB
  have B1 := Lib.hid b1; clear b1
  have B2 := Lib.hid b2; clear b2
  have Hbd := Lib.hid hbd; clear hbd
  have Hdd := Lib.hid hdd; clear hdd
  have gA := (GapAt.new w 0 0 40).below (((Below.refl _ _)).alloc (Nat.le_refl _) (.cells #[.int .i64 (-200), .int .i64 0] 40)) (by simp)
  have gB := GapAt.new (w.alloc (.cells #[.int .i64 0, .int .i64 0] 40)) (-200) 0 40
  rw [World.size_alloc] at gB
  have k0 : Below w.heap.size w ((w.alloc (.cells #[.int .i64 0, .int .i64 0] 40)).alloc (.cells #[.int .i64 (-200), .int .i64 0] 40)) := ((Below.refl _ _).alloc (Nat.le_refl _) _).alloc (by simp) _
  have hz0 : w.heap.size + 1 < ((w.alloc (.cells #[.int .i64 0, .int .i64 0] 40)).alloc (.cells #[.int .i64 (-200), .int .i64 0] 40)).heap.size := by simp
  go_enter Try.func13, Try.ntmps13
  go_wp2_with fail
  go_loopw [6] (fun i wr => ∃ k : Nat, k ≤ 401 ∧ i = .int .i64 (-200 + (k : Int)) ∧ GapAt wr (w.heap.size + 1) (gapS d k).1 (gapS d k).2 ∧ GapAt wr w.heap.size 0 0 ∧ w.heap.size + 1 < wr.heap.size ∧ Below w.heap.size w wr) (fun i _ => (201 - intOf i).toNat)
  case atStart => exact ⟨0, by omega, by simp, gB, gA, hz0, k0⟩
  case round =>
    obtain ⟨k, hk, rfl, hG, hR, hz, hB⟩ := hrel
    have hsz := hB.size
    have bk := Hbd.out k
    by_cases h2 : k < 401
    · have q1 := B1.out (-200 + k)
      have q2 := B2.out (-200 + k)
      have e1 := Hdd.out (-200 + k)
      have hA := HA.out (-200 + k) (by omega) (by omega)
      have hB2 := HB.out (-200 + k) (by omega) (by omega) wr (hr'.below hB hlt')
      have hy := gapS_yes (d := d) (k := k)
      have hno := gapS_no (d := d) (k := k)
      rw [e1] at hy hno
      clear e1
      generalize g (-200 + k) = G at *
      generalize f (-200 + k) = F at *
      generalize hg1 : (gapS d k).1 = at0 at *
      generalize hg2 : (gapS d k).2 = by0 at *
      have hs1 := fun W => distance0_any (G - F) (by omega) (by omega) W
      have hs2 := fun W => distance0_any by0 (by omega) (by omega) W
      have z1 := aSize_bd (z := G - F) (by omega) (by omega)
      have z2 := aSize_bd (z := by0) (by omega) (by omega)
      have HA2 := Lib.hid hA; clear hA
      have HB2 := Lib.hid hB2; clear hB2
      have HR := Lib.hid hR; clear hR
      have HG := Lib.hid hG; clear hG
      by_cases hc : aSize by0 < aSize (G - F)
      · have hy := hy hc
        clear hno
        have Hy := Lib.hid hy; clear hy hg2 hg1
        generalize aSize (G - F) = S1 at *
        generalize aSize by0 = S2 at *
        have Hs1 := Lib.hid hs1; clear hs1
        have Hs2 := Lib.hid hs2; clear hs2
        go_wp2_with fail
        refine HB2.out.mono ?_; rintro e w3 ⟨rfl, hb3⟩
        have k3 := hB.trans (hb3.mono hsz)
        have hz3 := Nat.lt_of_lt_of_le hz hb3.size
        go_wp2_with fail
        refine (HA2.out _ (hr.below k3 hlt)).mono ?_; rintro e w4 ⟨rfl, hb4⟩
        have k4 := k3.trans (hb4.mono k3.size)
        have hz4 := Nat.lt_of_lt_of_le hz3 hb4.size
        have hG4 := (HG.out.below hb3 hz).below hb4 hz3
        have hR4 := (HR.out.below hb3 (by omega)).below hb4 (by omega)
        have HG4 := Lib.hid hG4
        have HR4 := Lib.hid hR4; clear hR4
        obtain ⟨⟨c0, c1⟩, g0, g1⟩ := hG4
        clear hb3 hb4
        go_wp2_with fail
        refine wp_region_quietD (Below w4.heap.size w4) (by kernel_rfl) (by kernel_rfl) (below_drew1 _) ?_
        have n0 := below_nonempty w4
        have e1 := inCell c1
        repeat (go_big_quiet_step (first | (go_at_call 20; with_reducible exact inCallS _ (Hs1.out _)) | (go_at_call 20; with_reducible exact inCallS _ (Hs2.out _))))
        refine wpQuiet_nil ?_
        rintro _ ⟨x, rfl⟩
        have hx := x.ok
        have hxz := Nat.lt_of_lt_of_le hz4 hx.size
        have hG5 := HG4.out.below hx hz4
        have hR5 := HR4.out.below hx (by omega)
        have HG5 := Lib.hid hG5
        have HR5 := Lib.hid hR5; clear hR5
        obtain ⟨⟨c0, c1⟩, g0, g1⟩ := hG5
        go_wp2_with fail
        go_roundw
        case rel => exact ⟨k + 1, by omega, congrArg (Value.int .i64) (by omega), by rw [Hy.out]; exact HG5.out.store _ _, HR5.out.other (by omega) _ _, by simp; exact hxz, (((k4.trans (hx.mono k4.size)).setCell (p := ⟨w.heap.size + 1, 0, none⟩) (by simp) _).setCell (p := ⟨w.heap.size + 1, 1, none⟩) (by simp) _)⟩
        case measure => simp [intOf]; omega
      · have hno := hno hc
        clear hy
        have Hno := Lib.hid hno; clear hno
        have Hg2 := Lib.hid hg2; clear hg2
        have Hg1 := Lib.hid hg1; clear hg1
        generalize aSize (G - F) = S1 at *
        generalize aSize by0 = S2 at *
        have dc : decide (S2 < S1) = false := decide_eq_false hc
        have Hs1 := Lib.hid hs1; clear hs1
        have Hs2 := Lib.hid hs2; clear hs2
        go_wp2_with fail
        refine HB2.out.mono ?_; rintro e w3 ⟨rfl, hb3⟩
        have k3 := hB.trans (hb3.mono hsz)
        have hz3 := Nat.lt_of_lt_of_le hz hb3.size
        go_wp2_with fail
        refine (HA2.out _ (hr.below k3 hlt)).mono ?_; rintro e w4 ⟨rfl, hb4⟩
        have k4 := k3.trans (hb4.mono k3.size)
        have hz4 := Nat.lt_of_lt_of_le hz3 hb4.size
        have hG4 := (HG.out.below hb3 hz).below hb4 hz3
        have hR4 := (HR.out.below hb3 (by omega)).below hb4 (by omega)
        have HG4 := Lib.hid hG4
        have HR4 := Lib.hid hR4; clear hR4
        obtain ⟨⟨c0, c1⟩, g0, g1⟩ := hG4
        clear hb3 hb4
        go_wp2_with fail
        refine wp_region_quietD (Below w4.heap.size w4) (by kernel_rfl) (by kernel_rfl) (below_drew1 _) ?_
        have n0 := below_nonempty w4
        have e1 := inCell c1
        repeat (go_big_quiet_step (first | (go_at_call 20; with_reducible exact inCallS _ (Hs1.out _)) | (go_at_call 20; with_reducible exact inCallS _ (Hs2.out _))))
        refine wpQuiet_nil ?_
        rintro _ ⟨x, rfl⟩
        have hx := x.ok
        have hxz := Nat.lt_of_lt_of_le hz4 hx.size
        have hG5 := HG4.out.below hx hz4
        have hR5 := HR4.out.below hx (by omega)
        have HG5 := Lib.hid hG5; clear hG5
        have HR5 := Lib.hid hR5; clear hR5
        go_wp2_with fail
        go_roundw
        case rel => exact ⟨k + 1, by omega, congrArg (Value.int .i64) (by omega), by rw [Hno.out, Hg1.out, Hg2.out]; exact HG5.out, HR5.out, hxz, k4.trans (hx.mono k4.size)⟩
        case measure => simp [intOf]; omega
    · obtain rfl : k = 401 := by omega
      have HR := Lib.hid hR
      obtain ⟨⟨c0, c1⟩, g0, g1⟩ := hG
      obtain ⟨⟨r0, r1⟩, t0, t1⟩ := hR
      generalize hg1 : (gapS d 401).1 = at0 at *
      generalize hg2 : (gapS d 401).2 = by0 at *
      have Hg1 := Lib.hid hg1; clear hg1
      have Hg2 := Lib.hid hg2; clear hg2
      go_wp2_with fail
      obtain ⟨⟨s0, s1⟩, -, -⟩ := HR.out.store at0 by0
      refine bodyPost_ret (v := .agg #[.int .i64 at0, .int .i64 by0]) (by simp [results, Try.results13, go_sem, s0, s1, r0, r1]) rfl ⟨by rw [Hg1.out, Hg2.out], ?_⟩
      exact (hB.setCell (p := ⟨w.heap.size, 0, none⟩) (Nat.le_refl _) _).setCell (p := ⟨w.heap.size, 1, none⟩) (Nat.le_refl _) _
end Go.Proofs.Ytpombpphicmhmab

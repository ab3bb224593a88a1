/-
  A developer and a bath that are drawn from bytes. Condition: at most 1048576 bytes.
-/
import Derived.Test.YtkgjkjecfpmlnaaDoorBathDrawn
namespace Go.Proofs.YtkgjkjecfpmlnaaDoor
open Go.RowKit

set_option maxRecDepth 100000 in
set_option maxHeartbeats 2000000 in
theorem A2Bath_any {n cap : Nat} {A : Option Addr} {bs : Nat → Int} (hn : n ≤ 1048576) (hbs : ∀ j, j < n → 0 ≤ bs j ∧ bs j ≤ 255) (w : World) (hB : BytesIn w A n bs) :
    Calls Tryd.prog 5 #[.slice A n cap] w fun e w' => ∃ (p k c t v u a : Int), e = .returned (.tuple #[devV p k c t, batV v u a]) ∧ BOk p k c t v u a ∧ p ≤ 5000 ∧ k ≤ 500 ∧ v ≤ 2000 ∧ Below w.heap.size w w' := by
  have R0 := (DwAt.newAt w w.heap.size rfl 26 0 0 0 0).alloc (.cells #[.int .i64 0, .int .i64 0, .int .i64 0] 28)
  have Q0 := BtAt.newAt (w.alloc (.cells #[.int .i64 0, .int .i64 0, .int .i8 0, .int .i8 0] 26)) (w.heap.size + 1) (by simp) 28 0 0 0
  have k0 := below_2 w (.cells #[.int .i64 0, .int .i64 0, .int .i8 0, .int .i8 0] 26) (.cells #[.int .i64 0, .int .i64 0, .int .i64 0] 28)
  have hb0 := hB.below k0 (Nat.le_refl _)
  have hl0 := hB.lt
  have hz0 : ((w.alloc (.cells #[.int .i64 0, .int .i64 0, .int .i8 0, .int .i8 0] 26)).alloc (.cells #[.int .i64 0, .int .i64 0, .int .i64 0] 28)).heap.size = w.heap.size + 2 := by simp
  have HZ := Lib.hid hz0; clear hz0
  go_enter Tryd.func5, Tryd.ntmps5
  go_wp2_with fail
  have hz0 := HZ.out; clear HZ
  generalize (w.alloc (.cells #[.int .i64 0, .int .i64 0, .int .i8 0, .int .i8 0] 26)).alloc (.cells #[.int .i64 0, .int .i64 0, .int .i64 0] 28) = W at *
  refine (l00From_any _ _ _ _).mono ?_; rintro e w1 ⟨rfl, rfl⟩
  have s1 : Src (W.alloc (.cells #[.slice A n cap, .int .i64 0, .int .u64 0] 80)) W.heap.size A n cap bs 0 :=
    ⟨srcAt_new W A n cap, hb0.below ((Below.refl _ _).alloc (Nat.le_refl _) _) (Nat.le_refl _), fun h a e => by have := hl0 h a e; omega, hn, hbs⟩
  have hdd := l04Drawn_any _ s1 (by omega)
  have R1 := R0.alloc (.cells #[.slice A n cap, .int .i64 0, .int .u64 0] 80)
  have Q1 := Q0.alloc (.cells #[.slice A n cap, .int .i64 0, .int .u64 0] 80)
  have k1 := k0.alloc k0.size (.cells #[.slice A n cap, .int .i64 0, .int .u64 0] 80)
  have Hdd := Lib.hid hdd; clear hdd s1
  have HZ := Lib.hid hz0; clear hz0
  go_wp2_with fail
  refine Hdd.out.mono ?_; rintro e w2 ⟨p, k, c, t, v, u, a, rfl, hBOK, hp1, hk1, hv1, g2⟩
  have hz0 := HZ.out; clear HZ
  have R2 := R1.far g2 (fun e => by injection e with e; omega)
  have Q2 := Q1.far g2 (fun e => by injection e with e; omega)
  have k2 : Below w.heap.size w w2 := k1.grown g2 (by simp; omega) (fun j e => by injection e with e; omega)
  clear R1 Q1 k1 R0 Q0 k0 g2 Hdd
  have R12 := R2
  have Q12 := Q2
  obtain ⟨r0, r1, r2, r3, rz⟩ := R12
  have hrl := cell_ltB r0
  obtain ⟨e0, e1, e2, h0, h1, h2⟩ := Q12
  have hql := cell_ltB e0
  go_wp2_with fail
  clear r0 r1 r2 r3 rz e0 e1 e2 h0 h1 h2
  obtain ⟨W2, e2, D2, kg, ks, kb⟩ := R2.stored p k c t
  rw [← e2]
  have Q3 := kb _ _ _ _ Q2 (by omega)
  have k3 : Below w.heap.size w W2 := by rw [e2]; exact (((k2.setCell (Nat.le_refl _) _).setCell (Nat.le_refl _) _).setCell (Nat.le_refl _) _).setCell (Nat.le_refl _) _
  clear e2 kg ks kb
  obtain ⟨W3, e3, Q4, k4⟩ := Q3.stored k3 (by omega) v u a
  rw [← e3]
  have D3 : DwAt W3 w.heap.size p k c t := by rw [e3]; exact ((D2.setNe (by show w.heap.size + 1 ≠ w.heap.size; omega) _).setNe (by show w.heap.size + 1 ≠ w.heap.size; omega) _).setNe (by show w.heap.size + 1 ≠ w.heap.size; omega) _
  clear e3
  obtain ⟨c0, c1, c2, c3, _⟩ := D3
  obtain ⟨q0, q1, q2, _, _, _⟩ := Q4
  exact bodyPost_ret (v := .tuple #[devV p k c t, batV v u a]) (by simp [results, Tryd.results5, go_sem, c0, c1, c2, c3, q0, q1, q2]) rfl ⟨p, k, c, t, v, u, a, rfl, hBOK, hp1, hk1, hv1, k4⟩
end Go.Proofs.YtkgjkjecfpmlnaaDoor

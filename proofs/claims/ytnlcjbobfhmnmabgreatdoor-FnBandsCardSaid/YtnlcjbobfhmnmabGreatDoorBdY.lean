/-
  A strip that the reference's source of choices draws; lists of numbers compared. Condition: at most 1048576 bytes and numbers.
-/
import Derived.Test.YtnlcjbobfhmnmabGreatDoorDrawn
import Derived.Test.YtnlcjbobfhmnmabGreatDoorStrip
import Derived.Test.YtnlcjbobfhmnmabGreatDoorTab
namespace Go.Proofs.YtnlcjbobfhmnmabGreatDoor
open Go.RowKit

/-- A strip that is drawn. -/
def StripOut (w : World) (L : Nat) (e : Ending) (w' : World) : Prop := ∃ a b c : Int, e = .returned (stV a b c) ∧ StOk a b c ∧ Below L w w'

theorem quo_bd {a b : Int} (ha : 0 ≤ a) (ha' : a ≤ 19) (hb : 1 ≤ b) (hb' : b ≤ 6) : 2 ≤ (36 - a).tdiv b ∧ (36 - a).tdiv b ≤ 36 ∧ b * (36 - a).tdiv b ≤ 36 - a := by
  rw [Int.tdiv_eq_ediv_of_nonneg (by omega)]
  have h1 : b * ((36 - a) / b) + (36 - a) % b = 36 - a := Int.mul_ediv_add_emod (36 - a) b
  have h2 : 0 ≤ (36 - a) % b := Int.emod_nonneg _ (by omega)
  have h3 : (36 - a) % b < b := Int.emod_lt_of_pos _ (by omega)
  refine ⟨?_, ?_, by omega⟩
  · exact (Int.le_ediv_iff_mul_le (by omega)).2 (by omega)
  · exact Int.le_trans (Int.ediv_le_self b (by omega)) (by omega)

theorem st_cells {W : World} {i : Nat} {T : TypeId} {x y z : Value} (h : W.heap[i]? = some (.cells #[x, y, z] T (0, 0))) :
    W.cell? ⟨i, 0, none⟩ = some x ∧ W.cell? ⟨i, 1, none⟩ = some y ∧ W.cell? ⟨i, 2, none⟩ = some z ∧ ∀ o, W.frozen? ⟨i, o, none⟩ = false :=
  ⟨by simp [cell_of_row _ _ 0 _ _ _ h], by simp [cell_of_row _ _ 1 _ _ _ h], by simp [cell_of_row _ _ 2 _ _ _ h], fun o => by simp [World.frozen?, h]⟩
set_option maxRecDepth 100000 in
set_option maxHeartbeats 1000000 in
theorem l05Drawn_any (q : Nat) (A : Option Addr) (n cap : Nat) (bs : Nat → Int) (hn : n ≤ 1048576) (hbs : ∀ j, j < n → 0 ≤ bs j ∧ bs j ≤ 255) (w : World) (hS0 : SrcAt w q A n cap 0) (hB : BytesIn w A n bs) (hA : 0 < n → ∀ a, A = some a → a.block < q) :
    Calls Tryz.prog 27 #[.pointer (some ⟨q, 0, none⟩)] w (StripOut w q) := by
  have hqlt : q < w.heap.size := by obtain ⟨_, _, _, _, _, h⟩ := hS0.cells; exact h
  have hBB : ∀ W, Below q w W → BytesIn W A n bs := fun W h => by
    rcases hB with h0 | ⟨b', o, e, hlt, hc⟩
    · exact .inl h0
    · rcases Nat.eq_zero_or_pos n with h0 | h0
      · exact .inl h0
      have h1 : b' < q := hA h0 _ e
      exact .inr ⟨b', o, e, by have := h.size; omega, fun j hj => by rw [h.cell (p := ⟨b', o + j, none⟩) h1]; exact hc j hj⟩
  have hpk := fun (W : World) (m : Int) (p : Nat) (h0 : 0 ≤ m) (h1 : m ≤ 1000) (hp : p ≤ 1000) (hS : SrcAt W q A n cap p) (hb : Below q w W) =>
    srcPick_any q n cap p A bs m h0 (by omega) hn (by omega) hbs W hS (hBB W hb) hA
  have Hpk := Lib.hid hpk; clear hpk hbs hBB hB
  have k1 : Below q w (w.alloc (.cells #[.int .i8 0, .int .i8 0, .int .i8 0] 26)) := (Below.refl _ _).alloc (by omega) _
  have s1 := hS0.below ((Below.refl w.heap.size w).alloc (Nat.le_refl _) (.cells #[.int .i8 0, .int .i8 0, .int .i8 0] 26)) hqlt
  have r1 : (w.alloc (.cells #[.int .i8 0, .int .i8 0, .int .i8 0] 26)).heap[w.heap.size]? = some (.cells #[.int .i8 0, .int .i8 0, .int .i8 0] 26 (0, 0)) := heap_alloc_new w _
  go_enter Tryz.func27, Tryz.ntmps27
  go_wp2_with fail
  refine (Hpk.out _ 20 0 (by omega) (by omega) (by omega) s1 k1).mono ?_; rintro e w2 ⟨a, q1, rfl, ha, _, hq1, s2, ho2⟩
  have ha := ha.lt (by omega)
  have z2 : w.heap.size < w2.heap.size := by have := ho2.size; simp at this; omega
  have k2 := k1.trans (ho2.below (by simp; omega))
  have r2 := (ho2.block w.heap.size (by simp) (.inr (by omega))).trans r1
  clear s1 k1 ho2 r1
  go_wp2_with fail
  refine (Hpk.out _ 6 q1 (by omega) (by omega) (by omega) s2 k2).mono ?_; rintro e w3 ⟨f, q2, rfl, hf, _, hq2, s3, ho3⟩
  have hf := hf.lt (by omega)
  have z3 : w2.heap.size ≤ w3.heap.size := ho3.size
  have k3 := k2.trans (ho3.below (by omega))
  have r3 := (ho3.block w.heap.size (by omega) (.inr (by omega))).trans r2
  clear s2 k2 ho3 r2
  obtain ⟨b, hb⟩ : ∃ b, b = 1 + f := ⟨_, rfl⟩
  have hbb : 1 ≤ b ∧ b ≤ 6 := by omega
  have i1 : IntKind.i8.wrap a = a := IntWalk.i8_in _ (by omega)
  have i2 : IntKind.i8.wrap (1 + f) = b := by rw [IntWalk.i8_in _ (by omega), hb]
  have k4 := k3.alloc (by omega) (.cells #[.int .i8 a, .int .i8 b, .int .i8 0] 26)
  have s4 := s3.below ((Below.refl w3.heap.size w3).alloc (Nat.le_refl _) (.cells #[.int .i8 a, .int .i8 b, .int .i8 0] 26)) (by omega)
  have r4 : (w3.alloc (.cells #[.int .i8 a, .int .i8 b, .int .i8 0] 26)).heap[w.heap.size]? = some (.cells #[.int .i8 0, .int .i8 0, .int .i8 0] 26 (0, 0)) := (Below.heap_alloc w3 _ _ (by omega)).trans r3
  have t4 : (w3.alloc (.cells #[.int .i8 a, .int .i8 b, .int .i8 0] 26)).heap[w3.heap.size]? = some (.cells #[.int .i8 a, .int .i8 b, .int .i8 0] 26 (0, 0)) := heap_alloc_new w3 _
  have hqb := quo_bd (a := a) (b := b) (by omega) (by omega) (by omega) (by omega)
  obtain ⟨Q, hQ⟩ : ∃ Q, (36 - a).tdiv b = Q := ⟨_, rfl⟩
  rw [hQ] at hqb
  have hb0 : ¬ b = 0 := by omega
  have hQ2 : (36 - a) / b = Q := by rw [← hQ, Int.tdiv_eq_ediv_of_nonneg (by omega)]
  clear k3 s3 r3
  have Hb := Lib.hid hb; clear hb
  have HQ := Lib.hid hQ; clear hQ
  go_wp2_with fail
  refine (Hpk.out _ (Q + 1) q2 (by omega) (by omega) (by omega) s4 k4).mono ?_; rintro e w5 ⟨g, q3, rfl, hg, _, hq3, s5, ho5⟩
  have hg := hg.lt (by omega)
  have z5 : w3.heap.size + 1 ≤ w5.heap.size := by have := ho5.size; simpa using this
  have k5 := k4.trans (ho5.below (by simp; omega))
  have r5 := (ho5.block w.heap.size (by simp; omega) (.inr (by omega))).trans r4
  have t5 := (ho5.block w3.heap.size (by simp) (.inr (by omega))).trans t4
  clear s4 k4 r4 t4 ho5 s5
  obtain ⟨c, hc⟩ : ∃ c, c = 1 + g := ⟨_, rfl⟩
  have hc1 : 1 ≤ c ∧ c ≤ Q + 1 := by omega
  have i3 : IntKind.i8.wrap (1 + g) = c := by rw [IntWalk.i8_in _ (by omega), hc]
  have Hc := Lib.hid hc; clear hc
  have zne : w.heap.size ≠ w3.heap.size := by omega
  obtain ⟨g0, g1, g2, gf⟩ := st_cells t5
  have t6 : (w5.setCell ⟨w3.heap.size, 2, none⟩ (.int .i8 c)).heap[w3.heap.size]? = some (.cells #[.int .i8 a, .int .i8 b, .int .i8 c] 26 (0, 0)) := heap_setCell_same w5 _ 2 _ _ _ t5
  have r6 : (w5.setCell ⟨w3.heap.size, 2, none⟩ (.int .i8 c)).heap[w.heap.size]? = some (.cells #[.int .i8 0, .int .i8 0, .int .i8 0] 26 (0, 0)) := (Below.heap_setCell w5 ⟨w3.heap.size, 2, none⟩ _ _ zne).trans r5
  have k6 := k5.setCell (p := ⟨w3.heap.size, 2, none⟩) (by show _ ≤ w3.heap.size; omega) (.int .i8 c)
  clear t5 r5 k5
  by_cases hcc : 20 < c
  · have hst : StOk a b 20 := ⟨by omega, by omega, by omega, by omega, by omega, by omega, by
      have : b * 19 ≤ b * Q := Int.mul_le_mul_of_nonneg_left (by omega) (by omega)
      show a + b * 19 ≤ 36
      omega⟩
    have Hst := Lib.hid hst; clear hst
    obtain ⟨h0, h1, h2, hf6⟩ := st_cells t6
    have t7 : ((w5.setCell ⟨w3.heap.size, 2, none⟩ (.int .i8 c)).setCell ⟨w3.heap.size, 2, none⟩ (.int .i8 20)).heap[w3.heap.size]? = some (.cells #[.int .i8 a, .int .i8 b, .int .i8 20] 26 (0, 0)) := heap_setCell_same _ _ 2 _ _ _ t6
    have r7 : ((w5.setCell ⟨w3.heap.size, 2, none⟩ (.int .i8 c)).setCell ⟨w3.heap.size, 2, none⟩ (.int .i8 20)).heap[w.heap.size]? = some (.cells #[.int .i8 0, .int .i8 0, .int .i8 0] 26 (0, 0)) := (Below.heap_setCell _ ⟨w3.heap.size, 2, none⟩ _ _ zne).trans r6
    have k7 := k6.setCell (p := ⟨w3.heap.size, 2, none⟩) (by show _ ≤ w3.heap.size; omega) (.int .i8 20)
    clear t6 r6 k6
    obtain ⟨d07, d17, d27, df7⟩ := st_cells t7
    obtain ⟨e07, e17, e27, ef7⟩ := st_cells r7
    have ra := heap_setCell_same ((w5.setCell ⟨w3.heap.size, 2, none⟩ (.int .i8 c)).setCell ⟨w3.heap.size, 2, none⟩ (.int .i8 20)) w.heap.size 0 _ _ (.int .i8 a) r7
    have rb := heap_setCell_same _ w.heap.size 1 _ _ (.int .i8 b) ra
    have rc := heap_setCell_same _ w.heap.size 2 _ _ (.int .i8 20) rb
    simp only [List.setIfInBounds_toArray, List.set_cons_zero, List.set_cons_succ] at ra rb rc
    obtain ⟨a0, a1, a2, af⟩ := st_cells ra
    obtain ⟨b0, b1, b2, bf⟩ := st_cells rb
    obtain ⟨c0, c1, c2, cf⟩ := st_cells rc
    have K := Lib.hid (((k7.setCell (p := ⟨w.heap.size, 0, none⟩) (by show _ ≤ w.heap.size; omega) (.int .i8 a)).setCell (p := ⟨w.heap.size, 1, none⟩) (by show _ ≤ w.heap.size; omega) (.int .i8 b)).setCell (p := ⟨w.heap.size, 2, none⟩) (by show _ ≤ w.heap.size; omega) (.int .i8 20))
    clear ra rb rc t7 r7 k7
    go_wp2_with fail
    exact bodyPost_ret (v := stV a b 20) (by simp [results, Tryz.results27, go_sem, c0, c1, c2, stV]) rfl ⟨a, b, 20, rfl, Hst.out, K.out⟩
  · have hst : StOk a b c := ⟨by omega, by omega, by omega, by omega, by omega, by omega, by
      have : b * (c - 1) ≤ b * Q := Int.mul_le_mul_of_nonneg_left (by omega) (by omega)
      omega⟩
    have Hst := Lib.hid hst; clear hst
    obtain ⟨d06, d16, d26, df6⟩ := st_cells t6
    obtain ⟨e06, e16, e26, ef6⟩ := st_cells r6
    have ra := heap_setCell_same (w5.setCell ⟨w3.heap.size, 2, none⟩ (.int .i8 c)) w.heap.size 0 _ _ (.int .i8 a) r6
    have rb := heap_setCell_same _ w.heap.size 1 _ _ (.int .i8 b) ra
    have rc := heap_setCell_same _ w.heap.size 2 _ _ (.int .i8 c) rb
    simp only [List.setIfInBounds_toArray, List.set_cons_zero, List.set_cons_succ] at ra rb rc
    obtain ⟨a0, a1, a2, af⟩ := st_cells ra
    obtain ⟨b0, b1, b2, bf⟩ := st_cells rb
    obtain ⟨c0, c1, c2, cf⟩ := st_cells rc
    have K := Lib.hid (((k6.setCell (p := ⟨w.heap.size, 0, none⟩) (by show _ ≤ w.heap.size; omega) (.int .i8 a)).setCell (p := ⟨w.heap.size, 1, none⟩) (by show _ ≤ w.heap.size; omega) (.int .i8 b)).setCell (p := ⟨w.heap.size, 2, none⟩) (by show _ ≤ w.heap.size; omega) (.int .i8 c))
    clear ra rb rc t6 r6 k6
    go_wp2_with fail
    exact bodyPost_ret (v := stV a b c) (by simp [results, Tryz.results27, go_sem, c0, c1, c2, stV]) rfl ⟨a, b, c, rfl, Hst.out, K.out⟩
end Go.Proofs.YtnlcjbobfhmnmabGreatDoor

namespace Go.Proofs.YtnlcjbobfhmnmabGreatDoor
open Go.RowKit

set_option maxRecDepth 100000 in
set_option maxHeartbeats 1000000 in
theorem P6Strip_any (A : Option Addr) (n cap : Nat) (bs : Nat → Int) (hn : n ≤ 1048576) (hbs : ∀ j, j < n → 0 ≤ bs j ∧ bs j ≤ 255) (w : World) (hB : BytesIn w A n bs) :
    Calls Tryz.prog 5 #[.slice A n cap] w (StripOut w w.heap.size) := by
  have k1 : Below w.heap.size w (w.alloc (.cells #[.int .i8 0, .int .i8 0, .int .i8 0] 26)) := (Below.refl _ _).alloc (Nat.le_refl _) _
  have r1 : (w.alloc (.cells #[.int .i8 0, .int .i8 0, .int .i8 0] 26)).heap[w.heap.size]? = some (.cells #[.int .i8 0, .int .i8 0, .int .i8 0] 26 (0, 0)) := heap_alloc_new w _
  have k0 := k1.alloc (by simp) (.cells #[.slice A n cap, .int .i64 0, .int .u64 0] 87)
  have r0 := (Below.heap_alloc (w.alloc (.cells #[.int .i8 0, .int .i8 0, .int .i8 0] 26)) (.cells #[.slice A n cap, .int .i64 0, .int .u64 0] 87) w.heap.size (by simp)).trans r1
  have hs0 := srcAt_new (w.alloc (.cells #[.int .i8 0, .int .i8 0, .int .i8 0] 26)) A n cap
  rw [World.size_alloc] at hs0
  have hd := l05Drawn_any (w.heap.size + 1) A n cap bs hn hbs _ hs0 (hB.below k0 (Nat.le_refl _)) (fun h a e => by have := hB.lt h a e; omega)
  have Hd := Lib.hid hd; clear hd hbs
  go_enter Tryz.func5, Tryz.ntmps5
  go_wp2_with fail
  refine (l00From_any _ _ _ _).mono ?_; rintro e w1 ⟨rfl, rfl⟩
  go_wp2_with fail
  refine Hd.out.mono ?_; rintro e w2 ⟨a, b, c, rfl, ho, hb⟩
  have r2 := (hb.block w.heap.size (Nat.lt_succ_self _)).trans r0
  have k2 := k0.trans (hb.mono (Nat.le_succ _))
  obtain ⟨e0, e1, e2, ef⟩ := st_cells r2
  have ra := heap_setCell_same w2 w.heap.size 0 _ _ (.int .i8 a) r2
  have rb := heap_setCell_same _ w.heap.size 1 _ _ (.int .i8 b) ra
  have rc := heap_setCell_same _ w.heap.size 2 _ _ (.int .i8 c) rb
  simp only [List.setIfInBounds_toArray, List.set_cons_zero, List.set_cons_succ] at ra rb rc
  obtain ⟨a0, a1, a2, af⟩ := st_cells ra
  obtain ⟨b0, b1, b2, bf⟩ := st_cells rb
  obtain ⟨c0, c1, c2, cf⟩ := st_cells rc
  have K := Lib.hid (((k2.setCell (p := ⟨w.heap.size, 0, none⟩) (Nat.le_refl _) (.int .i8 a)).setCell (p := ⟨w.heap.size, 1, none⟩) (Nat.le_refl _) (.int .i8 b)).setCell (p := ⟨w.heap.size, 2, none⟩) (Nat.le_refl _) (.int .i8 c))
  clear ra rb rc r2 k2 r0 k0 r1 k1 hs0 hb
  have Hst := Lib.hid ho; clear ho
  go_wp2_with fail
  exact bodyPost_ret (v := stV a b c) (by simp [results, Tryz.results5, go_sem, c0, c1, c2, stV]) rfl ⟨a, b, c, rfl, Hst.out, K.out⟩

theorem P6Paper_any (A : Option Addr) (n cap : Nat) (bs : Nat → Int) (hn : n ≤ 1048576) (hbs : ∀ j, j < n → 0 ≤ bs j ∧ bs j ≤ 255) (w : World) (hB : BytesIn w A n bs) :
    Calls Tryz.prog 6 #[.slice A n cap] w (CurveOut w w.heap.size) := by
  have k0 : Below w.heap.size w (w.alloc (.cells #[.slice A n cap, .int .i64 0, .int .u64 0] 87)) := (Below.refl _ _).alloc (Nat.le_refl _) _
  have hs0 := srcAt_new w A n cap
  have hd := l02Drawn_any w.heap.size A n cap bs hn hbs _ hs0 (hB.below k0 (Nat.le_refl _)) hB.lt
  have Hd := Lib.hid hd; clear hd hbs
  go_enter Tryz.func6, Tryz.ntmps6
  go_wp2_with fail
  refine (l00From_any _ _ _ _).mono ?_; rintro e w1 ⟨rfl, rfl⟩
  go_wp2_with fail
  refine Hd.out.mono ?_; rintro e w2 ⟨g, m, cp, xs, ys, rfl, h1, h2, h3, h4, h5, h6⟩
  go_wp2_with fail
  go_ret
  exact ⟨g, m, cp, xs, ys, rfl, h1, h2, h3, h4, by simp at h5; omega, k0.trans h6⟩
end Go.Proofs.YtnlcjbobfhmnmabGreatDoor

/-
  A strip read from its text: by the program and by the reference, for every text of at most 1048576 bytes. Condition of the program's: its variables hold their own errors, and the library's two theirs.
-/
import Derived.Test.YtkeigoighebjpaaDoorLibEnv
import Derived.Test.YtkeigoighebjpaaDoorFiner
import Derived.Test.YtkeigoighebjpaaDoorCut
namespace Go.Proofs.YtkeigoighebjpaaDoor
open Go.RowKit

theorem strs3S {w : World} {L U : Nat} {v : Value} {l : List (List UInt8)} (h : Mine w L U 9 1 v l.length (fun j => strV (l.getD j []))) {a b c : List UInt8} (hl : l = [a, b, c]) :
    ∃ g cap, v = .slice (some ⟨g, 0, none⟩) 3 cap ∧ L ≤ g ∧ g < U ∧ w.cell? ⟨g, 0, none⟩ = some (strV a) ∧ w.cell? ⟨g, 1, none⟩ = some (strV b) ∧ w.cell? ⟨g, 2, none⟩ = some (strV c) := by
  subst hl
  obtain ⟨A, cap, rfl, h⟩ := h
  rcases h with h | ⟨g, m, h, rfl, h1, h2, h3, h4, h5⟩
  · cases h
  · have h3' : 3 ≤ m := by simpa using h3
    refine ⟨g, cap, rfl, h1, h2, ?_, ?_, ?_⟩
    · rw [h4.cell (by omega), h5 0 (by simp)]; rfl
    · rw [h4.cell (by omega), h5 1 (by simp)]; rfl
    · rw [h4.cell (by omega), h5 2 (by simp)]; rfl
theorem numS_any (l : List UInt8) (hl : l.length ≤ 1048576) (w : World) :
    Calls Tryd.prog 53 #[strV l] w fun e w' => e = .returned (.tuple #[.int .i64 (numR l), .bool (numOk l)]) ∧ w = w' := l01Number_any ⟨l.toArray⟩ (show l.length ≤ 1048576 from hl) w
theorem numR_bd (l : List UInt8) : 0 ≤ numR l ∧ numR l < 1000000000 := by
  unfold numR
  split
  · have := numVal_bd (l := l) (by assumption); omega
  · omega
/-- What comes back: a strip, and a code. -/
def StpOut (v : Value) (c : Int) (w : World) (e : Ending) (w' : World) : Prop := e = .returned (.tuple #[v, .int .i64 c]) ∧ Below w.heap.size w w'
/-- What three words say. -/
theorem rs_cases {l : List UInt8} (h3 : (splitL 32 l).length = 3) :
    (numOk (rsX l) = false ∧ rsC l = 5 ∧ rsV l = stV 0 0 0) ∨ (numOk (rsX l) = true ∧ numOk (rsY l) = false ∧ rsC l = 5 ∧ rsV l = stV 0 0 0) ∨ (numOk (rsX l) = true ∧ numOk (rsY l) = true ∧ numOk (rsZ l) = false ∧ rsC l = 5 ∧ rsV l = stV 0 0 0)
    ∨ ((numOk (rsX l) = true ∧ numOk (rsY l) = true ∧ numOk (rsZ l) = true) ∧
      ((100 < numR (rsX l) ∧ rsC l = 5 ∧ rsV l = stV 0 0 0) ∨ (¬ 100 < numR (rsX l) ∧ 100 < numR (rsY l) ∧ rsC l = 5 ∧ rsV l = stV 0 0 0) ∨ (¬ 100 < numR (rsX l) ∧ ¬ 100 < numR (rsY l) ∧ 100 < numR (rsZ l) ∧ rsC l = 5 ∧ rsV l = stV 0 0 0)
      ∨ ((¬ 100 < numR (rsX l) ∧ ¬ 100 < numR (rsY l) ∧ ¬ 100 < numR (rsZ l)) ∧ ((okT (numR (rsX l)) (numR (rsY l)) (numR (rsZ l)) = false ∧ rsC l = 5 ∧ rsV l = stV 0 0 0) ∨ (okT (numR (rsX l)) (numR (rsY l)) (numR (rsZ l)) = true ∧ rsC l = 0 ∧ rsV l = stV (numR (rsX l)) (numR (rsY l)) (numR (rsZ l))))))) := by
  rcases hx : numOk (rsX l) with _ | _
  · exact .inl ⟨rfl, rs_no (by simp [rsGood, hx])⟩
  rcases hy : numOk (rsY l) with _ | _
  · exact .inr (.inl ⟨rfl, rfl, rs_no (by simp [rsGood, hy])⟩)
  rcases hz : numOk (rsZ l) with _ | _
  · exact .inr (.inr (.inl ⟨rfl, rfl, rfl, rs_no (by simp [rsGood, hz])⟩))
  refine .inr (.inr (.inr ⟨⟨rfl, rfl, rfl⟩, ?_⟩))
  have ex : numR (rsX l) = numVal (rsX l) := by simp [numR, hx]
  have ey : numR (rsY l) = numVal (rsY l) := by simp [numR, hy]
  have ez : numR (rsZ l) = numVal (rsZ l) := by simp [numR, hz]
  have hg : rsGood l = okT (numR (rsX l)) (numR (rsY l)) (numR (rsZ l)) := by rw [ex, ey, ez]; simp [rsGood, h3, hx, hy, hz]
  have hyes : rsGood l = true → rsV l = stV (numR (rsX l)) (numR (rsY l)) (numR (rsZ l)) := fun h => by rw [(rs_yes h).2, ex, ey, ez]
  have hno : ∀ (P : Prop), (rsGood l = true → ¬ P) → P → rsC l = 5 ∧ rsV l = stV 0 0 0 := fun P h hP => by
    rcases hh : rsGood l with _ | _
    · exact rs_no hh
    · exact absurd hP (h hh)
  have hb : rsGood l = true → StOk (numR (rsX l)) (numR (rsY l)) (numR (rsZ l)) := fun h => okT_ok (hg ▸ h)
  by_cases p1 : 100 < numR (rsX l)
  · exact .inl ⟨p1, hno _ (fun h => by have := (hb h).a1; omega) p1⟩
  by_cases p2 : 100 < numR (rsY l)
  · exact .inr (.inl ⟨p1, p2, hno _ (fun h => by have := (hb h).b1; omega) p2⟩)
  by_cases p3 : 100 < numR (rsZ l)
  · exact .inr (.inr (.inl ⟨p1, p2, p3, hno _ (fun h => by have := (hb h).c1; omega) p3⟩))
  refine .inr (.inr (.inr ⟨⟨p1, p2, p3⟩, ?_⟩))
  rcases hk : okT (numR (rsX l)) (numR (rsY l)) (numR (rsZ l)) with _ | _
  · exact .inl ⟨rfl, rs_no (hg.trans hk)⟩
  · exact .inr ⟨rfl, (rs_yes (hg.trans hk)).1, hyes (hg.trans hk)⟩

set_option maxRecDepth 100000 in
set_option maxHeartbeats 4000000 in
theorem specReadStrip_any (s : ByteArray) (hs : s.size ≤ 1048576) (w : World) :
    Calls Tryd.prog 27 #[.string s] w (StpOut (rsV s.data.toList) (rsC s.data.toList) w) := by
  have hsp := l01Split_any s hs
  have k0 : Below w.heap.size w (w.alloc (.cells #[.int .i8 0, .int .i8 0, .int .i8 0] 50)) := (Below.refl _ _).alloc (Nat.le_refl _) _
  have R0 := ResAt.new w 50 0 0 0
  have hlen : s.data.toList.length = s.size := by simp
  generalize s.data.toList = l at hsp hlen ⊢
  by_cases h3 : (splitL 32 l).length = 3
  rotate_left
  · have hg : rsGood l = false := by simp [rsGood, h3]
    rw [(rs_no hg).1, (rs_no hg).2]
    have h3b : (((splitL 32 l).length : Int) != 3) = true := by simp; omega
    generalize splitL 32 l = ws at hsp h3b
    have Hsp := Lib.hid hsp; clear hsp h3 hg
    go_enter Tryd.func27, Tryd.ntmps27
    go_wp2_with fail
    refine (Hsp.out _).mono ?_; rintro e w1 ⟨v, rfl, hm, hb1⟩
    obtain ⟨A, cap, rfl, hm⟩ := hm
    have k1 := k0.trans (hb1.mono k0.size)
    have R1 := R0.below hb1 R0.at'.lt
    have hlt := R1.at'.lt
    obtain ⟨⟨r0, r1, r2⟩, fz⟩ := R1
    have z0 := fz 0; have z1 := fz 1; have z2 := fz 2
    clear fz R0 hb1 k0
    go_wp2_with fail
    exact bodyPost_ret (v := .tuple #[stV 0 0 0, .int .i64 5]) (by simp [results, Tryd.results27, go_sem, r0, r1, r2]) rfl ⟨rfl, by (repeat (first | exact Below.refl _ _ | assumption | apply Below.drew | apply below_drewL | (refine Below.alloc ?_ (by first | omega | (simp; done) | (simp; omega)) _) | (refine Below.setCell ?_ (by first | omega | (simp; done) | (simp; omega)) _)))⟩
  have hw := (rs_words h3).1
  have hrl := rs_len l
  have hcase := rs_cases h3
  have f1 := fun W => numS_any (rsX l) (by omega) W
  have f2 := fun W => numS_any (rsY l) (by omega) W
  have f3 := fun W => numS_any (rsZ l) (by omega) W
  have b1 := numR_bd (rsX l)
  have b2 := numR_bd (rsY l)
  have b3 := numR_bd (rsZ l)
  generalize rsV l = V at hcase ⊢
  generalize rsC l = C at hcase ⊢
  generalize numR (rsX l) = n1 at *
  generalize numR (rsY l) = n2 at *
  generalize numR (rsZ l) = n3 at *
  generalize numOk (rsX l) = o1 at *
  generalize numOk (rsY l) = o2 at *
  generalize numOk (rsZ l) = o3 at *
  generalize rsX l = X at *
  generalize rsY l = Y at *
  generalize rsZ l = Z at *
  have F1 := Lib.hid f1; clear f1
  have F2 := Lib.hid f2; clear f2
  have F3 := Lib.hid f3; clear f3
  have Hcase := Lib.hid hcase; clear hcase
  have Hsp := Lib.hid hsp; clear hsp
  have Hw := Lib.hid hw; clear hw
  clear h3 hrl hlen
  obtain ⟨p1, q1⟩ := b1
  obtain ⟨p2, q2⟩ := b2
  obtain ⟨p3, q3⟩ := b3
  go_enter Tryd.func27, Tryd.ntmps27
  go_wp2_with fail
  refine (Hsp.out _).mono ?_; rintro e w1 ⟨v, rfl, hm, hb1⟩
  obtain ⟨g, cap, rfl, hg1, hg2, t0, t1, t2⟩ := strs3S hm Hw.out
  have k1 := k0.trans (hb1.mono k0.size)
  have R1 := R0.below hb1 R0.at'.lt
  clear hm hb1 R0 k0
  go_wp2_with fail
  refine (F1.out _).mono ?_; rintro e w2 ⟨rfl, rfl⟩
  go_wp2_with fail
  refine (F2.out _).mono ?_; rintro e w2 ⟨rfl, rfl⟩
  go_wp2_with fail
  refine (F3.out _).mono ?_; rintro e w2 ⟨rfl, rfl⟩
  clear t0 t1 t2
  rcases Hcase.out with ⟨rfl, rfl, rfl⟩ | ⟨rfl, rfl, rfl, rfl⟩ | ⟨rfl, rfl, rfl, rfl, rfl⟩ | ⟨⟨rfl, rfl, rfl⟩, ⟨d1, rfl, rfl⟩ | ⟨d1, d2, rfl, rfl⟩ | ⟨d1, d2, d3, rfl, rfl⟩ | ⟨⟨d1, d2, d3⟩, hk⟩⟩
  iterate 6
    · have hlt := R1.at'.lt
      obtain ⟨⟨r0, r1, r2⟩, fz⟩ := R1
      have z0 := fz 0; have z1 := fz 1; have z2 := fz 2
      clear fz
      go_wp2_with fail
      exact bodyPost_ret (v := .tuple #[stV 0 0 0, .int .i64 5]) (by simp [results, Tryd.results27, go_sem, r0, r1, r2]) rfl ⟨rfl, by (repeat (first | exact Below.refl _ _ | assumption | apply Below.drew | apply below_drewL | (refine Below.alloc ?_ (by first | omega | (simp; done) | (simp; omega)) _) | (refine Below.setCell ?_ (by first | omega | (simp; done) | (simp; omega)) _)))⟩
  have i1 : IntKind.i8.wrap n1 = n1 := IntWalk.i8_in _ (by omega)
  have i2 : IntKind.i8.wrap n2 = n2 := IntWalk.i8_in _ (by omega)
  have i3 : IntKind.i8.wrap n3 = n3 := IntWalk.i8_in _ (by omega)
  have hv := fun W => l05Ok_any n1 n2 n3 (by omega) (by omega) (by omega) (by omega) (by omega) (by omega) W
  have kq := (Below.refl w1.heap.size w1).alloc (Nat.le_refl _) (.cells #[.int .i8 n1, .int .i8 n2, .int .i8 n3] 50)
  have S2 := StAt.new w1 50 n1 n2 n3
  have k2 := k1.trans (kq.mono k1.size)
  have R2 := R1.below kq R1.at'.lt
  clear R1 k1
  rcases hk with ⟨hk, rfl, rfl⟩ | ⟨hk, rfl, rfl⟩
  · rw [hk] at hv
    have Hv := Lib.hid hv; clear hv hk
    go_wp2_with fail
    generalize w1.alloc (.cells #[.int .i8 n1, .int .i8 n2, .int .i8 n3] 50) = W at *
    refine (Hv.out _).mono ?_; rintro e w3 ⟨rfl, hb3⟩
    have k3 := k2.trans (hb3.mono k2.size)
    have R3 := R2.below hb3 R2.at'.lt
    have hlt := R3.at'.lt
    obtain ⟨⟨r0, r1, r2⟩, fz⟩ := R3
    have z0 := fz 0; have z1 := fz 1; have z2 := fz 2
    clear fz R2 hb3 k2 kq
    go_wp2_with fail
    exact bodyPost_ret (v := .tuple #[stV 0 0 0, .int .i64 5]) (by simp [results, Tryd.results27, go_sem, r0, r1, r2]) rfl ⟨rfl, by (repeat (first | exact Below.refl _ _ | assumption | apply Below.drew | apply below_drewL | (refine Below.alloc ?_ (by first | omega | (simp; done) | (simp; omega)) _) | (refine Below.setCell ?_ (by first | omega | (simp; done) | (simp; omega)) _)))⟩
  · rw [hk] at hv
    have Hv := Lib.hid hv; clear hv hk
    go_wp2_with fail
    generalize w1.alloc (.cells #[.int .i8 n1, .int .i8 n2, .int .i8 n3] 50) = W at *
    refine (Hv.out _).mono ?_; rintro e w3 ⟨rfl, hb3⟩
    have k3 := k2.trans (hb3.mono k2.size)
    have R3 := R2.below hb3 R2.at'.lt
    have hlt := R3.at'.lt
    obtain ⟨s0, s1, s2⟩ := S2.below hb3 S2.lt
    obtain ⟨⟨r0, r1, r2⟩, fz⟩ := R3
    have z0 := fz 0; have z1 := fz 1; have z2 := fz 2
    clear fz R2 hb3 k2 kq
    go_wp2_with fail
    exact bodyPost_ret (v := .tuple #[stV n1 n2 n3, .int .i64 0]) (by simp [results, Tryd.results27, go_sem, r0, r1, r2]) rfl ⟨rfl, by (repeat (first | exact Below.refl _ _ | assumption | apply Below.drew | apply below_drewL | (refine Below.alloc ?_ (by first | omega | (simp; done) | (simp; omega)) _) | (refine Below.setCell ?_ (by first | omega | (simp; done) | (simp; omega)) _)))⟩
end Go.Proofs.YtkeigoighebjpaaDoor

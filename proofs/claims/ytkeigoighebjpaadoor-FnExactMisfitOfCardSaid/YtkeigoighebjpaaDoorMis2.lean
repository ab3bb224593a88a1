/-
  The misfit of a paper, with its code: by the program, for every list of at most 1048576 points. Condition: its variables hold their own errors.
-/
import Derived.Test.YtkeigoighebjpaaDoorMis
namespace Go.Proofs.YtkeigoighebjpaaDoor
open Go.RowKit

section
variable (g n cap : Nat) (xs ys : Nat → Int) (a b c e : Int)
set_option maxRecDepth 100000 in
set_option maxHeartbeats 4000000 in
theorem misfitOf_any (s : Ers) (hn : n ≤ 1048576) (hs : SmallP n xs ys) (w : World) (hr : PtRow w g n xs ys) (hE : ErrEnv s w) :
    Calls Tryd.prog 35 #[.slice (some ⟨g, 0, none⟩) n cap, .agg #[.int .i64 a, .int .i64 b, .int .i64 c, .int .i64 e]] w (CodedX s (.agg #[.int .i64 (ifOk (misC n xs ys a b c e) (leaK (shdF n xs ys a) c : Nat)), .int .i64 (ifOk (misC n xs ys a b c e) (misV n xs ys a b c e))]) (misC n xs ys a b c e) w.heap.size w) := by
  have hlt := hr.lt
  have hk := fun W hW => ValidCurve_any g n cap xs ys hn hs W hW
  have hp := fun W => areOnScale_any a b c e W
  have k0 : Below w.heap.size w ((w.alloc (.cells #[.int .i64 a, .int .i64 b, .int .i64 c, .int .i64 e] 72)).alloc (.cells #[.int .i64 0, .int .i64 0] 66)) := ((Below.refl _ _).alloc (Nat.le_refl _) _).alloc (by simp) _
  have A0 := (FourAt.new w 72 a b c e).below ((Below.refl (w.heap.size + 1) _).alloc (by simp) (.cells #[.int .i64 0, .int .i64 0] 66)) (by omega)
  have P0 := PairAt.new (w.alloc (.cells #[.int .i64 a, .int .i64 b, .int .i64 c, .int .i64 e] 72)) 66 0 0
  rw [show (w.alloc (.cells #[.int .i64 a, .int .i64 b, .int .i64 c, .int .i64 e] 72)).heap.size = w.heap.size + 1 by simp] at P0
  have hgi := World.block_lt_of_cell? w _ hE.c_einvalid
  have hgr := World.block_lt_of_cell? w _ hE.c_erange
  have hg1 : 0 ≠ w.heap.size + 1 := by
    have h : 0 < w.heap.size := hgi
    omega
  have hg2 : w.heap.size + 1 ≠ 0 := fun e => hg1 e.symm
  have hg3 : 1 ≠ w.heap.size + 1 := by
    have h : 1 < w.heap.size := hgr
    omega
  have hg4 : w.heap.size + 1 ≠ 1 := fun e => hg3 e.symm
  clear hgi hgr
  rcases h : validC n xs ys with _ | _
  · rw [mis_1 h, ifOk_1, ifOk_1]
    rw [h] at hk
    have Hk := Lib.hid hk; clear hk h hp
    go_enter Tryd.func35, Tryd.ntmps35
    go_wp2_with fail
    generalize ((w.alloc (.cells #[.int .i64 a, .int .i64 b, .int .i64 c, .int .i64 e] 72)).alloc (.cells #[.int .i64 0, .int .i64 0] 66)) = W at *
    refine (Hk.out _ (hr.below k0 hlt)).mono ?_; rintro r w1 ⟨rfl, hb1⟩
    have k1 := k0.trans (hb1.mono k0.size)
    have P1 := P0.below hb1 P0.lt
    have hlt1 := P1.lt
    obtain ⟨r0, r1, fz⟩ := P1
    have z0 := fz 0; have z1 := fz 1
    have ce := (hE.below k1 (Nat.le_refl _)).c_einvalid
    clear fz P0 A0 hb1 k0
    go_wp2_with fail
    go_region
    go_wp2_with fail
    exact bodyPost_ret (v := .tuple #[.agg #[.int .i64 0, .int .i64 0], errV s.einvalid]) (by simp [results, Tryd.results35, go_sem, r0, r1]) rfl ⟨_, .einvalid, rfl, by (repeat (first | exact Below.refl _ _ | assumption | apply Below.drew | apply below_drewL | (refine Below.alloc ?_ (by first | omega | (simp; done) | (simp; omega)) _) | (refine Below.setCell ?_ (by first | omega | (simp; done) | (simp; omega)) _)))⟩
  rw [h] at hk
  have Hk := Lib.hid hk; clear hk
  rcases h3 : fourB a b c e with _ | _
  · rw [mis_2 h h3, ifOk_2, ifOk_2]
    rw [h3] at hp
    have Hp := Lib.hid hp; clear hp h h3
    go_enter Tryd.func35, Tryd.ntmps35
    go_wp2_with fail
    generalize ((w.alloc (.cells #[.int .i64 a, .int .i64 b, .int .i64 c, .int .i64 e] 72)).alloc (.cells #[.int .i64 0, .int .i64 0] 66)) = W at *
    refine (Hk.out _ (hr.below k0 hlt)).mono ?_; rintro r w1 ⟨rfl, hb1⟩
    have k1 := k0.trans (hb1.mono k0.size)
    have P1 := P0.below hb1 P0.lt
    obtain ⟨a0, a1, a2, a3⟩ := A0.below hb1 A0.lt
    clear P0 A0 hb1 k0
    go_wp2_with fail
    refine (Hp.out _).mono ?_; rintro r w2 ⟨rfl, hb2⟩
    have k2 := k1.trans (hb2.mono k1.size)
    have P2 := P1.below hb2 P1.lt
    have hlt2 := P2.lt
    obtain ⟨r0, r1, fz⟩ := P2
    have z0 := fz 0; have z1 := fz 1
    have ce := (hE.below k2 (Nat.le_refl _)).c_erange
    clear fz P1 a0 a1 a2 a3 hb2 k1
    go_wp2_with fail
    go_region
    go_wp2_with fail
    exact bodyPost_ret (v := .tuple #[.agg #[.int .i64 0, .int .i64 0], errV s.erange]) (by simp [results, Tryd.results35, go_sem, r0, r1]) rfl ⟨_, .erange, rfl, by (repeat (first | exact Below.refl _ _ | assumption | apply Below.drew | apply below_drewL | (refine Below.alloc ?_ (by first | omega | (simp; done) | (simp; omega)) _) | (refine Below.setCell ?_ (by first | omega | (simp; done) | (simp; omega)) _)))⟩
  rw [mis_0 h h3]
  rw [h3] at hp
  have Hp := Lib.hid hp; clear hp
  have hf := fun W hW hE => fitOf_any g n cap xs ys a b c e s hn (validC_crv h).1 h3 W hW hE
  generalize ifOk (leaC (shdF n xs ys a) c) (leaK (shdF n xs ys a) c : Nat) = V1 at *
  generalize ifOk (leaC (shdF n xs ys a) c) (misV n xs ys a b c e) = V2 at *
  generalize leaC (shdF n xs ys a) c = C at *
  have Hf := Lib.hid hf; clear hf h h3
  go_enter Tryd.func35, Tryd.ntmps35
  go_wp2_with fail
  generalize ((w.alloc (.cells #[.int .i64 a, .int .i64 b, .int .i64 c, .int .i64 e] 72)).alloc (.cells #[.int .i64 0, .int .i64 0] 66)) = W at *
  refine (Hk.out _ (hr.below k0 hlt)).mono ?_; rintro r w1 ⟨rfl, hb1⟩
  have k1 := k0.trans (hb1.mono k0.size)
  have P1 := P0.below hb1 P0.lt
  have A1 := A0.below hb1 A0.lt
  obtain ⟨a0, a1, a2, a3⟩ := A1
  clear P0 A0 hb1 k0
  go_wp2_with fail
  refine (Hp.out _).mono ?_; rintro r w2 ⟨rfl, hb2⟩
  have k2 := k1.trans (hb2.mono k1.size)
  have P2 := P1.below hb2 P1.lt
  obtain ⟨a0, a1, a2, a3⟩ := FourAt.below ⟨a0, a1, a2, a3⟩ hb2 (World.block_lt_of_cell? w1 _ a0)
  clear P1 hb2 k1
  go_wp2_with fail
  refine (Hf.out _ (hr.below k2 hlt) (hE.below k2 (Nat.le_refl _))).mono ?_; rintro r w3 ⟨v, hv, rfl, hb3⟩
  have k3 := k2.trans (hb3.mono k2.size)
  have P3 := P2.below hb3 P2.lt
  have hlt3 := P3.lt
  obtain ⟨r0, r1, fz⟩ := P3
  have z0 := fz 0; have z1 := fz 1
  clear fz P2 a0 a1 a2 a3 hb3 k2
  go_wp2_with fail
  exact bodyPost_ret (v := .tuple #[.agg #[.int .i64 V1, .int .i64 V2], v]) (by simp [results, Tryd.results35, go_sem, r0, r1]) rfl ⟨_, hv, rfl, by (repeat (first | exact Below.refl _ _ | assumption | apply Below.drew | apply below_drewL | (refine Below.alloc ?_ (by first | omega | (simp; done) | (simp; omega)) _) | (refine Below.setCell ?_ (by first | omega | (simp; done) | (simp; omega)) _)))⟩

set_option maxRecDepth 100000 in
set_option maxHeartbeats 1000000 in
theorem MisfitOf_any (s : Ers) (hn : n ≤ 1048576) (hs : SmallP n xs ys) (w : World) (hr : PtRow w g n xs ys) (hE : ErrEnv s w) :
    Calls Tryd.prog 11 #[.slice (some ⟨g, 0, none⟩) n cap, .int .i64 a, .int .i64 b, .int .i64 c, .int .i64 e] w fun r w' => r = .returned (.tuple #[.int .i64 (ifOk (misC n xs ys a b c e) (leaK (shdF n xs ys a) c : Nat)), .int .i64 (ifOk (misC n xs ys a b c e) (misV n xs ys a b c e)), .int .i64 (misC n xs ys a b c e)]) ∧ Below w.heap.size w w' := by
  have hk := fun W hr hE => misfitOf_any g n cap xs ys a b c e s hn hs W hr hE
  generalize ifOk (misC n xs ys a b c e) (leaK (shdF n xs ys a) c : Nat) = V at hk ⊢
  generalize ifOk (misC n xs ys a b c e) (misV n xs ys a b c e) = V2 at hk ⊢
  generalize misC n xs ys a b c e = C at hk ⊢
  have Hk := Lib.hid hk; clear hk
  go_enter Tryd.func11, Tryd.ntmps11
  go_wp2_with fail
  refine (Hk.out _ hr hE).mono ?_; rintro r w1 ⟨v, hv, rfl, hb1⟩
  go_wp2_with fail
  have hE1 := (hE.below hb1 (Nat.le_refl _)).alloc (.cells #[.int .i64 V, .int .i64 V2] 66)
  have hB : Below w.heap.size w (w1.alloc (.cells #[.int .i64 V, .int .i64 V2] 66)) := hb1.alloc hb1.size _
  have d0 : (w1.alloc (.cells #[.int .i64 V, .int .i64 V2] 66)).cell? ⟨w1.heap.size, 0, none⟩ = some (.int .i64 V) := by simp
  have d1 : (w1.alloc (.cells #[.int .i64 V, .int .i64 V2] 66)).cell? ⟨w1.heap.size, 1, none⟩ = some (.int .i64 V2) := by simp
  generalize w1.alloc (.cells #[.int .i64 V, .int .i64 V2] 66) = W at hE1 hB d0 d1 ⊢
  refine wp_region_quietD (Below W.heap.size W) (by kernel_rfl) (by kernel_rfl) (below_drew1 _) ?_
  have n0 := below_nonempty W
  have e0 := inCell d0
  have e1 := inCell d1
  repeat (go_big_quiet_step ((go_at_call 36; exact inCallS _ (codeOf_any hv _ (hE1.below (WIn.ok _) (Nat.le_refl _))))))
  refine wpQuiet_nil ?_
  rintro _ ⟨x, rfl⟩
  go_wp2
  go_ret3
  exact ⟨rfl, hB.trans (x.ok.mono hB.size)⟩

theorem specMisfitOf_ex (b0 n0 c0 : Nat) (xs ys : Nat → Int) (a b c e : Int) (hn : n0 ≤ 1048576) (hs : SmallP n0 xs ys) (w : World) (hr : PtRow w b0 n0 xs ys) :
    Calls Tryd.prog 9 #[.slice (some ⟨b0, 0, none⟩) n0 c0, .int .i64 a, .int .i64 b, .int .i64 c, .int .i64 e] w fun r w' => r = .returned (.tuple #[.int .i64 (ifOk (misC n0 xs ys a b c e) (leaK (shdF n0 xs ys a) c : Nat)), .int .i64 (ifOk (misC n0 xs ys a b c e) (misV n0 xs ys a b c e)), .int .i64 (misC n0 xs ys a b c e)]) ∧ Below w.heap.size w w' := specMisfitOf_any b0 n0 c0 xs ys a b c e hn hs w hr
theorem MisfitOf_ex (s : Ers) (b0 n0 c0 : Nat) (xs ys : Nat → Int) (a b c e : Int) (hn : n0 ≤ 1048576) (hs : SmallP n0 xs ys) (w : World) (hr : PtRow w b0 n0 xs ys) (hE : ErrEnv s w) :
    Calls Tryd.prog 11 #[.slice (some ⟨b0, 0, none⟩) n0 c0, .int .i64 a, .int .i64 b, .int .i64 c, .int .i64 e] w fun r w' => r = .returned (.tuple #[.int .i64 (ifOk (misC n0 xs ys a b c e) (leaK (shdF n0 xs ys a) c : Nat)), .int .i64 (ifOk (misC n0 xs ys a b c e) (misV n0 xs ys a b c e)), .int .i64 (misC n0 xs ys a b c e)]) ∧ Below w.heap.size w w' := MisfitOf_any b0 n0 c0 xs ys a b c e s hn hs w hr hE
end
end Go.Proofs.YtkeigoighebjpaaDoor

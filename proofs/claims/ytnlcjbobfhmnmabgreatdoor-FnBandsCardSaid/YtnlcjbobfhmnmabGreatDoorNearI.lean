/-
  The nearest band, with its code: by the program, for every list of at most 1048576 numbers. Condition: its variables hold their own errors.
-/
import Derived.Test.YtnlcjbobfhmnmabGreatDoorNearB
namespace Go.Proofs.YtnlcjbobfhmnmabGreatDoor
open Go.RowKit

theorem drewN_cell {w : World} {b o : Nat} {v : Value} (h : w.cell? ⟨b, o, none⟩ = some v) (n : Nat) : (w.drewN n).cell? ⟨b, o, none⟩ = some v := h

set_option maxHeartbeats 1000000 in
theorem nearestBand1_any (q : Nat) (x t : Int) (hx : 0 ≤ x ∧ x ≤ 400) (ht : 0 ≤ t ∧ t ≤ 400) (w : World) (hq : w.cell? ⟨q, 0, none⟩ = some (.int .i64 t)) :
    Calls Tryz.prog 77 #[.int .i64 x, .pointer (some ⟨q, 0, none⟩)] w fun e w' => e = .returned (.int .i64 (max (x - t) (t - x))) ∧ w = w' := by
  go_enter Tryz.func77, Tryz.ntmps77
  go_wp2_with fail
  refine (distance_any x t (by omega) (by omega) (by omega) (by omega) _).mono ?_; rintro e w1 ⟨rfl, rfl⟩
  go_wp2_with fail
  go_ret
  exact ⟨rfl, rfl⟩

set_option maxRecDepth 100000 in
set_option maxHeartbeats 2000000 in
theorem nearest_any (q g n cap : Nat) (xs : Nat → Int) (t : Int) (n1 : 1 ≤ n) (n20 : n ≤ 20) (hx : ∀ j, j < n → 0 ≤ xs j ∧ xs j ≤ 400) (ht : 0 ≤ t ∧ t ≤ 400) (w : World) (hr : IRow w g n xs) (hq : w.cell? ⟨q, 0, none⟩ = some (.int .i64 t)) :
    Calls Tryz.prog 76 #[.slice (some ⟨g, 0, none⟩) n cap, .func (.func 77) #[] #[.pointer (some ⟨q, 0, none⟩)]] w fun e w' => e = .returned (.int .i64 (nearK (dstB xs t) n : Nat)) ∧ ∃ m, w' = w.drewN m := by
  have hD : ∀ j, dstB xs t j = max (xs j - t) (t - xs j) := fun j => rfl
  generalize dstB xs t = D at *
  have HD := Lib.hid hD; clear hD
  have Hx := Lib.hid hx; clear hx
  have hcl := fun (j : Nat) (hj : j < n) W hW => nearestBand1_any q (xs j) t (Hx.out j hj) ht W hW
  have Hq := Lib.hid hq; clear hq
  go_enter Tryz.func76, Tryz.ntmps76
  go_wp2_with fail
  go_loopw [5, 10] (fun f i wr => ∃ k : Nat, k ≤ n ∧ i = .int .i64 k ∧ f = .int .i64 (nearK D k : Nat) ∧ ∃ m, wr = w.drewN m) (fun _ i _ => n - (intOf i).toNat)
  case atStart => exact ⟨0, by omega, rfl, rfl, 0, rfl⟩
  case round =>
    obtain ⟨k, hk, rfl, rfl, m, rfl⟩ := hrel
    have hlt : nearK D k < n := by
      rcases Nat.eq_zero_or_pos k with rfl | h
      · show 0 < n; omega
      · have := nearK_lt D k h; omega
    have hnew := nearK_new (g := D) (k := k)
    have hold := nearK_old (g := D) (k := k)
    by_cases hkn : k < n
    · generalize hF : nearK D k = F at *
      clear hF
      have c0 := hr.cell hkn
      have c1 := hr.cell (k := F) hlt
      have d0 := HD.out k
      have d1 := HD.out F
      have w3 : (F : Int) < n := by omega
      have s0 := hcl k hkn
      have s1 := hcl F hlt
      rw [← d0] at s0
      rw [← d1] at s1
      clear d0 d1
      have S0 := Lib.hid s0; clear s0
      have S1 := Lib.hid s1; clear s1
      by_cases hlt2 : D k < D F
      · have hN := hnew hlt2
        have HN := Lib.hid hN; clear hN hnew hold
        generalize D k = X at *
        generalize D F = Y at *
        generalize xs k = U at *
        generalize xs F = V at *
        go_wp2_with fail
        go_quiet (first | (go_at_call 77; exact quiet_leftB (S0.out _ (drewN_cell Hq.out _))) | (go_at_call 77; exact quiet_leftB (S1.out _ (drewN_cell Hq.out _))))
        go_wp2
        go_roundw
        case rel => exact ⟨k + 1, by omega, by go_num, by rw [HN.out], _, rfl⟩
        case measure => simp [intOf]; omega
      · have hN := hold hlt2
        have HN := Lib.hid hN; clear hN hnew hold
        generalize D k = X at *
        generalize D F = Y at *
        generalize xs k = U at *
        generalize xs F = V at *
        have hd : decide (X < Y) = false := decide_eq_false hlt2
        go_wp2_with fail
        go_quiet (first | (go_at_call 77; exact quiet_leftB (S0.out _ (drewN_cell Hq.out _))) | (go_at_call 77; exact quiet_leftB (S1.out _ (drewN_cell Hq.out _))))
        go_wp2
        go_roundw
        case rel => exact ⟨k + 1, by omega, by go_num, by rw [HN.out], _, rfl⟩
        case measure => simp [intOf]; omega
    · obtain rfl : k = n := by omega
      clear hnew hold
      go_wp2_with fail
      go_ret
      exact ⟨rfl, _, rfl⟩

set_option maxRecDepth 100000 in
set_option maxHeartbeats 4000000 in
theorem nearestBand_any (s : Ers) (g n cap : Nat) (xs : Nat → Int) (t : Int) (hn : n ≤ 1048576) (w : World) (hr : IRow w g n xs) (hE : ErrEnv s w) :
    Calls Tryz.prog 46 #[.slice (some ⟨g, 0, none⟩) n cap, .int .i64 t] w (CodedX s (.agg #[.int .i64 (ifOk (nrC n xs t) (nearK (dstB xs t) n : Nat)), .int .i64 (ifOk (nrC n xs t) (nrV n xs t))]) (nrC n xs t) w.heap.size w) := by
  have hb := fun W hW => areBands_any g n cap xs t hn W hW
  have k0 : Below w.heap.size w ((w.alloc (.cells #[.int .i64 t] 2)).alloc (.cells #[.int .i64 0, .int .i64 0] 69)) := ((Below.refl _ _).alloc (Nat.le_refl _) _).alloc (by simp) _
  have hr0 := hr.below k0 hr.lt
  have q0 : ((w.alloc (.cells #[.int .i64 t] 2)).alloc (.cells #[.int .i64 0, .int .i64 0] 69)).cell? ⟨w.heap.size, 0, none⟩ = some (.int .i64 t) := by
    refine below_cellOf ((Below.refl _ _).alloc (Nat.le_refl _) _) (?_ : (w.alloc (.cells #[.int .i64 t] 2)).cell? ⟨w.heap.size, 0, none⟩ = some (.int .i64 t)) (Nat.le_refl _)
    simp
  have d0 : ((w.alloc (.cells #[.int .i64 t] 2)).alloc (.cells #[.int .i64 0, .int .i64 0] 69)).cell? ⟨w.heap.size + 1, 0, none⟩ = some (.int .i64 0) := by simp
  have d1 : ((w.alloc (.cells #[.int .i64 t] 2)).alloc (.cells #[.int .i64 0, .int .i64 0] 69)).cell? ⟨w.heap.size + 1, 1, none⟩ = some (.int .i64 0) := by simp
  have g0 : ((w.alloc (.cells #[.int .i64 t] 2)).alloc (.cells #[.int .i64 0, .int .i64 0] 69)).frozen? ⟨w.heap.size + 1, 0, none⟩ = false := by simp
  have g1 : ((w.alloc (.cells #[.int .i64 t] 2)).alloc (.cells #[.int .i64 0, .int .i64 0] 69)).frozen? ⟨w.heap.size + 1, 1, none⟩ = false := by simp
  have ce := (hE.below k0 (Nat.le_refl _)).c_erange
  have hgl := World.block_lt_of_cell? w _ hE.c_erange
  have hg1 : 2 ≠ w.heap.size + 1 := by
    have h : 2 < w.heap.size := hgl
    omega
  have hg2 : w.heap.size + 1 ≠ 2 := fun e => hg1 e.symm
  have hgr : g ≠ w.heap.size + 1 := by have := hr.lt; omega
  have hgr2 : w.heap.size + 1 ≠ g := fun e => hgr e.symm
  clear hgl hE
  rcases h : bandB n xs t with _ | _
  · rw [nr_2 h, ifOk_2, ifOk_2]
    rw [h] at hb
    have Hb := Lib.hid hb; clear hb h
    have Hr := Lib.hid hr0; clear hr0 hr
    go_enter Tryz.func46, Tryz.ntmps46
    go_wp2_with fail
    generalize ((w.alloc (.cells #[.int .i64 t] 2)).alloc (.cells #[.int .i64 0, .int .i64 0] 69)) = W at *
    refine (Hb.out _ Hr.out).mono ?_; rintro e w1 ⟨rfl, rfl⟩
    go_wp2_with fail
    go_region
    go_wp2_with fail
    exact bodyPost_ret (v := .tuple #[.agg #[.int .i64 0, .int .i64 0], errV s.erange]) (by simp [results, Tryz.results46, go_sem, d0, d1]) rfl ⟨_, .erange, rfl, ((Below.drew k0).setCell (p := ⟨w.heap.size + 1, 0, none⟩) (by show w.heap.size ≤ w.heap.size + 1; omega) _).setCell (p := ⟨w.heap.size + 1, 1, none⟩) (by show w.heap.size ≤ w.heap.size + 1; omega) _⟩
  rw [nr_0 h, ifOk_0, ifOk_0]
  rw [h] at hb
  obtain ⟨⟨n1, n20⟩, hx, ht⟩ := bandB_ok h
  have hne := fun W hW hq => nearest_any w.heap.size g n cap xs t n1 n20 hx ht W hW hq
  have hlt := nearK_lt (dstB xs t) n (by omega)
  unfold nrV
  generalize hF : nearK (dstB xs t) n = F at *
  have hxF := hx F hlt
  have Hne := Lib.hid hne; clear hne hx hF
  have Hb := Lib.hid hb; clear hb h ce
  have w3 : (F : Int) < n := by omega
  have cF := hr0.cell hlt
  generalize xs F = V at *
  have Hr := Lib.hid hr0; clear hr0 hr
  go_enter Tryz.func46, Tryz.ntmps46
  go_wp2_with fail
  generalize ((w.alloc (.cells #[.int .i64 t] 2)).alloc (.cells #[.int .i64 0, .int .i64 0] 69)) = W at *
  refine (Hb.out _ Hr.out).mono ?_; rintro e w1 ⟨rfl, rfl⟩
  go_wp2_with fail
  refine (Hne.out _ Hr.out q0).mono ?_; rintro e w1 ⟨rfl, m, rfl⟩
  go_wp2_with fail
  go_region
  all_goals
    go_wp2_with fail
    exact bodyPost_ret (v := .tuple #[.agg #[.int .i64 F, .int .i64 (V - t)], .nilIface]) (by simp [results, Tryz.results46, go_sem, d0, d1]) rfl ⟨_, .ok, rfl, ((Below.drew (below_drewL k0 m)).setCell (p := ⟨w.heap.size + 1, 0, none⟩) (by show w.heap.size ≤ w.heap.size + 1; omega) _).setCell (p := ⟨w.heap.size + 1, 1, none⟩) (by show w.heap.size ≤ w.heap.size + 1; omega) _⟩

set_option maxRecDepth 100000 in
set_option maxHeartbeats 1000000 in
theorem NearestBand_any (s : Ers) (g n cap : Nat) (xs : Nat → Int) (t : Int) (hn : n ≤ 1048576) (w : World) (hr : IRow w g n xs) (hE : ErrEnv s w) :
    Calls Tryz.prog 19 #[.slice (some ⟨g, 0, none⟩) n cap, .int .i64 t] w fun e w' => e = .returned (.tuple #[.int .i64 (ifOk (nrC n xs t) (nearK (dstB xs t) n : Nat)), .int .i64 (ifOk (nrC n xs t) (nrV n xs t)), .int .i64 (nrC n xs t)]) ∧ Below w.heap.size w w' := by
  have hk := fun W hr hE => nearestBand_any s g n cap xs t hn W hr hE
  generalize ifOk (nrC n xs t) (nearK (dstB xs t) n : Nat) = V at hk ⊢
  generalize ifOk (nrC n xs t) (nrV n xs t) = V2 at hk ⊢
  generalize nrC n xs t = C at hk ⊢
  have Hk := Lib.hid hk; clear hk
  go_enter Tryz.func19, Tryz.ntmps19
  go_wp2_with fail
  refine (Hk.out _ hr hE).mono ?_; rintro e w1 ⟨v, hv, rfl, hb1⟩
  go_wp2_with fail
  have hE1 := (hE.below hb1 (Nat.le_refl _)).alloc (.cells #[.int .i64 V, .int .i64 V2] 69)
  have hB : Below w.heap.size w (w1.alloc (.cells #[.int .i64 V, .int .i64 V2] 69)) := hb1.alloc hb1.size _
  have d0 : (w1.alloc (.cells #[.int .i64 V, .int .i64 V2] 69)).cell? ⟨w1.heap.size, 0, none⟩ = some (.int .i64 V) := by simp
  have d1 : (w1.alloc (.cells #[.int .i64 V, .int .i64 V2] 69)).cell? ⟨w1.heap.size, 1, none⟩ = some (.int .i64 V2) := by simp
  generalize w1.alloc (.cells #[.int .i64 V, .int .i64 V2] 69) = W at hE1 hB d0 d1 ⊢
  refine wp_region_quietD (Below W.heap.size W) (by kernel_rfl) (by kernel_rfl) (below_drew1 _) ?_
  have n0 := below_nonempty W
  have e0 := inCell d0
  have e1 := inCell d1
  repeat (go_big_quiet_step ((go_at_call 47; exact inCallS _ (codeOf_any hv _ (hE1.below (WIn.ok _) (Nat.le_refl _))))))
  refine wpQuiet_nil ?_
  rintro _ ⟨x, rfl⟩
  go_wp2
  go_ret3
  exact ⟨rfl, hB.trans (x.ok.mono hB.size)⟩
end Go.Proofs.YtnlcjbobfhmnmabGreatDoor

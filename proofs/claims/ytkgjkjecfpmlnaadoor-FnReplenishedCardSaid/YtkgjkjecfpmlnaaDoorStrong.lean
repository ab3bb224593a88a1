/-
  The strength of a bath, and by how many thirds it is slower: what the reference and the program return. Condition of the program's: its table of times, and its errors.
-/
import Derived.Test.YtkgjkjecfpmlnaaDoorBath2
import Derived.Test.YtkgjkjecfpmlnaaDoorTimes
namespace Go.Proofs.YtkgjkjecfpmlnaaDoor
open Go.RowKit

section
variable {p k b t v u a : Int}

set_option maxRecDepth 100000 in
set_option maxHeartbeats 1000000 in
theorem l04Strength_any (h : BOk p k b t v u a) (w : World) :
    Calls Tryd.prog 29 #[devV p k b t, batV v u a] w fun e w' => e = .returned (.int .i64 (strn p k v u a)) ∧ Below w.heap.size w w' := by
  obtain ⟨hc0, hc1⟩ := h.cap
  have hr := h.room
  have hu0 := h.u0
  have hu1 := h.u1
  have ha0 := h.a0
  have ha1 := h.a1
  have hk0 := h.k0
  have hk1 := h.k1
  obtain ⟨hf0, hf1⟩ := h.fresh_bd
  unfold strn
  by_cases hka : k ≤ a
  · rw [if_pos hka]
    clear hf0 hf1
    go_enter Tryd.func29, Tryd.ntmps29
    go_wp2
    go_ret
    exact ⟨rfl, below_2 _ _ _⟩
  · rw [if_neg hka]
    obtain ⟨hm0, hm1⟩ := h.strn_mid (by omega)
    unfold fresh at *
    generalize hC : v * p = C at *
    generalize hF : 1000 * (C - 1000 * u) / C = F at *
    have HC := Lib.hid hC
    have hF' : 1000 * (C - 1000 * u) / C = F := hF
    generalize hM : F * (k - a) = M at *
    clear hF
    go_enter Tryd.func29, Tryd.ntmps29
    go_wp2
    go_ret
    exact ⟨rfl, below_2 _ _ _⟩

set_option maxRecDepth 100000 in
set_option maxHeartbeats 1000000 in
theorem strength_any (h : BOk p k b t v u a) (w : World) :
    Calls Tryd.prog 49 #[trayV p k b t v u a] w fun e w' => e = .returned (.int .i64 (strn p k v u a)) ∧ Below w.heap.size w w' := by
  obtain ⟨hc0, hc1⟩ := h.cap
  have hr := h.room
  have hu0 := h.u0
  have hu1 := h.u1
  have ha0 := h.a0
  have ha1 := h.a1
  have hk0 := h.k0
  have hk1 := h.k1
  obtain ⟨hf0, hf1⟩ := h.fresh_bd
  have hroom := fun W => roomIn_any p k b t v u a (by omega) hc1 hu0 hu1 W
  have hcap := fun W => capacityOf_any p k b t v u a (by omega) hc1 W
  have k0 : Below w.heap.size w (w.alloc (.cells #[.int .i64 p, .int .i64 k, .int .i8 b, .int .i8 t, .int .i64 v, .int .i64 u, .int .i64 a] 82)) := (Below.refl _ _).alloc (Nat.le_refl _) _
  have D0 := TrAt.new w 82 p k b t v u a
  unfold strn
  by_cases hka : k ≤ a
  · rw [if_pos hka]
    clear hf0 hf1 hroom hcap D0
    go_enter Tryd.func49, Tryd.ntmps49
    go_wp2
    go_ret
    exact ⟨rfl, k0⟩
  · rw [if_neg hka]
    obtain ⟨hm0, hm1⟩ := h.strn_mid (by omega)
    unfold fresh at *
    generalize hC : v * p = C at *
    generalize hF : 1000 * (C - 1000 * u) / C = F at *
    clear hC
    generalize hM : F * (k - a) = M at *
    have Hr := Lib.hid hroom; clear hroom
    have Hc := Lib.hid hcap; clear hcap
    go_enter Tryd.func49, Tryd.ntmps49
    go_wp2_with fail
    generalize (w.alloc (.cells #[.int .i64 p, .int .i64 k, .int .i8 b, .int .i8 t, .int .i64 v, .int .i64 u, .int .i64 a] 82)) = W at *
    have E0 := D0
    obtain ⟨c0, c1, c2, c3, c4, c5, c6⟩ := E0
    refine wp_region_quietD (Below W.heap.size W) (by kernel_rfl) (by kernel_rfl) (below_drew1 _) ?_
    have n0 := below_nonempty W
    have f0 := inCell c0
    have f1 := inCell c1
    have f2 := inCell c2
    have f3 := inCell c3
    have f4 := inCell c4
    have f5 := inCell c5
    have f6 := inCell c6
    repeat (go_big_quiet_step (first | (go_at_call 53; exact inCall _ (Hr.out _)) | (go_at_call 67; exact inCall _ (Hc.out _))))
    refine wpQuiet_nil ?_
    rintro _ ⟨y, rfl⟩
    clear c0 c1 c2 c3 c4 c5 c6
    obtain ⟨c0, c1, c2, c3, c4, c5, c6⟩ := D0.below y.ok (Nat.le_refl _)
    go_wp2
    go_ret
    exact ⟨rfl, k0.trans (y.ok.mono k0.size)⟩

/-- By how many thirds: as the reference says it, and the code. -/
def slwS (s : Int) : Int := if slw s = 37 then -1 else slw s
def slwR (s : Int) : Int := if inB s 0 1000 = true then (if slw s = 37 then 0 else slw s) else 0
def slwC (s : Int) : Int := if inB s 0 1000 = true then (if slw s = 37 then 6 else 0) else 2

set_option maxRecDepth 100000 in
set_option maxHeartbeats 1000000 in
theorem l04Slower_any (s : Int) (hs : 0 ≤ s) (hs' : s ≤ 1000) (w : World) :
    Calls Tryd.prog 57 #[.int .i64 s] w fun e w' => e = .returned (.int .i64 (slwS s)) ∧ Below w.heap.size w w' := by
  go_enter Tryd.func57, Tryd.ntmps57
  go_wp2
  go_loopw [3] (fun i wr => ∃ k : Nat, k ≤ 37 ∧ i = .int .i64 k ∧ Hid ((k : Int) = 0 ∨ tm (k - 1) * s < 1000000) ∧ Below w.heap.size w wr) (fun i _ => 37 - (intOf i).toNat)
  case atStart => exact ⟨0, by omega, rfl, Lib.hid (.inl rfl), Below.refl _ _⟩
  case round =>
    obtain ⟨k, hk, rfl, H, hB⟩ := hrel
    by_cases hk36 : k ≤ 36
    · have hp := tmul_bd (k := k) hs hs' (by omega) (by omega)
      by_cases hq : 1000000 ≤ tm k * s
      · have he : slwS s = k := by
          have := slw_eq (k := k) hs (by omega) (by omega) H.out (.inr hq)
          unfold slwS
          rw [this, if_neg (by omega)]
        have He := Lib.hid he; clear he
        go_wp2_with fail
        refine (l01Time_any _ (by omega) (by omega) _).mono ?_; rintro e w2 ⟨rfl, hb2⟩
        go_wp2_with fail
        go_ret
        exact ⟨ret_int He.out.symm, hB.trans (hb2.mono hB.size)⟩
      · have Hq := Lib.hid hq
        have hq' : tm k * s < 1000000 := by omega
        clear hq
        go_wp2_with fail
        refine (l01Time_any _ (by omega) (by omega) _).mono ?_; rintro e w2 ⟨rfl, hb2⟩
        go_wp2_with fail
        go_roundw
        case rel => exact ⟨k + 1, by omega, by go_num, Lib.hid (.inr (by rw [show ((k + 1 : Nat) : Int) - 1 = k by omega]; exact hq')), hB.trans (hb2.mono hB.size)⟩
        case measure => simp [intOf]; omega
    · have e : k = 37 := by omega
      subst e
      have he : slwS s = -1 := by
        have := slw_eq (k := 37) hs (by omega) (by omega) H.out (.inl rfl)
        unfold slwS
        rw [this, if_pos rfl]
      have He := Lib.hid he; clear he
      go_wp2
      go_ret
      exact ⟨ret_int He.out.symm, hB⟩

set_option maxRecDepth 100000 in
set_option maxHeartbeats 1000000 in
theorem slowerBy_any (z : Ers) (s : Int) (w : World) (hT : TimEnv w) (hE : ErrEnv z w) :
    Calls Tryd.prog 41 #[.int .i64 s] w (Coded z (.int .i64 (slwR s)) (slwC s) w.heap.size w) := by
  have ce := hE.c_erange
  have cn := hE.c_enotfound
  unfold slwR slwC
  rcases h1 : inB s 0 1000 with _ | _
  · simp only [Bool.false_eq_true, if_false]
    clear cn
    go_enter Tryd.func41, Tryd.ntmps41
    go_wp2_with (go_at_call 46; refine (inRange_any _ _ _ _).mono ?_; rintro e w' ⟨rfl, rfl⟩)
    go_quiet (fail)
    go_wp2
    go_ret2
    exact ⟨_, .erange, rfl, below_drewN (Below.refl _ _) _⟩
  · simp only [if_true]
    have hs := inB_true.1 h1
    clear ce
    generalize hR : (if slw s = 37 then (0 : Int) else slw s) = R
    generalize hC : (if slw s = 37 then (6 : Int) else 0) = C
    have HR := Lib.hid hR; clear hR
    have HC := Lib.hid hC; clear hC
    go_enter Tryd.func41, Tryd.ntmps41
    go_wp2_with fail
    refine (inRange_any _ _ _ _).mono ?_; rintro e w' ⟨rfl, rfl⟩
    go_wp2_with fail
    go_loopw [4] (fun i wr => ∃ k : Nat, k ≤ 37 ∧ i = .int .i64 k ∧ Hid ((k : Int) = 0 ∨ tm (k - 1) * s < 1000000) ∧ Below w.heap.size w wr) (fun i _ => 37 - (intOf i).toNat)
    case atStart => exact ⟨0, by omega, rfl, Lib.hid (.inl rfl), Below.refl _ _⟩
    case round =>
      obtain ⟨k, hk, rfl, H, hB⟩ := hrel
      have hTr := hT.below hB (Nat.le_refl _)
      have cn := below_cellOf hB cn (Nat.le_refl _)
      have ht0 := timeAt_any 0 (by omega) (by omega) wr hTr
      rw [tm_0] at ht0
      have Ht0 := Lib.hid ht0; clear ht0
      by_cases hk36 : k ≤ 36
      · have hp := tmul_bd (k := k) hs.1 hs.2 (by omega) (by omega)
        by_cases hq : 1000000 ≤ tm k * s
        · have he : slw s = k := slw_eq (k := k) hs.1 (by omega) (by omega) H.out (.inr hq)
          have he2 : R = k := by rw [← HR.out, he, if_neg (by omega)]
          have he3 : C = 0 := by rw [← HC.out, he, if_neg (by omega)]
          have He := Lib.hid (And.intro he2 he3); clear he he2 he3
          go_wp2_with fail
          refine (timeAt_any _ (by omega) (by omega) _ hTr).mono ?_; rintro e w2 ⟨rfl, rfl⟩
          go_wp2_with fail
          refine Ht0.out.mono ?_; rintro e w2 ⟨rfl, rfl⟩
          go_wp2_with fail
          go_ret2
          rw [He.out.1, He.out.2]
          exact ⟨_, .ok, rfl, hB⟩
        · have Hq := Lib.hid hq
          have hq' : tm k * s < 1000000 := by omega
          clear hq
          go_wp2_with fail
          refine (timeAt_any _ (by omega) (by omega) _ hTr).mono ?_; rintro e w2 ⟨rfl, rfl⟩
          go_wp2_with fail
          refine Ht0.out.mono ?_; rintro e w2 ⟨rfl, rfl⟩
          go_wp2_with fail
          go_roundw
          case rel => exact ⟨k + 1, by omega, by go_num, Lib.hid (.inr (by rw [show ((k + 1 : Nat) : Int) - 1 = k by omega]; exact hq')), hB⟩
          case measure => simp [intOf]; omega
      · have e : k = 37 := by omega
        subst e
        have he : slw s = 37 := slw_eq (k := 37) hs.1 (by omega) (by omega) H.out (.inl rfl)
        have he2 : R = 0 := by rw [← HR.out, if_pos he]
        have he3 : C = 6 := by rw [← HC.out, if_pos he]
        have He := Lib.hid (And.intro he2 he3); clear he he2 he3
        go_wp2_with fail
        go_quiet (fail)
        go_wp2
        go_ret2
        rw [He.out.1, He.out.2]
        exact ⟨_, .enotfound, rfl, below_drewN hB _⟩

set_option maxHeartbeats 400000 in
theorem SlowerBy_any (z : Ers) (s : Int) (w : World) (hT : TimEnv w) (hE : ErrEnv z w) :
    Calls Tryd.prog 21 #[.int .i64 s] w fun e w' => e = .returned (.tuple #[.int .i64 (slwR s), .int .i64 (slwC s)]) ∧ Below w.heap.size w w' := by
  go_enter Tryd.func21, Tryd.ntmps21
  go_wp2_with fail
  refine (slowerBy_any z s _ hT hE).mono ?_; rintro e w1 ⟨v, hv, rfl, hb1⟩
  go_wp2_with fail
  refine (codedInt_any hv _ _ (hE.below hb1 (Nat.le_refl _))).mono ?_; rintro e w2 ⟨rfl, rfl⟩
  go_wp2_with fail
  go_ret2
  exact ⟨rfl, hb1⟩

end
end Go.Proofs.YtkgjkjecfpmlnaaDoor

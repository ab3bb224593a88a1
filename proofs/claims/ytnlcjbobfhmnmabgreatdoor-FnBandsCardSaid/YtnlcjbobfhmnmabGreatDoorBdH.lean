/-
  A strip, a paper, a density and a target that are right, and all that is asked of them: what the functions of both sides hand back, in one statement. Condition: the program's variables hold their own errors and its table of times, the library's variables their errors.
-/
import Derived.Test.YtnlcjbobfhmnmabGreatDoorBdX
import Derived.Test.YtnlcjbobfhmnmabGreatDoorBdX
import Derived.Test.YtnlcjbobfhmnmabGreatDoorBdX
import Derived.Test.YtnlcjbobfhmnmabGreatDoorNearI
import Derived.Test.YtnlcjbobfhmnmabGreatDoorRsX
import Derived.Test.YtnlcjbobfhmnmabGreatDoorStripC
namespace Go.Proofs.YtnlcjbobfhmnmabGreatDoor
open Go.RowKit

theorem decN_len2 {n : Nat} (h : n < 100) : (decN n).length ≤ 2 := by
  by_cases h1 : n < 10
  · rw [decN_lo h1]; simp
  · rw [decN_hi (by omega), decN_lo (by omega)]; simp
theorem strip_len {a b c : Int} (h : StOk a b c) : (stripTx a b c).length ≤ 1048576 := by
  have h1 := h.a0; have h2 := h.a1; have h3 := h.b0; have h4 := h.b1; have h5 := h.c0; have h6 := h.c1
  rw [stripTx_yes (okT_of h)]
  have e1 := decN_len2 (n := a.toNat) (by omega)
  have e2 := decN_len2 (n := b.toNat) (by omega)
  have e3 := decN_len2 (n := c.toNat) (by omega)
  unfold stripT
  show (decN a.toNat ++ 32 :: (decN b.toNat ++ 32 :: decN c.toNat)).length ≤ _
  simp only [List.length_append, List.length_cons]
  omega
theorem crv_small {n : Nat} {xs ys : Nat → Int} (h : Crv n xs ys) : SmallP n xs ys := fun j hj => by have := h.scale j hj; omega

theorem bands_all (s : Ers) (q1 q2 : Addr) (a b c : Int) (h : StOk a b c) (g n cap : Nat) (xs ys : Nat → Int) (d t : Int) (hn : n ≤ 6) (hc : Crv n xs ys) (hd : 0 ≤ d ∧ d ≤ 400) (ht : 0 ≤ t ∧ t ≤ 400) :
    ∃ (N : Nat) (K F G E : Nat → Int) (P O C7 V7 C8 V8 V9 : Int) (X : List UInt8),
      ((N : Int) = c ∧ 1 ≤ N ∧ N ≤ 20) ∧
      (∀ k, k < N → 0 ≤ F k ∧ F k ≤ 400) ∧ (-400 ≤ O ∧ O ≤ 400) ∧
      (∀ k, k < N → (0 ≤ a + b * (k : Int) ∧ a + b * (k : Int) ≤ 36) ∧ a + b * (k : Int) ≤ K k ∧ F k ≤ G k ∧ (0 < k → F (k - 1) ≤ F k ∧ G (k - 1) ≤ G k)) ∧
      (∀ k, k < N → ¬ max (F k - t) (-(F k - t)) < max O (-O) ∧ ¬ ((C7 ≠ 0 ∨ (k : Int) < V7) ∧ 0 ≤ F k - t)) ∧
      (∀ k, k < 37 → decide (t ≤ E k) = (decide (C8 = 0) && decide (V8 ≤ (k : Int)))) ∧
      (∀ W, Calls Tryz.prog 9 #[stV a b c] W fun e w' => e = .returned (strV X) ∧ Below W.heap.size W w') ∧
      (∀ W, ErrEnv s W → LibEnv q1 q2 W → Calls Tryz.prog 8 #[strV X] W fun e w' => e = .returned (.tuple #[stV a b c, .int .i64 0]) ∧ Below W.heap.size W w') ∧
      (∀ W, ErrEnv s W → Calls Tryz.prog 10 #[stV a b c] W (RowZ N (fun k : Nat => a + b * (k : Int)) W)) ∧
      (∀ W, TimEnv W → ErrEnv s W → Calls Tryz.prog 11 #[stV a b c] W (RowZ N K W)) ∧
      (∀ W, Calls Tryz.prog 12 #[stV a b c] W (RowZ N K W)) ∧
      (∀ W, PtRow W g n xs ys → ErrEnv s W → Calls Tryz.prog 13 #[stV a b c, .slice (some ⟨g, 0, none⟩) n cap, .int .i64 d] W (RowZ N F W)) ∧
      (∀ W, PtRow W g n xs ys → Calls Tryz.prog 14 #[stV a b c, .slice (some ⟨g, 0, none⟩) n cap, .int .i64 d] W (RowC N F W)) ∧
      (∀ W, PtRow W g n xs ys → TimEnv W → ErrEnv s W → Calls Tryz.prog 15 #[stV a b c, .slice (some ⟨g, 0, none⟩) n cap, .int .i64 d] W (RowZ N G W)) ∧
      (∀ W, PtRow W g n xs ys → Calls Tryz.prog 16 #[stV a b c, .slice (some ⟨g, 0, none⟩) n cap, .int .i64 d] W (RowZ N G W)) ∧
      (∀ W, Calls Tryz.prog 17 #[stV a b c] W fun e w' => e = .returned (.bool true) ∧ Below W.heap.size W w') ∧
      (∀ W g' c', IRow W g' N F → ErrEnv s W → Calls Tryz.prog 19 #[.slice (some ⟨g', 0, none⟩) N c', .int .i64 t] W fun e w' => e = .returned (.tuple #[.int .i64 P, .int .i64 O, .int .i64 0]) ∧ Below W.heap.size W w') ∧
      (∀ W g' c', IRow W g' N F → Calls Tryz.prog 20 #[.slice (some ⟨g', 0, none⟩) N c', .int .i64 t] W fun e w' => e = .returned (.tuple #[.int .i64 P, .int .i64 O, .int .i64 0]) ∧ Below W.heap.size W w') ∧
      (∀ W g' c', N ≤ c' → IRow W g' N F → ErrEnv s W → Calls Tryz.prog 21 #[.slice (some ⟨g', 0, none⟩) N c', .int .i64 t] W fun e w' => e = .returned (.tuple #[.int .i64 V7, .int .i64 C7]) ∧ Below W.heap.size W w') ∧
      (∀ W g' c', IRow W g' N F → Calls Tryz.prog 22 #[.slice (some ⟨g', 0, none⟩) N c', .int .i64 t] W fun e w' => e = .returned (.tuple #[.int .i64 V7, .int .i64 C7]) ∧ Below W.heap.size W w') ∧
      (∀ W, PtRow W g n xs ys → ErrEnv s W → Calls Tryz.prog 23 #[.slice (some ⟨g, 0, none⟩) n cap, .int .i64 d, .int .i64 t] W fun e w' => e = .returned (.tuple #[.int .i64 V8, .int .i64 V9, .int .i64 C8]) ∧ Below W.heap.size W w') ∧
      (∀ W, PtRow W g n xs ys → Calls Tryz.prog 24 #[.slice (some ⟨g, 0, none⟩) n cap, .int .i64 d, .int .i64 t] W fun e w' => e = .returned (.tuple #[.int .i64 V8, .int .i64 V9, .int .i64 C8]) ∧ Below W.heap.size W w') ∧
      (∀ k : Nat, k < 37 → ∀ W, PtRow W g n xs ys → ErrEnv s W → Calls Tryz.prog 13 #[stV (k : Int) 1 1, .slice (some ⟨g, 0, none⟩) n cap, .int .i64 d] W (RowZ 1 (fun _ => E k) W)) ∧
      (∀ m : Nat, m < N → ∃ fa fc : Int, (0 ≤ fa ∧ fa ≤ 36 ∧ fa ≤ a + b * (m : Int)) ∧
        (∀ W, ErrEnv s W → Calls Tryz.prog 25 #[stV a b c, .int .i64 m] W fun e w' => e = .returned (.tuple #[stV fa 1 fc, .int .i64 0]) ∧ Below W.heap.size W w') ∧
        (∀ W, Calls Tryz.prog 26 #[stV a b c, .int .i64 m] W fun e w' => e = .returned (.tuple #[stV fa 1 fc, .int .i64 0]) ∧ Below W.heap.size W w') ∧
        (∀ W, Calls Tryz.prog 17 #[stV fa 1 fc] W fun e w' => e = .returned (.bool true) ∧ Below W.heap.size W w')) := by
  have a0 := h.a0; have a1 := h.a1; have b0 := h.b0; have b1 := h.b1; have c0 := h.c0; have c1 := h.c1
  have hok := okT_of h
  have hv := hc.valid (by omega)
  have hs := crv_small hc
  have hn' : n ≤ 1048576 := by omega
  have hdI := inB_true.2 hd
  have htI := inB_true.2 ht
  have hN : 0 < c.toNat := by omega
  have hb0 : bndC a b c n xs ys d = 0 := bnd_0 hok hv hdI
  have hbd : ∀ k, k < c.toNat → 0 ≤ bndV n xs ys d (fun j : Nat => a + b * (j : Int)) k ∧ bndV n xs ys d (fun j : Nat => a + b * (j : Int)) k ≤ 400 := fun k _ => shdF_bd hc d _
  have hB : bandB c.toNat (bndV n xs ys d (fun j : Nat => a + b * (j : Int))) t = true := bandB_of (by omega) hbd ht
  have hnr : nrC c.toNat (bndV n xs ys d (fun j : Nat => a + b * (j : Int))) t = 0 := nr_0 hB
  refine ⟨c.toNat, covT a b, bndV n xs ys d (fun j : Nat => a + b * (j : Int)), bndV n xs ys d (covT a b), fun k => bndV n xs ys d (fun j : Nat => (k : Int) + 1 * (j : Int)) 0,
    (nearK (dstB (bndV n xs ys d (fun j : Nat => a + b * (j : Int))) t) c.toNat : Nat), nrV c.toNat (bndV n xs ys d (fun j : Nat => a + b * (j : Int))) t,
    fstC c.toNat (bndV n xs ys d (fun j : Nat => a + b * (j : Int))) t, ifOk (fstC c.toNat (bndV n xs ys d (fun j : Nat => a + b * (j : Int))) t) (fstK c.toNat (bndV n xs ys d (fun j : Nat => a + b * (j : Int))) t : Nat),
    bysC n xs ys d t, ifOk (bysC n xs ys d t) (leaK (shdF n xs ys d) t : Nat), ifOk (bysC n xs ys d t) (bysS (leaK (shdF n xs ys d) t)), stripTx a b c,
    ⟨by omega, by omega, by omega⟩, hbd, ?_, fun k hk => ?_, fun k hk => bands_near hk hB, fun k hk => bands_light hc hv hdI htI hk, ?_, ?_, ?_, ?_, ?_, ?_, ?_, ?_, ?_, ?_, ?_, ?_, ?_, ?_, ?_, ?_, ?_, ?_⟩
  · have h1 := hbd _ (nearK_lt (dstB (bndV n xs ys d (fun j : Nat => a + b * (j : Int))) t) c.toNat hN)
    unfold nrV
    omega
  · exact ⟨h.light (k := k) (by omega) (by omega), bands_loop h hc (k := k) (by omega)⟩
  · intro W; exact StripText_any a b c (by omega) (by omega) (by omega) (by omega) (by omega) (by omega) W
  · intro W hE hL
    have := ReadStrip_any s q1 q2 (stripTx a b c) (strip_len h) W hE hL
    rw [(rs_own h).1, (rs_own h).2] at this; exact this
  · intro W hE
    have := LightsOf_any s a b c (by omega) (by omega) (by omega) (by omega) (by omega) (by omega) W hE
    rw [stC_0 hok, lenC_0] at this
    exact this.mono fun _ _ h => lst_rowZ h hN
  · intro W hT hE
    have := CoveredLights_any s a b c (by omega) (by omega) (by omega) (by omega) (by omega) (by omega) W hT hE
    rw [stC_0 hok, lenC_0] at this
    exact this.mono fun _ _ h => lst_rowZ h hN
  · intro W
    have := specCoveredLights_any a b c (by omega) (by omega) (by omega) (by omega) (by omega) (by omega) W
    rw [stC_0 hok, lenC_0] at this
    exact this.mono fun _ _ h => lst_rowZ h hN
  · intro W hr hE
    have := BandsOf_any s a b c (by omega) (by omega) (by omega) (by omega) (by omega) (by omega) g n cap xs ys d hn' hs W hr hE
    rw [hb0, lenC_0] at this
    exact this.mono fun _ _ h => lst_rowZ h hN
  · intro W hr
    exact specBandsOfC_any a b c (by omega) (by omega) (by omega) (by omega) (by omega) (by omega) hok g n cap xs ys d hn' hs hv hdI W hr
  · intro W hr hT hE
    have := CoveredBands_any s a b c (by omega) (by omega) (by omega) (by omega) (by omega) (by omega) g n cap xs ys d hn' hs W hr hT hE
    rw [hb0, lenC_0] at this
    exact this.mono fun _ _ h => lst_rowZ h hN
  · intro W hr
    have := specCoveredBands_any a b c (by omega) (by omega) (by omega) (by omega) (by omega) (by omega) g n cap xs ys d hn' hs W hr
    rw [hb0, lenC_0] at this
    exact this.mono fun _ _ h => lst_rowZ h hN
  · intro W
    have := ValidStrip_any a b c (by omega) (by omega) (by omega) (by omega) (by omega) (by omega) W
    rw [hok] at this; exact this
  · intro W g' c' hr hE
    have := NearestBand_any s g' c.toNat c' (bndV n xs ys d (fun j : Nat => a + b * (j : Int))) t (by omega) W hr hE
    rw [hnr] at this; exact this
  · intro W g' c' hr
    have := specNearestBand_any g' c.toNat c' (bndV n xs ys d (fun j : Nat => a + b * (j : Int))) t (by omega) W hr
    rw [hnr] at this; exact this
  · intro W g' c' hcap hr hE
    exact FirstBand_any s g' c.toNat c' (bndV n xs ys d (fun j : Nat => a + b * (j : Int))) t (by omega) hcap W hr hE
  · intro W g' c' hr
    exact specFirstBand_any g' c.toNat c' (bndV n xs ys d (fun j : Nat => a + b * (j : Int))) t (by omega) W hr
  · intro W hr hE
    exact LightByStrips_ex s g n cap xs ys d t hn' hs W hr hE
  · intro W hr
    exact specLightByStrips_any g n cap xs ys d t hn' hs W hr
  · intro k hk W hr hE
    have hk1 : StOk (k : Int) 1 1 := ⟨by omega, by omega, by omega, by omega, by omega, by omega, by omega⟩
    have := BandsOf_any s (k : Int) 1 1 (by omega) (by omega) (by omega) (by omega) (by omega) (by omega) g n cap xs ys d hn' hs W hr hE
    rw [bnd_0 (okT_of hk1) hv hdI, lenC_0] at this
    refine this.mono fun _ _ h => ?_
    obtain ⟨g1, c1, e, h1, h2, h3⟩ := lst_rowZ h (by decide : 0 < (1 : Int).toNat)
    exact ⟨g1, c1, e, h1, h2.congr (fun j hj => by
      obtain rfl : j = 0 := by have : (1 : Int).toNat = 1 := rfl; omega
      rfl), h3⟩
  · intro m hm
    obtain ⟨e1, e2, e3, e4⟩ := bands_finer h (k := (m : Int)) (by omega) (by omega)
    have hb := fin_bd h (k := (m : Int)) (by omega) (by omega)
    refine ⟨finF a b m, finB c (finF a b m), ⟨hb.1.1, hb.1.2, e4⟩, fun W hE => ?_, fun W => ?_, fun W => ?_⟩
    · have := FinerStrip_any s a b c (m : Int) (by omega) (by omega) (by omega) (by omega) (by omega) (by omega) W hE
      rw [e1, e2] at this; exact this
    · have := specFinerStrip_any a b c (m : Int) (by omega) (by omega) (by omega) (by omega) (by omega) (by omega) W
      rw [e1, e2] at this; exact this
    · have := ValidStrip_any (finF a b m) 1 (finB c (finF a b m)) (by omega) (by omega) (by omega) (by omega) (by omega) (by omega) W
      rw [e3] at this; exact this
end Go.Proofs.YtnlcjbobfhmnmabGreatDoor

/-
  FewestCopies in the program, from what fewestCopies returns; its error cases. Condition: its variables hold their own errors; at most 1048576 copies.
-/
import Derived.Test.YtmibinfaafhgdaaGreatDoorFewU
import Derived.Test.YtmibinfaafhgdaaGreatDoorTabX
import Derived.Test.YtmibinfaafhgdaaGreatDoorDsX
import Derived.Test.YtmibinfaafhgdaaGreatDoorFewX
import Derived.Test.YtmibinfaafhgdaaGreatDoorFewY
import Derived.Test.YtmibinfaafhgdaaGreatDoorFewW
namespace Go.Proofs.YtmibinfaafhgdaaGreatDoor
open Go.RowKit

set_option maxRecDepth 100000 in
set_option maxHeartbeats 4000000 in
theorem fewestCopies_bad (s : Ers) (A : Option Addr) (n cap : Nat) (g : Nat → Nat → Int) (x : Int) (hn : n ≤ 1048576) (hc : copC n g x ≠ 0) (w : World) (hr : PrsIn w A n g) (hE : ErrEnv s w) :
    Calls Tryz.prog 35 #[.slice A n cap, .int .i64 x] w fun e w' => ∃ u, e = .returned (.tuple #[u, copE s (copC n g x)]) ∧ OwnL w' w.heap.size w'.heap.size u [] ∧ Below w.heap.size w w' := by
  have k0 := (Below.refl w.heap.size w).alloc (Nat.le_refl _) (.cells #[.slice A n cap] 24)
  have hq := dustOf_bad s A n cap g x hn hc _ (hr.below k0 (Nat.le_refl _)) (hE.below k0 (Nat.le_refl _))
  obtain ⟨a, ha⟩ := copE_ne s hc
  rw [ha] at hq ⊢
  have Hq := Lib.hid hq; clear hq hc ha hr hE
  go_enter Tryz.func35, Tryz.ntmps35
  go_wp2_with fail
  refine Hq.out.mono ?_; rintro e w2 ⟨rfl, hb2⟩
  have k2 := k0.trans (hb2.mono k0.size)
  have a2 : (w2.alloc (.cells Tryz.zeroCells90 90)).heap[w2.heap.size]? = some (.cells Tryz.zeroCells90 90 (0, 0)) := heap_alloc_last w2 _
  have kk := below_setRow ((Below.refl w2.heap.size w2).alloc (Nat.le_refl _) (.cells Tryz.zeroCells90 90)) (b := w2.heap.size) (Nat.le_refl _) Tryz.zeroCells90
  have k3 := k2.trans (kk.mono k2.size)
  clear hb2 k2 k0 kk
  go_wp2_with (refine wpList_store_dz a2 dzSize rfl (.tmp 6) (.tmp 14) rfl rfl rfl ?_)
  go_ret2
  exact ⟨_, rfl, OwnL.nil _ _ _ _ _, k3⟩

set_option maxRecDepth 100000 in
set_option maxHeartbeats 2000000 in
theorem FewestCopies_ex (s : Ers) (A : Option Addr) (n cap : Nat) (x : Int) (l : List Int) (v : Value) (c : Int) (hv : IsCode s v c) (w : World) (hE : ErrEnv s w)
    (h : Calls Tryz.prog 35 #[.slice A n cap, .int .i64 x] w fun e w' => ∃ u, e = .returned (.tuple #[u, v]) ∧ OwnL w' w.heap.size w'.heap.size u l ∧ Below w.heap.size w w') :
    Calls Tryz.prog 13 #[.slice A n cap, .int .i64 x] w fun e w' => ∃ u, e = .returned (.tuple #[u, .int .i64 c]) ∧ OwnL w' w.heap.size w'.heap.size u l ∧ Below w.heap.size w w' := by
  have H := Lib.hid h; clear h
  go_enter Tryz.func13, Tryz.ntmps13
  go_wp2_with fail
  refine H.out.mono ?_; rintro e w2 ⟨u, rfl, hu, hb2⟩
  obtain ⟨Au, cu, rfl, _⟩ := hu.ints
  have hcd := codedInts_any hv Au l.length cu w2 (hE.below hb2 (Nat.le_refl _))
  have HU := Lib.hid hu; have HC := Lib.hid hcd
  clear hu hcd
  go_wp2_with fail
  refine HC.out.mono ?_; rintro e w3 ⟨rfl, rfl⟩
  go_wp2_with fail
  go_ret2
  exact ⟨_, rfl, HU.out, hb2⟩
end Go.Proofs.YtmibinfaafhgdaaGreatDoor

namespace Go.Proofs.YtmibinfaafhgdaaGreatDoor
open Go.RowKit

theorem unS_full (c : Nat → BitVec 64) {n : Nat} : ∀ i, i ≤ n → unS c (2 ^ n - 1) i = unA c i
  | 0, _ => rfl
  | i + 1, h => by
    have hb : (2 ^ n - 1).testBit i = true := by rw [Nat.testBit_two_pow_sub_one]; simp; omega
    rw [unS_yes hb, unS_full c i (by omega)]
    rfl
theorem gdL_len (n : Nat) (ok : Nat → Bool) : ∀ k, (gdL n ok k).length ≤ k
  | 0 => Nat.le_refl _
  | k + 1 => by
    have := gdL_len n ok k
    unfold gdL
    split <;> simp <;> omega
theorem gdL_el (n : Nat) (ok : Nat → Bool) : ∀ k, ∀ l ∈ gdL n ok k, l.length ≤ n
  | 0, l, h => by cases h
  | k + 1, l, h => by
    unfold gdL at h
    split at h
    · rcases List.mem_append.1 h with h | h
      · exact gdL_el n ok k l h
      · obtain rfl := List.mem_singleton.1 h
        exact subI_len _ _
    · exact gdL_el n ok k l h
theorem gdL_at (n : Nat) (ok : Nat → Bool) (k j : Nat) : ((gdL n ok k).getD j []).length ≤ n := by
  rw [List.getD_eq_getElem?_getD]
  cases h : (gdL n ok k)[j]? with
  | none => simp
  | some l => exact gdL_el n ok k l (List.mem_of_getElem? h)
theorem two_pow8 {n : Nat} (h1 : 1 ≤ n) (h8 : n ≤ 8) : 2 ≤ 2 ^ n ∧ 2 ^ n ≤ 256 := by
  have : n = 1 ∨ n = 2 ∨ n = 3 ∨ n = 4 ∨ n = 5 ∨ n = 6 ∨ n = 7 ∨ n = 8 := by omega
  rcases this with rfl | rfl | rfl | rfl | rfl | rfl | rfl | rfl <;> decide
theorem gdL_some {n : Nat} (c : Nat → BitVec 64) (h1 : 1 ≤ n) (h8 : n ≤ 8) : 1 ≤ (gdL n (okB c n) (2 ^ n - 1)).length := by
  have hp := two_pow8 h1 h8
  obtain ⟨k, hk⟩ : ∃ k, 2 ^ n - 1 = k + 1 := ⟨2 ^ n - 2, by omega⟩
  have hf := unS_full c n (Nat.le_refl n)
  rw [hk] at hf ⊢
  have ho : okB c n (k + 1) = true := by unfold okB; rw [hf]; simp
  have e : gdL n (okB c n) (k + 1) = gdL n (okB c n) k ++ [subI (k + 1) n] := if_pos ho
  rw [e]; simp
theorem fewL_min {n : Nat} {g : Nat → Nat → Int} {x : Int} (hc : copC n g x = 0) (h1 : 1 ≤ n) (h8 : n ≤ 8) :
    fewL n g x = minL (fun j => (gdL n (okB (cB g n x) n) (2 ^ n - 1)).getD j []) (gdL n (okB (cB g n x) n) (2 ^ n - 1)).length := by
  have hs := gdL_some (cB g n x) h1 h8
  rw [fewL_ok hc, fewB_min, if_neg (fun h => by rw [h] at hs; simp at hs)]
  rfl
theorem dF_bv (g : Nat → Nat → Int) (n : Nat) (x : Int) (i : Nat) : dF g n x i = bvI (dBs g n x i) := rfl

set_option maxRecDepth 100000 in
set_option maxHeartbeats 8000000 in
theorem fewestCopies_ok (s : Ers) (A : Option Addr) (n cap : Nat) (g : Nat → Nat → Int) (x : Int) (hn : n ≤ 1048576) (hs : ∀ i, i < n → S16 (g i)) (hc : copC n g x = 0) (w : World) (hr : PrsIn w A n g) (hE : ErrEnv s w) :
    Calls Tryz.prog 35 #[.slice A n cap, .int .i64 x] w fun e w' => ∃ u, e = .returned (.tuple #[u, .nilIface]) ∧ OwnL w' w.heap.size w'.heap.size u (fewL n g x) ∧ Below w.heap.size w w' := by
  have h8 := copC_pos hc
  have hp := two_pow8 h8.1 h8.2
  have k0 := (Below.refl w.heap.size w).alloc (Nat.le_refl _) (.cells #[.slice A n cap] 24)
  have hr0 := hr.below k0 (Nat.le_refl _)
  have hq := dustOf_ok s A n cap g x hn hs hc _ hr0 (hE.below k0 (Nat.le_refl _))
  have c20 : (w.alloc (.cells #[.slice A n cap] 24)).cell? ⟨w.heap.size, 0, none⟩ = some (.slice A n cap) := by simp
  have HALL := Lib.hid (anD_all hc)
  have HOK := Lib.hid (fun t => ok_iff hc t)
  rw [fewL_min hc h8.1 h8.2]
  obtain ⟨LR, hLR⟩ : ∃ LR, LR = minL (fun j => (gdL n (okB (cB g n x) n) (2 ^ n - 1)).getD j []) (gdL n (okB (cB g n x) n) (2 ^ n - 1)).length := ⟨_, rfl⟩
  rw [← hLR]
  have HLR := Lib.hid hLR; clear hLR
  have HGS := Lib.hid (gdL_some (cB g n x) h8.1 h8.2)
  have HDU := Lib.hid (fun M b N W c h1 h2 => dustInAll_any M b N n g (dF g n x) (dBs g n x) (fun i _ => dF_bv g n x i) hs A n c g (fun i => i) (fun i hi => ⟨hi, rfl⟩) hn W h1 h2)
  have HF1 := Lib.hid (fun M b N B m c xs hm ha q6 q2 q8 W h1 h2 h3 h4 h5 h6 => few1_any A n cap g M b N (dF g n x) (dBs g n x) (fun i _ => dF_bv g n x i) hs 0#64 B m c xs hm ha q6 q2 q8 W h1 h2 h3 h4 h5 h6)
  have Hq := Lib.hid hq; have HR := Lib.hid hr0; have C2 := Lib.hid c20
  clear hq hr hr0 hE hs c20 hc
  have hl2 : w.heap.size < (w.alloc (.cells #[.slice A n cap] 24)).heap.size := by simp
  go_enter Tryz.func35, Tryz.ntmps35
  go_wp2_with fail
  generalize w.alloc (.cells #[.slice A n cap] 24) = W0 at *
  refine Hq.out.mono ?_; rintro e w2 ⟨b, N, hN, rfl, hwb, hdm, hb2⟩
  have a2 : (w2.alloc (.cells Tryz.zeroCells90 90)).heap[w2.heap.size]? = some (.cells Tryz.zeroCells90 90 (0, 0)) := heap_alloc_last w2 _
  have kk := below_setRow ((Below.refl w2.heap.size w2).alloc (Nat.le_refl _) (.cells Tryz.zeroCells90 90)) (b := w2.heap.size) (Nat.le_refl _) (dsV (medF g n) b)
  have ds : HasDs ((w2.alloc (.cells Tryz.zeroCells90 90)).setRow w2.heap.size (dsV (medF g n) b)) w2.heap.size (medF g n) b := setRow_heap _ _ _ _ _ _ a2
  have dm := hdm.below kk hdm.lt
  have k02 := hb2.trans (kk.mono hb2.size)
  have hr3 := HR.out.below k02 (Nat.le_refl _)
  have c23 := below_cellOf k02 C2.out (Nat.le_refl _)
  have k3 := k0.trans (k02.mono k0.size)
  clear hdm hb2 Hq kk k02 C2 k0
  generalize medF g n = M at *
  go_wp2_with (first | (refine wpList_store_ds a2 dzSize rfl (.tmp 6) (.tmp 14) rfl rfl rfl ?_) | (refine wpList_load_ds ds rfl (.tmp 6) rfl rfl ?_))
  clear a2
  have hl6 := ds.lt
  generalize ((w2.alloc (.cells Tryz.zeroCells90 90)).setRow w2.heap.size (dsV M b)) = W3 at *
  generalize w2.heap.size = q6 at *
  refine (HDU.out M b N W3 cap dm hr3).mono ?_; rintro e w4 ⟨rfl, hb4⟩
  rw [HALL.out]
  have k4 := k3.trans (hb4.mono k3.size)
  have kk := (Below.refl w4.heap.size w4).alloc (Nat.le_refl _) (.cells #[.int .u64 (bvI 0#64)] 59)
  have c85 : (w4.alloc (.cells #[.int .u64 (bvI 0#64)] 59)).cell? ⟨w4.heap.size, 0, none⟩ = some (.int .u64 (bvI 0#64)) := by simp
  have k5 := hb4.trans (kk.mono hb4.size)
  have c25 := below_cellOf k5 c23 (Nat.le_refl _)
  have H6 := Lib.hid (ds.below k5 hl6)
  have HDM := Lib.hid (dm.below k5 dm.lt)
  have HR5 := Lib.hid (hr3.below k5 (Nat.le_refl _))
  have K5 := Lib.hid (k3.trans (k5.mono k3.size))
  have H8 := Lib.hid c85; have H2 := Lib.hid c25
  clear hr3 dm ds c23 k3 k4 k5 hb4 HALL HDU HR kk c85
  go_wp2_with fail
  clear c25
  generalize w4.alloc (.cells #[.int .u64 (bvI 0#64)] 59) = W5 at *
  generalize w4.heap.size = q8 at *
  refine (choicesOf_any n h8.2 W5).mono ?_; rintro e w6 ⟨gg, cg, rfl, hro, hb6⟩
  have HRO := Lib.hid hro; have HB6 := Lib.hid hb6
  clear hro hb6
  obtain ⟨del, hdel⟩ : ∃ del : Nat → Bool, del = fun t => !okB (cB g n x) n t := ⟨_, rfl⟩
  have hd0 : del 0 = true := by
    rw [hdel]
    show (!okB (cB g n x) n 0) = true
    rcases h : okB (cB g n x) n 0 with _ | _
    · rfl
    · have h0 := (HOK.out 0).1 h
      rw [subI_zero] at h0
      exact absurd h0 (anD_nil _)
  have hcl : ∀ j, j < 2 ^ n → ∀ W u, Below W5.heap.size W5 W → IL W W5.heap.size u (subI j n) → Calls Tryz.prog 58 #[u, .pointer (some ⟨q6, 0, none⟩), .pointer (some ⟨w.heap.size, 0, none⟩), .pointer (some ⟨q8, 0, none⟩)] W fun e w' => e = .returned (.bool (del j)) ∧ Below W.heap.size W w' := fun j hj W u hb hu => by
    obtain ⟨B, c, rfl, hi⟩ := hu.ints
    have hlen := subI_len j n
    refine (HF1.out M b N B (subI j n).length c (fun k => (subI j n).getD k 0) (by omega) (fun i hi => by
      obtain ⟨k, h1, h2, _⟩ := subI_lt j n i hi
      exact inB_true.2 (by rw [h1]; omega)) q6 w.heap.size q8 W (HR5.out.below hb (Nat.le_refl _)) hi (HDM.out.below hb HDM.out.lt) (H6.out.below hb H6.out.lt) (below_cellOf hb H2.out (Nat.le_refl _)) (below_cellOf hb H8.out (Nat.le_refl _))).mono ?_
    rintro e w' ⟨rfl, hb'⟩
    refine ⟨?_, hb'⟩
    rw [hdel]
    have h := HOK.out j
    show Ending.returned (.bool (!decide (_ = 0#64))) = .returned (.bool (!okB (cB g n x) n j))
    rcases ho : okB (cB g n x) n j with _ | _
    · rw [decide_eq_false (fun e => by rw [h.2 e] at ho; cases ho)]
    · rw [decide_eq_true (h.1 ho)]
  have hdf := DeleteFunc_any W5.heap.size gg (2 ^ n) cg (fun t => subI t n) del (.pointer (some ⟨q6, 0, none⟩)) (.pointer (some ⟨w.heap.size, 0, none⟩)) (.pointer (some ⟨q8, 0, none⟩)) W5 w6 (by omega) (by omega) HRO.out hd0 HB6.out (Nat.le_refl _) hcl
  obtain ⟨t, ht⟩ : ∃ t, 2 ^ n = t + 1 := ⟨2 ^ n - 1, by omega⟩
  have hkp : kpL (fun t => subI t n) del (2 ^ n) = gdL n (okB (cB g n x) n) (2 ^ n - 1) := by
    rw [ht, kpL_gdL hd0 (ok := okB (cB g n x) n) (fun k => by rw [hdel])]
    rfl
  rw [hkp] at hdf
  clear hkp hcl hd0 ht hdel
  have HDF := Lib.hid hdf
  clear hdf HRO HF1 HDM H6 H8 H2 HOK
  have HGL := Lib.hid (gdL_len n (okB (cB g n x) n) (2 ^ n - 1))
  have HGA := Lib.hid (fun j => gdL_at n (okB (cB g n x) n) (2 ^ n - 1) j)
  generalize gdL n (okB (cB g n x) n) (2 ^ n - 1) = gl at *
  generalize hTT : 2 ^ n = T at *
  clear hTT
  go_wp2_with fail
  refine HDF.out.mono ?_; rintro e w7 ⟨rfl, hll, hb7⟩
  have hgs := HGS.out
  have hgl := HGL.out
  have hmf := MinFunc_any W5.heap.size w7.heap.size (some ⟨gg, 0, none⟩) gl.length cg (fun j => gl.getD j []) hgs (by omega) (fun j _ => Nat.le_trans (HGA.out j) (by omega)) w7 (Nat.le_refl _) hll
  have HMF := Lib.hid hmf; have HB7 := Lib.hid hb7
  clear hmf hb7 hll HDF HB6 hgs hgl HGL HGA HGS
  generalize gl.length = gn at *
  go_wp2_with fail
  refine HMF.out.mono ?_; rintro e w8 ⟨v, rfl, hv, hb8⟩
  have hk7 := K5.out.trans (HB7.out.mono K5.out.size)
  have hk8 := hk7.trans (hb8.mono hk7.size)
  have HV := Lib.hid (hv.mono (L' := w.heap.size) (U' := w8.heap.size) K5.out.size hb8.size)
  obtain ⟨A8, c8, rfl, _⟩ := hv.ints
  clear hv hk7 HB7 hb8
  generalize (minL (fun j => gl.getD j []) gn) = ml at *
  go_wp2_with fail
  go_ret2
  exact ⟨_, rfl, by rw [HLR.out]; exact HV.out, hk8⟩
theorem FewestCopies_any (s : Ers) (A : Option Addr) (n cap : Nat) (g : Nat → Nat → Int) (x : Int) (hn : n ≤ 1048576) (hs : ∀ i, i < n → S16 (g i)) (w : World) (hr : PrsIn w A n g) (hE : ErrEnv s w) :
    Calls Tryz.prog 13 #[.slice A n cap, .int .i64 x] w fun e w' => ∃ u, e = .returned (.tuple #[u, .int .i64 (copC n g x)]) ∧ OwnL w' w.heap.size w'.heap.size u (fewL n g x) ∧ Below w.heap.size w w' := by
  refine FewestCopies_ex s A n cap x (fewL n g x) (copE s (copC n g x)) (copC n g x) (copE_code s n g x) w hE ?_
  by_cases hc : copC n g x = 0
  · have h := fewestCopies_ok s A n cap g x hn hs hc w hr hE
    rw [hc]
    exact h
  · have h := fewestCopies_bad s A n cap g x hn hc w hr hE
    rw [fewL_no hc]
    exact h
end Go.Proofs.YtmibinfaafhgdaaGreatDoor

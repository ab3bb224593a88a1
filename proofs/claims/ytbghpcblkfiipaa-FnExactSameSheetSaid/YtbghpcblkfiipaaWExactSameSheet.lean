/-
  The walk of the law FnExactSameSheet: it returns true for every argument. No condition.
-/
import Derived.Test.YtbghpcblkfiipaaOpenPr
import Derived.Test.YtbghpcblkfiipaaSame
import Derived.Deep.RegionHeld3
import Derived.Deep.Cut
namespace Go.Proofs.Ytbghpcblkfiipaa
open Go.RowKit

theorem held4 {w2 w' : World} {p q r s : Addr} {v1 v2 v3 v4 : Value} (a : w2.cell? p = some v1) (b : w2.cell? q = some v2) (c : w2.cell? r = some v3) (d : w2.cell? s = some v4) (k : Below w2.heap.size w2 w') :
    w'.cell? p = some v1 ∧ w'.cell? q = some v2 ∧ w'.cell? r = some v3 ∧ w'.cell? s = some v4 ∧ Below w2.heap.size w2 w' :=
  ⟨below_cellOf k a (Nat.le_refl _), below_cellOf k b (Nat.le_refl _), below_cellOf k c (Nat.le_refl _), below_cellOf k d (Nat.le_refl _), k⟩

set_option maxRecDepth 100000 in
set_option maxHeartbeats 8000000 in
theorem walk_FnExactSameSheet (X : Int) (A : Option Addr) (n cap : Nat) (g : Nat → Nat → Int) (Y : Int) (A' : Option Addr) (m cap' : Nat) (h : Nat → Nat → Int) (w : World) (hX : -128 ≤ X ∧ X ≤ 127) (hr : PrsIn w A n g) (hmx : n ≤ maxLen) (hs : ∀ i, i < n → S16 (g i)) (hY : -128 ≤ Y ∧ Y ≤ 127) (hr' : PrsIn w A' m h) (hmx' : m ≤ maxLen) (hs' : ∀ i, i < m → S16 (h i)) :
    Calls Try.prog 4 #[.agg #[.int .i8 X, .slice A n cap], .agg #[.int .i8 Y, .slice A' m cap']] w fun e w' => e = .returned (.bool true) ∧ Below w.heap.size w w' := by
  unfold maxLen at hmx hmx'
  clear hs hs'
  have k0 := ((Below.refl w.heap.size w).alloc (Nat.le_refl _) (.cells #[.int .i8 X, .slice A n cap] 25)).alloc (by simp) (.cells #[.int .i8 Y, .slice A' m cap'] 25)
  have b00 : ((w.alloc (.cells #[.int .i8 X, .slice A n cap] 25)).alloc (.cells #[.int .i8 Y, .slice A' m cap'] 25)).cell? ⟨w.heap.size + 1, 0, none⟩ = some (.int .i8 Y) := by simp
  have b01 : ((w.alloc (.cells #[.int .i8 X, .slice A n cap] 25)).alloc (.cells #[.int .i8 Y, .slice A' m cap'] 25)).cell? ⟨w.heap.size + 1, 1, none⟩ = some (.slice A' m cap') := by simp
  by_cases hn : n ≤ 1048576
  rotate_left
  · clear hr hr'
    have hz := fun W => szSheet_any X A n cap 1048576 (by omega) (by omega) hmx W
    rw [if_neg (by omega)] at hz
    have Hz := Lib.hid hz; clear hz
    go_enter Try.func4, Try.ntmps4
    go_wp2_with fail
    refine (Hz.out _).mono ?_; rintro e w1 ⟨rfl, hb1⟩
    have k1 := k0.trans (hb1.mono k0.size)
    clear b00 b01
    go_wp2
    go_ret
    exact ⟨rfl, k1⟩
  have hz := fun W => szSheet_any X A n cap 1048576 (by omega) (by omega) hmx W
  rw [if_pos (by omega)] at hz
  have Hz := Lib.hid hz; clear hz
  by_cases hm : m ≤ 1048576 - n
  rotate_left
  · clear hr hr'
    have hz' := fun W => szSheet_any Y A' m cap' (1048576 - (n : Int)) (by omega) (by omega) hmx' W
    rw [if_neg (by omega)] at hz'
    have Hz' := Lib.hid hz'; clear hz'
    go_enter Try.func4, Try.ntmps4
    go_wp2_with fail
    refine (Hz.out _).mono ?_; rintro e w1 ⟨rfl, hb1⟩
    have k1 := k0.trans (hb1.mono k0.size)
    have b10 := below_cellOf hb1 b00 (Nat.le_refl _)
    have b11 := below_cellOf hb1 b01 (Nat.le_refl _)
    clear b00 b01
    go_wp2_with fail
    refine (Hz'.out _).mono ?_; rintro e w2 ⟨rfl, hb2⟩
    have k2 := k1.trans (hb2.mono k1.size)
    clear b10 b11
    go_wp2
    go_ret
    exact ⟨rfl, k2⟩
  have hz' := fun W => szSheet_any Y A' m cap' (1048576 - (n : Int)) (by omega) (by omega) hmx' W
  rw [if_pos (by omega)] at hz'
  have Hz' := Lib.hid hz'; clear hz'
  have hm' : m ≤ 1048576 := by omega
  have Hto := Lib.hid (fun W h0 => toSheet_any X A n cap g hn W h0)
  have Hto' := Lib.hid (fun W h0 => toSheet_any Y A' m cap' h hm' W h0)
  have Hsp := Lib.hid (fun b b' W h0 h1 => specSameSheet_any X Y (some ⟨b, 0, none⟩) (some ⟨b', 0, none⟩) n m n m g h hn hm' W h0 h1)
  have Him := Lib.hid (fun b b' W h0 h1 => SameSheet_any X Y (some ⟨b, 0, none⟩) (some ⟨b', 0, none⟩) n m n m g h hn hm' W h0 h1)
  have Heq := Lib.hid (fun b b' W h0 h1 => eqSheet_same X (some ⟨b, 0, none⟩) (some ⟨b', 0, none⟩) n n n g hn W h0 h1)
  have Heq' := Lib.hid (fun b b' W h0 h1 => eqSheet_same Y (some ⟨b, 0, none⟩) (some ⟨b', 0, none⟩) m m m h hm' W h0 h1)
  generalize samB X Y n m g h = B at *
  have Hr := Lib.hid hr; clear hr
  have Hr' := Lib.hid hr'; clear hr'
  have a00 : ((w.alloc (.cells #[.int .i8 X, .slice A n cap] 25)).alloc (.cells #[.int .i8 Y, .slice A' m cap'] 25)).cell? ⟨w.heap.size, 0, none⟩ = some (.int .i8 X) := by simp
  have a01 : ((w.alloc (.cells #[.int .i8 X, .slice A n cap] 25)).alloc (.cells #[.int .i8 Y, .slice A' m cap'] 25)).cell? ⟨w.heap.size, 1, none⟩ = some (.slice A n cap) := by simp
  have hl : (1048576 - (n : Int)) - m = 1048576 - n - m := rfl
  go_enter Try.func4, Try.ntmps4
  go_wp2_with fail
  refine (Hz.out _).mono ?_; rintro e w1 ⟨rfl, hb1⟩
  have k1 := k0.trans (hb1.mono k0.size)
  have a10 := below_cellOf hb1 a00 (Nat.le_refl _)
  have a11 := below_cellOf hb1 a01 (Nat.le_refl _)
  have b10 := below_cellOf hb1 b00 (Nat.le_refl _)
  have b11 := below_cellOf hb1 b01 (Nat.le_refl _)
  clear a00 a01 b00 b01
  go_wp2_with fail
  refine (Hz'.out _).mono ?_; rintro e w2 ⟨rfl, hb2⟩
  have k2 := k1.trans (hb2.mono k1.size)
  have a20 := below_cellOf hb2 a10 (Nat.le_refl _)
  have a21 := below_cellOf hb2 a11 (Nat.le_refl _)
  have b20 := below_cellOf hb2 b10 (Nat.le_refl _)
  have b21 := below_cellOf hb2 b11 (Nat.le_refl _)
  clear a10 a11 b10 b11
  clear hb1 hb2 k0 k1
  have K2 := Lib.hid k2
  go_wp2_with fail
  go_cut [6] from 10 (fun s6 wx => s6 = .bool B ∧ Below w2.heap.size w2 wx)
  case first =>
    go_region_held3 (fun w' => w'.cell? ⟨w.heap.size, 0, none⟩ = some (.int .i8 X) ∧ w'.cell? ⟨w.heap.size, 1, none⟩ = some (.slice A n cap) ∧ w'.cell? ⟨w.heap.size + 1, 0, none⟩ = some (.int .i8 Y) ∧ w'.cell? ⟨w.heap.size + 1, 1, none⟩ = some (.slice A' m cap') ∧ Below w2.heap.size w2 w') (first | assumption | exact held4 a20 a21 b20 b21 (below_drew1 w2) | exact held4 a20 a21 b20 b21 (by assumption))
      (first
        | (go_at_call 11; (with_reducible refine (Hto.out _ (Hr.out.below (B := w.heap.size) (K2.out.trans (Below.mono ?hBA K2.out.size)) (Nat.le_refl _))).mono ?_); (case hBA => first | exact swB.2.2.2.2 | exact below_drew1 w2); rintro e wA ⟨bA, rfl, qA, rA, hbA⟩; have swA := held4 a20 a21 b20 b21 (Below.trans (b := _) (by first | exact swB.2.2.2.2 | exact below_drew1 w2) (hbA.mono (by first | exact swB.2.2.2.2.size | exact Nat.le_refl _))))
        | (go_at_call 11; (with_reducible refine (Hto'.out _ (Hr'.out.below (B := w.heap.size) (K2.out.trans (Below.mono ?hBB K2.out.size)) (Nat.le_refl _))).mono ?_); (case hBB => first | exact swA.2.2.2.2 | exact below_drew1 w2); rintro e wB ⟨bB, rfl, qB, rB, hbB⟩; have swB := held4 a20 a21 b20 b21 (Below.trans (b := _) (by first | exact swA.2.2.2.2 | exact below_drew1 w2) (hbB.mono (by first | exact swA.2.2.2.2.size | exact Nat.le_refl _))))
        | (go_at_call 14; (with_reducible refine (Hsp.out _ _ _ ?hpA ?hpB).mono ?_); (case hpA => first | exact rA.prs | exact rA.prs.below hbB (Nat.le_refl _)); (case hpB => first | exact rB.prs | exact rB.prs.below hbA (Nat.le_refl _)); rintro e w8 ⟨rfl, hb8⟩; have sw8 := held4 a20 a21 b20 b21 (Below.trans (b := _) (by first | exact swA.2.2.2.2.trans (hbB.mono swA.2.2.2.2.size) | exact swB.2.2.2.2.trans (hbA.mono swB.2.2.2.2.size)) (hb8.mono (by first | exact (swA.2.2.2.2.trans (hbB.mono swA.2.2.2.2.size)).size | exact (swB.2.2.2.2.trans (hbA.mono swB.2.2.2.2.size)).size)))))
    all_goals
      go_wp2_with fail
      go_meet
      exact ⟨rfl, by first | exact sw8.2.2.2.2 | exact sw8.2.2.2.2.drew⟩
  obtain ⟨rfl, k8⟩ := hcut
  have k3 := K2.out.trans (k8.mono K2.out.size)
  have a30 := below_cellOf k8 a20 (Nat.le_refl _)
  have a31 := below_cellOf k8 a21 (Nat.le_refl _)
  have b30 := below_cellOf k8 b20 (Nat.le_refl _)
  have b31 := below_cellOf k8 b21 (Nat.le_refl _)
  clear a20 a21 b20 b21 k8
  go_wp2_with fail
  refine (Hto.out _ (Hr.out.below k3 (Nat.le_refl _))).mono ?_; rintro e w4 ⟨b4, rfl, q4, r4, hb4⟩
  have k4 := k3.trans (hb4.mono k3.size)
  have a40 := below_cellOf hb4 a30 (Nat.le_refl _)
  have a41 := below_cellOf hb4 a31 (Nat.le_refl _)
  have b40 := below_cellOf hb4 b30 (Nat.le_refl _)
  have b41 := below_cellOf hb4 b31 (Nat.le_refl _)
  clear a30 a31 b30 b31
  have t4 := (Below.refl w4.heap.size w4).alloc (Nat.le_refl _) (.cells #[.int .i8 X, .slice (some ⟨b4, 0, none⟩) n n] 30)
  have k5 := k4.alloc k4.size (.cells #[.int .i8 X, .slice (some ⟨b4, 0, none⟩) n n] 30)
  have x50 : (w4.alloc (.cells #[.int .i8 X, .slice (some ⟨b4, 0, none⟩) n n] 30)).cell? ⟨w4.heap.size, 0, none⟩ = some (.int .i8 X) := by simp
  have x51 : (w4.alloc (.cells #[.int .i8 X, .slice (some ⟨b4, 0, none⟩) n n] 30)).cell? ⟨w4.heap.size, 1, none⟩ = some (.slice (some ⟨b4, 0, none⟩) n n) := by simp
  have a50 := below_cellOf t4 a40 (Nat.le_refl _)
  have a51 := below_cellOf t4 a41 (Nat.le_refl _)
  have b50 := below_cellOf t4 b40 (Nat.le_refl _)
  have b51 := below_cellOf t4 b41 (Nat.le_refl _)
  have r5 := r4.below t4 r4.lt
  clear a40 a41 b40 b41 t4 r4 q4 hb4 k4 k3
  go_wp2_with fail
  refine (Hto'.out _ (Hr'.out.below k5 (Nat.le_refl _))).mono ?_; rintro e w6 ⟨b6, rfl, q6, r6, hb6⟩
  have k6 := k5.trans (hb6.mono k5.size)
  have a60 := below_cellOf hb6 a50 (Nat.le_refl _)
  have a61 := below_cellOf hb6 a51 (Nat.le_refl _)
  have b60 := below_cellOf hb6 b50 (Nat.le_refl _)
  have b61 := below_cellOf hb6 b51 (Nat.le_refl _)
  have x60 := below_cellOf hb6 x50 (Nat.le_refl _)
  have x61 := below_cellOf hb6 x51 (Nat.le_refl _)
  clear a50 a51 b50 b51 x50 x51
  have r5 := r5.below hb6 r5.lt
  have t6 := (Below.refl w6.heap.size w6).alloc (Nat.le_refl _) (.cells #[.int .i8 Y, .slice (some ⟨b6, 0, none⟩) m m] 30)
  have k7 := k6.alloc k6.size (.cells #[.int .i8 Y, .slice (some ⟨b6, 0, none⟩) m m] 30)
  have y70 : (w6.alloc (.cells #[.int .i8 Y, .slice (some ⟨b6, 0, none⟩) m m] 30)).cell? ⟨w6.heap.size, 0, none⟩ = some (.int .i8 Y) := by simp
  have y71 : (w6.alloc (.cells #[.int .i8 Y, .slice (some ⟨b6, 0, none⟩) m m] 30)).cell? ⟨w6.heap.size, 1, none⟩ = some (.slice (some ⟨b6, 0, none⟩) m m) := by simp
  have a70 := below_cellOf t6 a60 (Nat.le_refl _)
  have a71 := below_cellOf t6 a61 (Nat.le_refl _)
  have b70 := below_cellOf t6 b60 (Nat.le_refl _)
  have b71 := below_cellOf t6 b61 (Nat.le_refl _)
  have x70 := below_cellOf t6 x60 (Nat.le_refl _)
  have x71 := below_cellOf t6 x61 (Nat.le_refl _)
  have r7 := r6.below t6 r6.lt
  have s7 := r5.below t6 r5.lt
  clear a60 a61 b60 b61 x60 x61 t6 r6 q6 hb6 k6 k5 r5
  go_wp2_with fail
  refine (Him.out _ _ _ s7.prs r7.prs).mono ?_; rintro e w9 ⟨rfl, hb9⟩
  have k9 := k7.trans (hb9.mono k7.size)
  have a90 := below_cellOf hb9 a70 (Nat.le_refl _)
  have a91 := below_cellOf hb9 a71 (Nat.le_refl _)
  have b90 := below_cellOf hb9 b70 (Nat.le_refl _)
  have b91 := below_cellOf hb9 b71 (Nat.le_refl _)
  have x90 := below_cellOf hb9 x70 (Nat.le_refl _)
  have x91 := below_cellOf hb9 x71 (Nat.le_refl _)
  have y90 := below_cellOf hb9 y70 (Nat.le_refl _)
  have y91 := below_cellOf hb9 y71 (Nat.le_refl _)
  clear a70 a71 b70 b71 x70 x71 y70 y71
  have r9 := Lib.hid (r7.below hb9 r7.lt)
  have s9 := Lib.hid (s7.below hb9 s7.lt)
  have K9 := Lib.hid k9
  clear r7 s7 hb9 k7 k9
  go_wp2_with fail
  go_cut [39] from 10 (fun s39 wx => s39 = .bool false ∧ Below w9.heap.size w9 wx)
  case first =>
    go_region_with (first | (go_at_call 11; refine (Hto.out _ (Hr.out.below K9.out.drew (Nat.le_refl _))).mono ?_; rintro e wA ⟨bA, rfl, qA, rA, hbA⟩; have ex0 := below_cellOf hbA (show w9.drew.cell? _ = _ from x90) (Nat.le_refl _); have ex1 := below_cellOf hbA (show w9.drew.cell? _ = _ from x91) (Nat.le_refl _)) | (go_at_call 13; refine (Heq.out _ _ _ (s9.out.prs.below ((below_drew1 w9).trans hbA) (Nat.le_refl _)) rA.prs).mono ?_; rintro e wC ⟨rfl, hbC⟩))
    all_goals
      go_wp2_with fail
      go_meet
      exact ⟨rfl, ((below_drew1 w9).trans hbA).trans (hbC.mono ((below_drew1 w9).trans hbA).size)⟩
  obtain ⟨rfl, kC⟩ := hcut
  have bD0 := below_cellOf kC b90 (Nat.le_refl _)
  have bD1 := below_cellOf kC b91 (Nat.le_refl _)
  have yD0 := below_cellOf kC y90 (Nat.le_refl _)
  have yD1 := below_cellOf kC y91 (Nat.le_refl _)
  have KD := Lib.hid (K9.out.trans (kC.mono K9.out.size))
  have rD := Lib.hid (r9.out.below kC r9.out.lt)
  clear kC a90 a91 b90 b91 x90 x91 y90 y91
  obtain ⟨wD, rfl⟩ : ∃ wD : World, wD = wc := ⟨_, rfl⟩
  go_wp2_with fail
  go_region_with (first | (go_at_call 11; refine (Hto'.out _ (Hr'.out.below KD.out.drew (Nat.le_refl _))).mono ?_; rintro e wE ⟨bE, rfl, qE, rE, hbE⟩; have ey0 := below_cellOf hbE (show wD.drew.cell? _ = _ from yD0) (Nat.le_refl _); have ey1 := below_cellOf hbE (show wD.drew.cell? _ = _ from yD1) (Nat.le_refl _)) | (go_at_call 13; refine (Heq'.out _ _ _ (rD.out.prs.below ((below_drew1 wD).trans hbE) (Nat.le_refl _)) rE.prs).mono ?_; rintro e wG ⟨rfl, hbG⟩))
  all_goals
    go_wp2
    go_ret
    exact ⟨rfl, (KD.out.trans (Below.mono ((below_drew1 wD).trans hbE) KD.out.size)).trans (hbG.mono (Nat.le_trans KD.out.size ((below_drew1 wD).trans hbE).size))⟩
end Go.Proofs.Ytbghpcblkfiipaa

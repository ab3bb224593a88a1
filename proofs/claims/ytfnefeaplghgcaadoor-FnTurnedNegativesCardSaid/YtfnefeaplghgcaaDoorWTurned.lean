/-
  The walk of the law FnTurnedNegatives: it returns true for every argument. Condition: the program's variables hold their own errors.
-/
import Derived.Test.YtfnefeaplghgcaaDoorTurnedP
import Derived.Test.YtfnefeaplghgcaaDoorMaskS
import Derived.Test.YtfnefeaplghgcaaDoorEnv
import Derived.Test.YtfnefeaplghgcaaDoorRows
namespace Go.Proofs.YtfnefeaplghgcaaDoor
open Go.RowKit

theorem Only.thenBelowT {L U B : Nat} {a b c : World} (h : Only L U a b) (h' : Below B b c) (hB : a.heap.size ≤ B) : Only L U a c :=
  ⟨h'.os.trans h.os, h'.tape.trans h.tape, h'.output.trans h.output, Nat.le_trans h.size h'.size, fun k hk hkk => (h'.block k (Nat.lt_of_lt_of_le hk hB)).trans (h.block k hk hkk)⟩
theorem Only.setRowIn {L U b : Nat} {w w' : World} (h : Only L U w w') (h1 : L ≤ b) (h2 : b < U) (cs : Array Value) : Only L U w (w'.setRow b cs) :=
  ⟨h.os, h.tape, h.output, by simpa using h.size, fun k hk hkk => (setRow_other w' b k cs (by omega)).trans (h.block k hk hkk)⟩
theorem below_drewT {B : Nat} {w w' : World} (h : Below B w w') (n : Nat) : Below B w (w'.drewN n) := ⟨h.os, h.tape, h.output, h.size, h.block⟩
theorem natP {m : Nat} {r : Int} (h : Picked m r) (hm : 0 < m) : ∃ i : Nat, r = i ∧ i < m := by
  by_cases h1 : (m : Int) ≤ 1
  · exact ⟨0, h.1 h1, hm⟩
  · have := h.2 (by omega)
    exact ⟨r.toNat, by omega, by omega⟩
/-- The first copy. -/
def CopF (w : World) (g : Nat) (f : Nat → Int) : Prop := g < w.heap.size ∧ ∀ j, j < 64 → w.cell? ⟨g, j, none⟩ = some (.int .i16 (f j))
theorem CopF.lt {w : World} {g : Nat} {f : Nat → Int} (h : CopF w g f) : g < w.heap.size := h.1
theorem CopF.below {w w' : World} {g B : Nat} {f : Nat → Int} (h : CopF w g f) (hb : Below B w w') (hB : g < B) : CopF w' g f :=
  ⟨Nat.lt_of_lt_of_le h.1 hb.size, fun j hj => (hb.cell (p := ⟨g, j, none⟩) hB).trans (h.2 j hj)⟩
theorem bit_of (p : Nat → Bool) {k : Nat} (hk : k < 64) : maskN p 64 / 2 ^ k % 2 = if p k = true then 1 else 0 := by
  have h := maskN_bit p 64 k
  rw [Nat.testBit_eq_decide_div_mod_eq] at h
  have h2 : maskN p 64 / 2 ^ k % 2 < 2 := Nat.mod_lt _ (by omega)
  cases hp : p k with
  | false =>
    rw [hp] at h
    simp at h
    simp; omega
  | true =>
    rw [hp] at h
    simp [hk] at h
    simp [h]
theorem cop_of {w w' : World} {e : Ending} (h : CopiesOut w e w') : ∃ g k c f, e = .returned (.slice (some ⟨g, 0, none⟩) k c) ∧ (1 ≤ k ∧ k ≤ 5) ∧ Dn 64 f ∧ (g < w'.heap.size ∧ ∀ j, j < 64 → w'.cell? ⟨g, j, none⟩ = some (.int .i16 (f j))) ∧ Below w.heap.size w w' := by
  obtain ⟨g, k, c, he, h1, h5, _, ⟨hg, f, hd, hc⟩, hb⟩ := h
  exact ⟨g, k, c, f, he, ⟨h1, h5⟩, fun j hj => hd j (by omega), ⟨hg, fun j hj => hc j (by omega)⟩, hb⟩

set_option maxRecDepth 100000 in
set_option maxHeartbeats 60000000 in
theorem walk_FnTurnedNegatives (A0 : Option Addr) (n0 cap0 : Nat) (bs0 : Nat → Int) (A1 : Option Addr) (n1 cap1 : Nat) (bs1 : Nat → Int) (w : World) (hL : laidMetH Tryd.prog Rows.fnTurnedNegativesRow.laid w) (hx0 : BytesIn w A0 n0 bs0) (hm0 : n0 ≤ maxLen) (hs0 : ∀ j, j < n0 → 0 ≤ bs0 j ∧ bs0 j ≤ 255) (hx1 : BytesIn w A1 n1 bs1) (hm1 : n1 ≤ maxLen) (hs1 : ∀ j, j < n1 → 0 ≤ bs1 j ∧ bs1 j ≤ 255) :
    Calls Tryd.prog 3 #[.slice A0 n0 cap0, .slice A1 n1 cap1] w fun e w' => e = .returned (.bool true) ∧ Below w.heap.size w w' := by
  obtain ⟨s, hE⟩ := errEnv_of_row hL (by kernel_rfl) (by kernel_rfl)
  clear hL
  unfold maxLen at hm0 hm1
  have hf0 := fun W => f6big_any A0 n0 cap0 W hm0
  have hf1 := fun W => f6big_any A1 n1 cap1 W hm1
  by_cases h0 : 4096 < n0
  · rw [decide_eq_true h0] at hf0
    have Hf0 := Lib.hid hf0; clear hf0 hf1 hx0 hx1 hs0 hs1 hE
    go_enter Tryd.func3, Tryd.ntmps3
    go_wp2_with fail
    refine (Hf0.out _).mono ?_; rintro e w1 ⟨rfl, rfl⟩
    go_wp2_with fail
    go_ret
    exact ⟨rfl, Below.refl _ _⟩
  rw [decide_eq_false h0] at hf0
  have Hf0 := Lib.hid hf0; clear hf0
  by_cases h1 : 4096 < n1
  · rw [decide_eq_true h1] at hf1
    have Hf1 := Lib.hid hf1; clear hf1 hx0 hx1 hs0 hs1 hE
    go_enter Tryd.func3, Tryd.ntmps3
    go_wp2_with fail
    refine (Hf0.out _).mono ?_; rintro e w1 ⟨rfl, rfl⟩
    go_wp2_with fail
    refine (Hf1.out _).mono ?_; rintro e w1 ⟨rfl, rfl⟩
    go_wp2_with fail
    go_ret
    exact ⟨rfl, Below.refl _ _⟩
  rw [decide_eq_false h1] at hf1
  have Hf1 := Lib.hid hf1; clear hf1
  have hne := fun W h => P6Negative_any A0 n0 cap0 bs0 (by omega) hs0 W h
  have hc0 := fun W h => P6Copies_any A0 n0 cap0 bs0 (by omega) hs0 W h
  have hc1 := fun W h => P6Copies_any A1 n1 cap1 bs1 (by omega) hs1 W h
  have hp0 := fun m W h h' h'' => P6Pick_any A0 n0 cap0 bs0 m h h' (by omega) hs0 W h''
  have hp1 := fun m W h h' h'' => P6Pick_any A1 n1 cap1 bs1 m h h' (by omega) hs1 W h''
  have Hne := Lib.hid hne; clear hne
  have Hc0 := Lib.hid hc0; clear hc0
  have Hc1 := Lib.hid hc1; clear hc1
  have Hp0 := Lib.hid hp0; clear hp0
  have Hp1 := Lib.hid hp1; clear hp1
  have HX0 := Lib.hid hx0; clear hx0 hs0 hm0 h0
  have HX1 := Lib.hid hx1; clear hx1 hs1 hm1 h1
  have HE := Lib.hid hE; clear hE
  have hinfo : ∃ i, Tryd.prog.info? 24 = some i := info16
  obtain ⟨i16, hi16⟩ := hinfo
  have hcl : Tryd.prog.cellsOf 24 = 1 := by kernel_rfl
  have heq := fun (a b : Nat → Int) (h : eqN a b 64 = true) W => (run_equal_arr (P := Tryd.prog) W a b Tryd.underlying26 Tryd.underlying24 hi16 hcl).trans (by rw [h])
  have Heq := Lib.hid heq; clear heq hi16 hcl
  go_enter Tryd.func3, Tryd.ntmps3
  go_wp2_with fail
  refine (Hf0.out _).mono ?_; rintro e w1 ⟨rfl, rfl⟩
  go_wp2_with fail
  refine (Hf1.out _).mono ?_; rintro e w1 ⟨rfl, rfl⟩
  clear Hf0 Hf1
  go_wp2_with fail
  refine (Hne.out _ HX0.out).mono ?_; rintro e w1 ⟨f, rfl, hf, k1⟩
  clear Hne
  have hmi : ∀ W, ErrEnv s W → Calls Tryd.prog 6 #[.agg (arrV .i16 64 f)] W fun e w' => e = .returned (.tuple #[.agg (arrV .i16 64 fun k => f (mirP k)), .int .i64 0]) ∧ Below W.heap.size W w' := fun W h => by
    have h1 := MirrorNegative_any s f W h
    rw [hf.dns] at h1
    exact h1
  have hsm : ∀ W, Calls Tryd.prog 7 #[.agg (arrV .i16 64 f)] W fun e w' => e = .returned (.tuple #[.agg (arrV .i16 64 fun k => f (mirP k)), .int .i64 0]) ∧ Below W.heap.size W w' := fun W => by
    have h1 := specMirrorNegative_any f hf.S W
    rw [hf.dns] at h1
    exact h1
  have hm2 : ∀ W, ErrEnv s W → Calls Tryd.prog 6 #[.agg (arrV .i16 64 fun k => f (mirP k))] W fun e w' => e = .returned (.tuple #[.agg (arrV .i16 64 fun k => f (mirP (mirP k))), .int .i64 0]) ∧ Below W.heap.size W w' := fun W h => by
    have h1 := MirrorNegative_any s (fun k => f (mirP k)) W h
    rw [show dnsB (fun k => f (mirP k)) = true from Dn.dns fun j hj => hf _ (mirP_lt hj)] at h1
    exact h1
  have htu : ∀ k W, ErrEnv s W → Calls Tryd.prog 8 #[.agg (arrV .i16 64 (iterT f k))] W fun e w' => e = .returned (.tuple #[.agg (arrV .i16 64 (iterT f (k + 1))), .int .i64 0]) ∧ Below W.heap.size W w' := fun k W h => by
    have h1 := TurnNegative_any s (iterT f k) W h
    rw [(iterT_dn hf k).dns] at h1
    exact h1
  have hst : ∀ k W, Calls Tryd.prog 9 #[.agg (arrV .i16 64 (iterT f k))] W fun e w' => e = .returned (.tuple #[.agg (arrV .i16 64 (iterT f (k + 1))), .int .i64 0]) ∧ Below W.heap.size W w' := fun k W => by
    have h1 := specTurnNegative_any (iterT f k) (iterT_dn hf k).S W
    rw [(iterT_dn hf k).dns] at h1
    exact h1
  have hen : ∀ (X Y : Nat) W, X ≤ 4 → Y ≤ 4 → ErrEnv s W → Calls Tryd.prog 11 #[.agg (arrV .i16 64 f), .int .i64 (X : Int), .int .i64 (Y : Int)] W fun e w' => e = .returned (.tuple #[.agg (arrV .i16 64 fun k => f (enlP X Y k)), .int .i64 0]) ∧ Below W.heap.size W w' := fun X Y W hX hY h => by
    have h1 := EnlargePart_any s f X Y W h
    rw [enV, hf.dns, inB_true.2 (show (0 : Int) ≤ (X : Int) ∧ (X : Int) ≤ 4 by omega), inB_true.2 (show (0 : Int) ≤ (Y : Int) ∧ (Y : Int) ≤ 4 by omega)] at h1
    exact h1
  have e1 := eqN_self (fun k => f (mirP k)) 64
  have e2 := mir2 f
  have e3 := fun k => eqN_self (iterT f k) 64
  have e4 := iterT4 f
  have HQ := Lib.hid (And.intro e1 (And.intro e2 (And.intro e3 e4)))
  clear e1 e2 e3 e4
  have Hmi := Lib.hid hmi; clear hmi
  have Hsm := Lib.hid hsm; clear hsm
  have Hm2 := Lib.hid hm2; clear hm2
  have Htu := Lib.hid htu; clear htu
  have Hst := Lib.hid hst; clear hst
  have Hen := Lib.hid hen; clear hen hf
  have k1 := Lib.hid k1
  have z2 := HasArr.zero w1 26 (b := w1.heap.size) (by simp)
  have t2 := below_setRow ((Below.refl w1.heap.size w1).alloc (Nat.le_refl _) (.cells #[.int .i16 0, .int .i16 0, .int .i16 0, .int .i16 0, .int .i16 0, .int .i16 0, .int .i16 0, .int .i16 0, .int .i16 0, .int .i16 0, .int .i16 0, .int .i16 0, .int .i16 0, .int .i16 0, .int .i16 0, .int .i16 0, .int .i16 0, .int .i16 0, .int .i16 0, .int .i16 0, .int .i16 0, .int .i16 0, .int .i16 0, .int .i16 0, .int .i16 0, .int .i16 0, .int .i16 0, .int .i16 0, .int .i16 0, .int .i16 0, .int .i16 0, .int .i16 0, .int .i16 0, .int .i16 0, .int .i16 0, .int .i16 0, .int .i16 0, .int .i16 0, .int .i16 0, .int .i16 0, .int .i16 0, .int .i16 0, .int .i16 0, .int .i16 0, .int .i16 0, .int .i16 0, .int .i16 0, .int .i16 0, .int .i16 0, .int .i16 0, .int .i16 0, .int .i16 0, .int .i16 0, .int .i16 0, .int .i16 0, .int .i16 0, .int .i16 0, .int .i16 0, .int .i16 0, .int .i16 0, .int .i16 0, .int .i16 0, .int .i16 0, .int .i16 0] 26)) (b := w1.heap.size) (by simp) (arrV .i16 64 f)
  have F5_n2 := Lib.hid (z2.setRow .i16 f)
  have k_2 := Lib.hid (k1.out.trans (t2.mono k1.out.size))
  clear k1
  clear t2
  go_wp2_with (first | (refine wpList_store_arr (z2) 26 (.tmp 5) (.tmp 47) rfl rfl rfl rfl sizeNeg ?_) | (refine wpList_load_arr (F5_n2.out) 26 (.tmp 5) rfl rfl rfl Tryd.underlying26 sizeNeg ?_))
  clear z2
  generalize ((w1.alloc (.cells #[.int .i16 0, .int .i16 0, .int .i16 0, .int .i16 0, .int .i16 0, .int .i16 0, .int .i16 0, .int .i16 0, .int .i16 0, .int .i16 0, .int .i16 0, .int .i16 0, .int .i16 0, .int .i16 0, .int .i16 0, .int .i16 0, .int .i16 0, .int .i16 0, .int .i16 0, .int .i16 0, .int .i16 0, .int .i16 0, .int .i16 0, .int .i16 0, .int .i16 0, .int .i16 0, .int .i16 0, .int .i16 0, .int .i16 0, .int .i16 0, .int .i16 0, .int .i16 0, .int .i16 0, .int .i16 0, .int .i16 0, .int .i16 0, .int .i16 0, .int .i16 0, .int .i16 0, .int .i16 0, .int .i16 0, .int .i16 0, .int .i16 0, .int .i16 0, .int .i16 0, .int .i16 0, .int .i16 0, .int .i16 0, .int .i16 0, .int .i16 0, .int .i16 0, .int .i16 0, .int .i16 0, .int .i16 0, .int .i16 0, .int .i16 0, .int .i16 0, .int .i16 0, .int .i16 0, .int .i16 0, .int .i16 0, .int .i16 0, .int .i16 0, .int .i16 0] 26)).setRow (w1.heap.size) (arrV .i16 64 f)) = V2 at *
  refine (Hmi.out _ (HE.out.below k_2.out (Nat.le_refl _))).mono ?_; rintro e w3 ⟨rfl, hb3⟩
  have F5_3 := Lib.hid (F5_n2.out.below hb3 F5_n2.out.lt)
  have k_3 := Lib.hid (k_2.out.trans (hb3.mono k_2.out.size))
  clear F5_n2 k_2
  clear hb3
  have z4 := HasArr.zero w3 26 (b := w3.heap.size) (by simp)
  have t4 := below_setRow ((Below.refl w3.heap.size w3).alloc (Nat.le_refl _) (.cells #[.int .i16 0, .int .i16 0, .int .i16 0, .int .i16 0, .int .i16 0, .int .i16 0, .int .i16 0, .int .i16 0, .int .i16 0, .int .i16 0, .int .i16 0, .int .i16 0, .int .i16 0, .int .i16 0, .int .i16 0, .int .i16 0, .int .i16 0, .int .i16 0, .int .i16 0, .int .i16 0, .int .i16 0, .int .i16 0, .int .i16 0, .int .i16 0, .int .i16 0, .int .i16 0, .int .i16 0, .int .i16 0, .int .i16 0, .int .i16 0, .int .i16 0, .int .i16 0, .int .i16 0, .int .i16 0, .int .i16 0, .int .i16 0, .int .i16 0, .int .i16 0, .int .i16 0, .int .i16 0, .int .i16 0, .int .i16 0, .int .i16 0, .int .i16 0, .int .i16 0, .int .i16 0, .int .i16 0, .int .i16 0, .int .i16 0, .int .i16 0, .int .i16 0, .int .i16 0, .int .i16 0, .int .i16 0, .int .i16 0, .int .i16 0, .int .i16 0, .int .i16 0, .int .i16 0, .int .i16 0, .int .i16 0, .int .i16 0, .int .i16 0, .int .i16 0] 26)) (b := w3.heap.size) (by simp) (arrV .i16 64 (fun k => f (mirP k)))
  have F6_n4 := Lib.hid (z4.setRow .i16 (fun k => f (mirP k)))
  have F5_4 := Lib.hid (F5_3.out.below t4 F5_3.out.lt)
  have k_4 := Lib.hid (k_3.out.trans (t4.mono k_3.out.size))
  clear F5_3 k_3
  clear t4
  go_wp2_with (first | (refine wpList_store_arr (z4) 26 (.tmp 6) (.tmp 51) rfl rfl rfl rfl sizeNeg ?_) | (refine wpList_load_arr (F5_4.out) 26 (.tmp 5) rfl rfl rfl Tryd.underlying26 sizeNeg ?_))
  clear z4
  generalize ((w3.alloc (.cells #[.int .i16 0, .int .i16 0, .int .i16 0, .int .i16 0, .int .i16 0, .int .i16 0, .int .i16 0, .int .i16 0, .int .i16 0, .int .i16 0, .int .i16 0, .int .i16 0, .int .i16 0, .int .i16 0, .int .i16 0, .int .i16 0, .int .i16 0, .int .i16 0, .int .i16 0, .int .i16 0, .int .i16 0, .int .i16 0, .int .i16 0, .int .i16 0, .int .i16 0, .int .i16 0, .int .i16 0, .int .i16 0, .int .i16 0, .int .i16 0, .int .i16 0, .int .i16 0, .int .i16 0, .int .i16 0, .int .i16 0, .int .i16 0, .int .i16 0, .int .i16 0, .int .i16 0, .int .i16 0, .int .i16 0, .int .i16 0, .int .i16 0, .int .i16 0, .int .i16 0, .int .i16 0, .int .i16 0, .int .i16 0, .int .i16 0, .int .i16 0, .int .i16 0, .int .i16 0, .int .i16 0, .int .i16 0, .int .i16 0, .int .i16 0, .int .i16 0, .int .i16 0, .int .i16 0, .int .i16 0, .int .i16 0, .int .i16 0, .int .i16 0, .int .i16 0] 26)).setRow (w3.heap.size) (arrV .i16 64 (fun k => f (mirP k)))) = V4 at *
  refine (Hsm.out _).mono ?_; rintro e w5 ⟨rfl, hb5⟩
  have F5_5 := Lib.hid (F5_4.out.below hb5 F5_4.out.lt)
  have F6_5 := Lib.hid (F6_n4.out.below hb5 F6_n4.out.lt)
  have k_5 := Lib.hid (k_4.out.trans (hb5.mono k_4.out.size))
  clear F5_4 F6_n4 k_4
  clear hb5
  have z6 := HasArr.zero w5 26 (b := w5.heap.size) (by simp)
  have t6 := below_setRow ((Below.refl w5.heap.size w5).alloc (Nat.le_refl _) (.cells #[.int .i16 0, .int .i16 0, .int .i16 0, .int .i16 0, .int .i16 0, .int .i16 0, .int .i16 0, .int .i16 0, .int .i16 0, .int .i16 0, .int .i16 0, .int .i16 0, .int .i16 0, .int .i16 0, .int .i16 0, .int .i16 0, .int .i16 0, .int .i16 0, .int .i16 0, .int .i16 0, .int .i16 0, .int .i16 0, .int .i16 0, .int .i16 0, .int .i16 0, .int .i16 0, .int .i16 0, .int .i16 0, .int .i16 0, .int .i16 0, .int .i16 0, .int .i16 0, .int .i16 0, .int .i16 0, .int .i16 0, .int .i16 0, .int .i16 0, .int .i16 0, .int .i16 0, .int .i16 0, .int .i16 0, .int .i16 0, .int .i16 0, .int .i16 0, .int .i16 0, .int .i16 0, .int .i16 0, .int .i16 0, .int .i16 0, .int .i16 0, .int .i16 0, .int .i16 0, .int .i16 0, .int .i16 0, .int .i16 0, .int .i16 0, .int .i16 0, .int .i16 0, .int .i16 0, .int .i16 0, .int .i16 0, .int .i16 0, .int .i16 0, .int .i16 0] 26)) (b := w5.heap.size) (by simp) (arrV .i16 64 (fun k => f (mirP k)))
  have F8_n6 := Lib.hid (z6.setRow .i16 (fun k => f (mirP k)))
  have F5_6 := Lib.hid (F5_5.out.below t6 F5_5.out.lt)
  have F6_6 := Lib.hid (F6_5.out.below t6 F6_5.out.lt)
  have k_6 := Lib.hid (k_5.out.trans (t6.mono k_5.out.size))
  clear F5_5 F6_5 k_5
  clear t6
  go_wp2_with (first | (refine wpList_store_arr (z6) 26 (.tmp 8) (.tmp 56) rfl rfl rfl rfl sizeNeg ?_) | (refine wpList_load_arr (F8_n6.out) 26 (.tmp 8) rfl rfl rfl Tryd.underlying26 sizeNeg ?_))
  clear z6
  generalize ((w5.alloc (.cells #[.int .i16 0, .int .i16 0, .int .i16 0, .int .i16 0, .int .i16 0, .int .i16 0, .int .i16 0, .int .i16 0, .int .i16 0, .int .i16 0, .int .i16 0, .int .i16 0, .int .i16 0, .int .i16 0, .int .i16 0, .int .i16 0, .int .i16 0, .int .i16 0, .int .i16 0, .int .i16 0, .int .i16 0, .int .i16 0, .int .i16 0, .int .i16 0, .int .i16 0, .int .i16 0, .int .i16 0, .int .i16 0, .int .i16 0, .int .i16 0, .int .i16 0, .int .i16 0, .int .i16 0, .int .i16 0, .int .i16 0, .int .i16 0, .int .i16 0, .int .i16 0, .int .i16 0, .int .i16 0, .int .i16 0, .int .i16 0, .int .i16 0, .int .i16 0, .int .i16 0, .int .i16 0, .int .i16 0, .int .i16 0, .int .i16 0, .int .i16 0, .int .i16 0, .int .i16 0, .int .i16 0, .int .i16 0, .int .i16 0, .int .i16 0, .int .i16 0, .int .i16 0, .int .i16 0, .int .i16 0, .int .i16 0, .int .i16 0, .int .i16 0, .int .i16 0] 26)).setRow (w5.heap.size) (arrV .i16 64 (fun k => f (mirP k)))) = V6 at *
  refine (Hm2.out _ (HE.out.below k_6.out (Nat.le_refl _))).mono ?_; rintro e w7 ⟨rfl, hb7⟩
  have F5_7 := Lib.hid (F5_6.out.below hb7 F5_6.out.lt)
  have F6_7 := Lib.hid (F6_6.out.below hb7 F6_6.out.lt)
  have F8_7 := Lib.hid (F8_n6.out.below hb7 F8_n6.out.lt)
  have k_7 := Lib.hid (k_6.out.trans (hb7.mono k_6.out.size))
  clear F5_6 F6_6 F8_n6 k_6
  clear hb7
  have l5 := F5_7.out.lt
  have kz := k_7.out.size
  have z8 := HasArr.zero w7 26 (b := w7.heap.size) (by simp)
  have t8 := below_setRow ((Below.refl w7.heap.size w7).alloc (Nat.le_refl _) (.cells #[.int .i16 0, .int .i16 0, .int .i16 0, .int .i16 0, .int .i16 0, .int .i16 0, .int .i16 0, .int .i16 0, .int .i16 0, .int .i16 0, .int .i16 0, .int .i16 0, .int .i16 0, .int .i16 0, .int .i16 0, .int .i16 0, .int .i16 0, .int .i16 0, .int .i16 0, .int .i16 0, .int .i16 0, .int .i16 0, .int .i16 0, .int .i16 0, .int .i16 0, .int .i16 0, .int .i16 0, .int .i16 0, .int .i16 0, .int .i16 0, .int .i16 0, .int .i16 0, .int .i16 0, .int .i16 0, .int .i16 0, .int .i16 0, .int .i16 0, .int .i16 0, .int .i16 0, .int .i16 0, .int .i16 0, .int .i16 0, .int .i16 0, .int .i16 0, .int .i16 0, .int .i16 0, .int .i16 0, .int .i16 0, .int .i16 0, .int .i16 0, .int .i16 0, .int .i16 0, .int .i16 0, .int .i16 0, .int .i16 0, .int .i16 0, .int .i16 0, .int .i16 0, .int .i16 0, .int .i16 0, .int .i16 0, .int .i16 0, .int .i16 0, .int .i16 0] 26)) (b := w7.heap.size) (by simp) (arrV .i16 64 (fun k => f (mirP (mirP k))))
  have F10_n8 := Lib.hid (z8.setRow .i16 (fun k => f (mirP (mirP k))))
  have F5_8 := Lib.hid (F5_7.out.below t8 F5_7.out.lt)
  have F6_8 := Lib.hid (F6_7.out.below t8 F6_7.out.lt)
  have F8_8 := Lib.hid (F8_7.out.below t8 F8_7.out.lt)
  have k_8 := Lib.hid (k_7.out.trans (t8.mono k_7.out.size))
  clear F5_7 F6_7 F8_7 k_7
  clear t8
  have z9 := HasArr.zero ((w7.alloc (.cells #[.int .i16 0, .int .i16 0, .int .i16 0, .int .i16 0, .int .i16 0, .int .i16 0, .int .i16 0, .int .i16 0, .int .i16 0, .int .i16 0, .int .i16 0, .int .i16 0, .int .i16 0, .int .i16 0, .int .i16 0, .int .i16 0, .int .i16 0, .int .i16 0, .int .i16 0, .int .i16 0, .int .i16 0, .int .i16 0, .int .i16 0, .int .i16 0, .int .i16 0, .int .i16 0, .int .i16 0, .int .i16 0, .int .i16 0, .int .i16 0, .int .i16 0, .int .i16 0, .int .i16 0, .int .i16 0, .int .i16 0, .int .i16 0, .int .i16 0, .int .i16 0, .int .i16 0, .int .i16 0, .int .i16 0, .int .i16 0, .int .i16 0, .int .i16 0, .int .i16 0, .int .i16 0, .int .i16 0, .int .i16 0, .int .i16 0, .int .i16 0, .int .i16 0, .int .i16 0, .int .i16 0, .int .i16 0, .int .i16 0, .int .i16 0, .int .i16 0, .int .i16 0, .int .i16 0, .int .i16 0, .int .i16 0, .int .i16 0, .int .i16 0, .int .i16 0] 26)).setRow (w7.heap.size) (arrV .i16 64 (fun k => f (mirP (mirP k))))) 26 (b := w7.heap.size + 1) (by simp)
  have t9 := below_setRow ((Below.refl ((w7.alloc (.cells #[.int .i16 0, .int .i16 0, .int .i16 0, .int .i16 0, .int .i16 0, .int .i16 0, .int .i16 0, .int .i16 0, .int .i16 0, .int .i16 0, .int .i16 0, .int .i16 0, .int .i16 0, .int .i16 0, .int .i16 0, .int .i16 0, .int .i16 0, .int .i16 0, .int .i16 0, .int .i16 0, .int .i16 0, .int .i16 0, .int .i16 0, .int .i16 0, .int .i16 0, .int .i16 0, .int .i16 0, .int .i16 0, .int .i16 0, .int .i16 0, .int .i16 0, .int .i16 0, .int .i16 0, .int .i16 0, .int .i16 0, .int .i16 0, .int .i16 0, .int .i16 0, .int .i16 0, .int .i16 0, .int .i16 0, .int .i16 0, .int .i16 0, .int .i16 0, .int .i16 0, .int .i16 0, .int .i16 0, .int .i16 0, .int .i16 0, .int .i16 0, .int .i16 0, .int .i16 0, .int .i16 0, .int .i16 0, .int .i16 0, .int .i16 0, .int .i16 0, .int .i16 0, .int .i16 0, .int .i16 0, .int .i16 0, .int .i16 0, .int .i16 0, .int .i16 0] 26)).setRow (w7.heap.size) (arrV .i16 64 (fun k => f (mirP (mirP k))))).heap.size ((w7.alloc (.cells #[.int .i16 0, .int .i16 0, .int .i16 0, .int .i16 0, .int .i16 0, .int .i16 0, .int .i16 0, .int .i16 0, .int .i16 0, .int .i16 0, .int .i16 0, .int .i16 0, .int .i16 0, .int .i16 0, .int .i16 0, .int .i16 0, .int .i16 0, .int .i16 0, .int .i16 0, .int .i16 0, .int .i16 0, .int .i16 0, .int .i16 0, .int .i16 0, .int .i16 0, .int .i16 0, .int .i16 0, .int .i16 0, .int .i16 0, .int .i16 0, .int .i16 0, .int .i16 0, .int .i16 0, .int .i16 0, .int .i16 0, .int .i16 0, .int .i16 0, .int .i16 0, .int .i16 0, .int .i16 0, .int .i16 0, .int .i16 0, .int .i16 0, .int .i16 0, .int .i16 0, .int .i16 0, .int .i16 0, .int .i16 0, .int .i16 0, .int .i16 0, .int .i16 0, .int .i16 0, .int .i16 0, .int .i16 0, .int .i16 0, .int .i16 0, .int .i16 0, .int .i16 0, .int .i16 0, .int .i16 0, .int .i16 0, .int .i16 0, .int .i16 0, .int .i16 0] 26)).setRow (w7.heap.size) (arrV .i16 64 (fun k => f (mirP (mirP k)))))).alloc (Nat.le_refl _) (.cells #[.int .i16 0, .int .i16 0, .int .i16 0, .int .i16 0, .int .i16 0, .int .i16 0, .int .i16 0, .int .i16 0, .int .i16 0, .int .i16 0, .int .i16 0, .int .i16 0, .int .i16 0, .int .i16 0, .int .i16 0, .int .i16 0, .int .i16 0, .int .i16 0, .int .i16 0, .int .i16 0, .int .i16 0, .int .i16 0, .int .i16 0, .int .i16 0, .int .i16 0, .int .i16 0, .int .i16 0, .int .i16 0, .int .i16 0, .int .i16 0, .int .i16 0, .int .i16 0, .int .i16 0, .int .i16 0, .int .i16 0, .int .i16 0, .int .i16 0, .int .i16 0, .int .i16 0, .int .i16 0, .int .i16 0, .int .i16 0, .int .i16 0, .int .i16 0, .int .i16 0, .int .i16 0, .int .i16 0, .int .i16 0, .int .i16 0, .int .i16 0, .int .i16 0, .int .i16 0, .int .i16 0, .int .i16 0, .int .i16 0, .int .i16 0, .int .i16 0, .int .i16 0, .int .i16 0, .int .i16 0, .int .i16 0, .int .i16 0, .int .i16 0, .int .i16 0] 26)) (b := w7.heap.size + 1) (by simp) (arrV .i16 64 f)
  have F12_n9 := Lib.hid (z9.setRow .i16 f)
  have q1 := Heq.out _ _ HQ.out.1
  have q2 := Heq.out _ _ HQ.out.2.1
  go_wp2_with (first | (refine wpList_store_arr (z8) 26 (.tmp 10) (.tmp 61) rfl rfl rfl rfl sizeNeg ?_) | (refine wpList_load_arrG (F6_8.out) 26 (.tmp 6) rfl rfl rfl Tryd.underlying26 sizeNeg ?_) | (refine wpList_load_arrG (F8_8.out) 26 (.tmp 8) rfl rfl rfl Tryd.underlying26 sizeNeg ?_) | (refine wpList_load_arrG (F10_n8.out) 26 (.tmp 10) rfl rfl rfl Tryd.underlying26 sizeNeg ?_) | (refine wpList_load_arrG (F5_8.out) 26 (.tmp 5) rfl rfl rfl Tryd.underlying26 sizeNeg ?_) | (refine wpList_load_arr (F5_8.out) 26 (.tmp 5) rfl rfl rfl Tryd.underlying26 sizeNeg ?_) | (refine wpList_store_arr (z9) 26 (.tmp 12) (.tmp 84) rfl rfl rfl rfl sizeNeg ?_))
  clear q1 q2
  have F5_9 := Lib.hid (F5_8.out.below t9 F5_8.out.lt)
  have F6_9 := Lib.hid (F6_8.out.below t9 F6_8.out.lt)
  have F8_9 := Lib.hid (F8_8.out.below t9 F8_8.out.lt)
  have F10_9 := Lib.hid (F10_n8.out.below t9 F10_n8.out.lt)
  have k_9 := Lib.hid (k_8.out.trans (t9.mono k_8.out.size))
  clear F5_8 F6_8 F8_8 F10_n8 k_8
  clear t9
  generalize ((((w7.alloc (.cells #[.int .i16 0, .int .i16 0, .int .i16 0, .int .i16 0, .int .i16 0, .int .i16 0, .int .i16 0, .int .i16 0, .int .i16 0, .int .i16 0, .int .i16 0, .int .i16 0, .int .i16 0, .int .i16 0, .int .i16 0, .int .i16 0, .int .i16 0, .int .i16 0, .int .i16 0, .int .i16 0, .int .i16 0, .int .i16 0, .int .i16 0, .int .i16 0, .int .i16 0, .int .i16 0, .int .i16 0, .int .i16 0, .int .i16 0, .int .i16 0, .int .i16 0, .int .i16 0, .int .i16 0, .int .i16 0, .int .i16 0, .int .i16 0, .int .i16 0, .int .i16 0, .int .i16 0, .int .i16 0, .int .i16 0, .int .i16 0, .int .i16 0, .int .i16 0, .int .i16 0, .int .i16 0, .int .i16 0, .int .i16 0, .int .i16 0, .int .i16 0, .int .i16 0, .int .i16 0, .int .i16 0, .int .i16 0, .int .i16 0, .int .i16 0, .int .i16 0, .int .i16 0, .int .i16 0, .int .i16 0, .int .i16 0, .int .i16 0, .int .i16 0, .int .i16 0] 26)).setRow (w7.heap.size) (arrV .i16 64 (fun k => f (mirP (mirP k))))).alloc (.cells #[.int .i16 0, .int .i16 0, .int .i16 0, .int .i16 0, .int .i16 0, .int .i16 0, .int .i16 0, .int .i16 0, .int .i16 0, .int .i16 0, .int .i16 0, .int .i16 0, .int .i16 0, .int .i16 0, .int .i16 0, .int .i16 0, .int .i16 0, .int .i16 0, .int .i16 0, .int .i16 0, .int .i16 0, .int .i16 0, .int .i16 0, .int .i16 0, .int .i16 0, .int .i16 0, .int .i16 0, .int .i16 0, .int .i16 0, .int .i16 0, .int .i16 0, .int .i16 0, .int .i16 0, .int .i16 0, .int .i16 0, .int .i16 0, .int .i16 0, .int .i16 0, .int .i16 0, .int .i16 0, .int .i16 0, .int .i16 0, .int .i16 0, .int .i16 0, .int .i16 0, .int .i16 0, .int .i16 0, .int .i16 0, .int .i16 0, .int .i16 0, .int .i16 0, .int .i16 0, .int .i16 0, .int .i16 0, .int .i16 0, .int .i16 0, .int .i16 0, .int .i16 0, .int .i16 0, .int .i16 0, .int .i16 0, .int .i16 0, .int .i16 0, .int .i16 0] 26)).setRow (w7.heap.size + 1) (arrV .i16 64 f)) = V9 at *
  have F12i := Lib.hid (show HasArr V9 (w7.heap.size + 1) 26 .i16 64 (iterT f 0) from F12_n9.out)
  clear F12_n9
  clear F6_9 F8_9 F10_9
  go_loopw [13] (fun kv wr => ∃ k : Nat, k ≤ 4 ∧ kv = .int .i64 (k : Int) ∧ HasArr wr (w7.heap.size + 1) 26 .i16 64 (iterT f k) ∧ Only (w7.heap.size + 1) (w7.heap.size + 1 + 1) V9 wr) (fun kv _ => 4 - (intOf kv).toNat)
  case atStart => exact ⟨0, by omega, rfl, F12i.out, Only.refl _ _ _⟩
  case round =>
    obtain ⟨k, hk, rfl, hA, hO⟩ := hrel
    have l12 := F12i.out.lt
    have G5 := Lib.hid (F5_9.out.only hO (.inl (by omega)))
    have GK := Lib.hid (k_9.out.trans ((hO.below (by omega)).mono (by omega)))
    have GA := Lib.hid hA
    have GO := Lib.hid hO
    clear hA hO F5_9 F12i k_9
    by_cases hk4 : k < 4
    · have hk4' : (k : Int) < 4 := by omega
      go_wp2_with (first | (refine wpList_load_arr (GA.out) 26 (.tmp 12) rfl rfl rfl Tryd.underlying26 sizeNeg ?_))
      refine (Htu.out k _ (HE.out.below GK.out (Nat.le_refl _))).mono ?_; rintro e w41 ⟨rfl, hb41⟩
      have F5_41 := Lib.hid (G5.out.below hb41 G5.out.lt)
      have F12_41 := Lib.hid (GA.out.below hb41 GA.out.lt)
      have k_41 := Lib.hid (GK.out.trans (hb41.mono GK.out.size))
      have O_41 := Lib.hid (GO.out.thenBelowT hb41 (by have := GO.out.size; omega))
      clear G5 GA GK GO
      clear hb41
      have z42 := HasArr.zero w41 26 (b := w41.heap.size) (by simp)
      have t42 := below_setRow ((Below.refl w41.heap.size w41).alloc (Nat.le_refl _) (.cells #[.int .i16 0, .int .i16 0, .int .i16 0, .int .i16 0, .int .i16 0, .int .i16 0, .int .i16 0, .int .i16 0, .int .i16 0, .int .i16 0, .int .i16 0, .int .i16 0, .int .i16 0, .int .i16 0, .int .i16 0, .int .i16 0, .int .i16 0, .int .i16 0, .int .i16 0, .int .i16 0, .int .i16 0, .int .i16 0, .int .i16 0, .int .i16 0, .int .i16 0, .int .i16 0, .int .i16 0, .int .i16 0, .int .i16 0, .int .i16 0, .int .i16 0, .int .i16 0, .int .i16 0, .int .i16 0, .int .i16 0, .int .i16 0, .int .i16 0, .int .i16 0, .int .i16 0, .int .i16 0, .int .i16 0, .int .i16 0, .int .i16 0, .int .i16 0, .int .i16 0, .int .i16 0, .int .i16 0, .int .i16 0, .int .i16 0, .int .i16 0, .int .i16 0, .int .i16 0, .int .i16 0, .int .i16 0, .int .i16 0, .int .i16 0, .int .i16 0, .int .i16 0, .int .i16 0, .int .i16 0, .int .i16 0, .int .i16 0, .int .i16 0, .int .i16 0] 26)) (b := w41.heap.size) (by simp) (arrV .i16 64 (iterT f (k + 1)))
      have F14_n42 := Lib.hid (z42.setRow .i16 (iterT f (k + 1)))
      have F5_42 := Lib.hid (F5_41.out.below t42 F5_41.out.lt)
      have F12_42 := Lib.hid (F12_41.out.below t42 F12_41.out.lt)
      have k_42 := Lib.hid (k_41.out.trans (t42.mono k_41.out.size))
      have O_42 := Lib.hid (O_41.out.thenBelowT t42 (by have := O_41.out.size; omega))
      clear F5_41 F12_41 k_41 O_41
      clear t42
      go_wp2_with (first | (refine wpList_store_arr (z42) 26 (.tmp 14) (.tmp 92) rfl rfl rfl rfl sizeNeg ?_) | (refine wpList_load_arr (F12_42.out) 26 (.tmp 12) rfl rfl rfl Tryd.underlying26 sizeNeg ?_))
      clear z42
      generalize ((w41.alloc (.cells #[.int .i16 0, .int .i16 0, .int .i16 0, .int .i16 0, .int .i16 0, .int .i16 0, .int .i16 0, .int .i16 0, .int .i16 0, .int .i16 0, .int .i16 0, .int .i16 0, .int .i16 0, .int .i16 0, .int .i16 0, .int .i16 0, .int .i16 0, .int .i16 0, .int .i16 0, .int .i16 0, .int .i16 0, .int .i16 0, .int .i16 0, .int .i16 0, .int .i16 0, .int .i16 0, .int .i16 0, .int .i16 0, .int .i16 0, .int .i16 0, .int .i16 0, .int .i16 0, .int .i16 0, .int .i16 0, .int .i16 0, .int .i16 0, .int .i16 0, .int .i16 0, .int .i16 0, .int .i16 0, .int .i16 0, .int .i16 0, .int .i16 0, .int .i16 0, .int .i16 0, .int .i16 0, .int .i16 0, .int .i16 0, .int .i16 0, .int .i16 0, .int .i16 0, .int .i16 0, .int .i16 0, .int .i16 0, .int .i16 0, .int .i16 0, .int .i16 0, .int .i16 0, .int .i16 0, .int .i16 0, .int .i16 0, .int .i16 0, .int .i16 0, .int .i16 0] 26)).setRow (w41.heap.size) (arrV .i16 64 (iterT f (k + 1)))) = V42 at *
      refine (Hst.out k _).mono ?_; rintro e w43 ⟨rfl, hb43⟩
      have F5_43 := Lib.hid (F5_42.out.below hb43 F5_42.out.lt)
      have F12_43 := Lib.hid (F12_42.out.below hb43 F12_42.out.lt)
      have F14_43 := Lib.hid (F14_n42.out.below hb43 F14_n42.out.lt)
      have k_43 := Lib.hid (k_42.out.trans (hb43.mono k_42.out.size))
      have O_43 := Lib.hid (O_42.out.thenBelowT hb43 (by have := O_42.out.size; omega))
      clear F5_42 F12_42 F14_n42 k_42 O_42
      clear hb43
      have z44 := HasArr.zero w43 26 (b := w43.heap.size) (by simp)
      have t44 := below_setRow ((Below.refl w43.heap.size w43).alloc (Nat.le_refl _) (.cells #[.int .i16 0, .int .i16 0, .int .i16 0, .int .i16 0, .int .i16 0, .int .i16 0, .int .i16 0, .int .i16 0, .int .i16 0, .int .i16 0, .int .i16 0, .int .i16 0, .int .i16 0, .int .i16 0, .int .i16 0, .int .i16 0, .int .i16 0, .int .i16 0, .int .i16 0, .int .i16 0, .int .i16 0, .int .i16 0, .int .i16 0, .int .i16 0, .int .i16 0, .int .i16 0, .int .i16 0, .int .i16 0, .int .i16 0, .int .i16 0, .int .i16 0, .int .i16 0, .int .i16 0, .int .i16 0, .int .i16 0, .int .i16 0, .int .i16 0, .int .i16 0, .int .i16 0, .int .i16 0, .int .i16 0, .int .i16 0, .int .i16 0, .int .i16 0, .int .i16 0, .int .i16 0, .int .i16 0, .int .i16 0, .int .i16 0, .int .i16 0, .int .i16 0, .int .i16 0, .int .i16 0, .int .i16 0, .int .i16 0, .int .i16 0, .int .i16 0, .int .i16 0, .int .i16 0, .int .i16 0, .int .i16 0, .int .i16 0, .int .i16 0, .int .i16 0] 26)) (b := w43.heap.size) (by simp) (arrV .i16 64 (iterT f (k + 1)))
      have F16_n44 := Lib.hid (z44.setRow .i16 (iterT f (k + 1)))
      have F5_44 := Lib.hid (F5_43.out.below t44 F5_43.out.lt)
      have F12_44 := Lib.hid (F12_43.out.below t44 F12_43.out.lt)
      have F14_44 := Lib.hid (F14_43.out.below t44 F14_43.out.lt)
      have k_44 := Lib.hid (k_43.out.trans (t44.mono k_43.out.size))
      have O_44 := Lib.hid (O_43.out.thenBelowT t44 (by have := O_43.out.size; omega))
      clear F5_43 F12_43 F14_43 k_43 O_43
      clear t44
      have q3 := Heq.out _ _ (HQ.out.2.2.1 (k + 1))
      go_wp2_with (first | (refine wpList_store_arr (z44) 26 (.tmp 16) (.tmp 97) rfl rfl rfl rfl sizeNeg ?_) | (refine wpList_load_arrG (F14_44.out) 26 (.tmp 14) rfl rfl rfl Tryd.underlying26 sizeNeg ?_) | (refine wpList_load_arrG (F16_n44.out) 26 (.tmp 16) rfl rfl rfl Tryd.underlying26 sizeNeg ?_) | (refine wpList_load_arr (F16_n44.out) 26 (.tmp 16) rfl rfl rfl Tryd.underlying26 sizeNeg ?_) | (refine wpList_store_arr (F12_44.out) 26 (.tmp 12) (.tmp 111) rfl rfl rfl rfl sizeNeg ?_))
      go_roundw
      case rel => exact ⟨k + 1, by omega, by go_num, F12_44.out.setRow .i16 (iterT f (k + 1)), O_44.out.setRowIn (by omega) (by omega) _⟩
      case measure => simp [intOf]; omega
    obtain rfl : k = 4 := by omega
    clear GO hk hk4 l12 kz l5
    go_wp2_with fail
    refine (Hp0.out 5 _ (by omega) (by omega) (HX0.out.below GK.out (Nat.le_refl _))).mono ?_; rintro e w61 ⟨r61, rfl, hp61, hb61⟩
    obtain ⟨X, rfl, hX⟩ := natP (m := 5) hp61 (by omega)
    clear hp61
    have F5_61 := Lib.hid (G5.out.below hb61 G5.out.lt)
    have F12_61 := Lib.hid (GA.out.below hb61 GA.out.lt)
    have k_61 := Lib.hid (GK.out.trans (hb61.mono GK.out.size))
    clear G5 GA GK
    clear hb61
    go_wp2_with fail
    refine (Hp1.out 5 _ (by omega) (by omega) (HX1.out.below k_61.out (Nat.le_refl _))).mono ?_; rintro e w62 ⟨r62, rfl, hp62, hb62⟩
    obtain ⟨Y, rfl, hY⟩ := natP (m := 5) hp62 (by omega)
    clear hp62
    have F5_62 := Lib.hid (F5_61.out.below hb62 F5_61.out.lt)
    have F12_62 := Lib.hid (F12_61.out.below hb62 F12_61.out.lt)
    have k_62 := Lib.hid (k_61.out.trans (hb62.mono k_61.out.size))
    clear F5_61 F12_61 k_61
    clear hb62
    go_wp2_with (first | (refine wpList_load_arr (F5_62.out) 26 (.tmp 5) rfl rfl rfl Tryd.underlying26 sizeNeg ?_))
    refine (Hen.out X Y _ (by omega) (by omega) (HE.out.below k_62.out (Nat.le_refl _))).mono ?_; rintro e w63 ⟨rfl, hb63⟩
    have F5_63 := Lib.hid (F5_62.out.below hb63 F5_62.out.lt)
    have F12_63 := Lib.hid (F12_62.out.below hb63 F12_62.out.lt)
    have k_63 := Lib.hid (k_62.out.trans (hb63.mono k_62.out.size))
    clear F5_62 F12_62 k_62
    clear hb63
    have z64 := HasArr.zero w63 26 (b := w63.heap.size) (by simp)
    have t64 := below_setRow ((Below.refl w63.heap.size w63).alloc (Nat.le_refl _) (.cells #[.int .i16 0, .int .i16 0, .int .i16 0, .int .i16 0, .int .i16 0, .int .i16 0, .int .i16 0, .int .i16 0, .int .i16 0, .int .i16 0, .int .i16 0, .int .i16 0, .int .i16 0, .int .i16 0, .int .i16 0, .int .i16 0, .int .i16 0, .int .i16 0, .int .i16 0, .int .i16 0, .int .i16 0, .int .i16 0, .int .i16 0, .int .i16 0, .int .i16 0, .int .i16 0, .int .i16 0, .int .i16 0, .int .i16 0, .int .i16 0, .int .i16 0, .int .i16 0, .int .i16 0, .int .i16 0, .int .i16 0, .int .i16 0, .int .i16 0, .int .i16 0, .int .i16 0, .int .i16 0, .int .i16 0, .int .i16 0, .int .i16 0, .int .i16 0, .int .i16 0, .int .i16 0, .int .i16 0, .int .i16 0, .int .i16 0, .int .i16 0, .int .i16 0, .int .i16 0, .int .i16 0, .int .i16 0, .int .i16 0, .int .i16 0, .int .i16 0, .int .i16 0, .int .i16 0, .int .i16 0, .int .i16 0, .int .i16 0, .int .i16 0, .int .i16 0] 26)) (b := w63.heap.size) (by simp) (arrV .i16 64 (fun k => f (enlP X Y k)))
    have F20_n64 := Lib.hid (z64.setRow .i16 (fun k => f (enlP X Y k)))
    have F5_64 := Lib.hid (F5_63.out.below t64 F5_63.out.lt)
    have F12_64 := Lib.hid (F12_63.out.below t64 F12_63.out.lt)
    have k_64 := Lib.hid (k_63.out.trans (t64.mono k_63.out.size))
    clear F5_63 F12_63 k_63
    clear t64
    have q4 := Heq.out _ _ HQ.out.2.2.2
    go_wp2_with (first | (refine wpList_store_arr (z64) 26 (.tmp 20) (.tmp 121) rfl rfl rfl rfl sizeNeg ?_) | (refine wpList_load_arr (F12_64.out) 26 (.tmp 12) rfl rfl rfl Tryd.underlying26 sizeNeg ?_) | (refine wpList_load_arr (F5_64.out) 26 (.tmp 5) rfl rfl rfl Tryd.underlying26 sizeNeg ?_))
    clear q4 Hmi Hsm Hm2 Htu Hst Hen Heq HQ
    generalize ((w63.alloc (.cells #[.int .i16 0, .int .i16 0, .int .i16 0, .int .i16 0, .int .i16 0, .int .i16 0, .int .i16 0, .int .i16 0, .int .i16 0, .int .i16 0, .int .i16 0, .int .i16 0, .int .i16 0, .int .i16 0, .int .i16 0, .int .i16 0, .int .i16 0, .int .i16 0, .int .i16 0, .int .i16 0, .int .i16 0, .int .i16 0, .int .i16 0, .int .i16 0, .int .i16 0, .int .i16 0, .int .i16 0, .int .i16 0, .int .i16 0, .int .i16 0, .int .i16 0, .int .i16 0, .int .i16 0, .int .i16 0, .int .i16 0, .int .i16 0, .int .i16 0, .int .i16 0, .int .i16 0, .int .i16 0, .int .i16 0, .int .i16 0, .int .i16 0, .int .i16 0, .int .i16 0, .int .i16 0, .int .i16 0, .int .i16 0, .int .i16 0, .int .i16 0, .int .i16 0, .int .i16 0, .int .i16 0, .int .i16 0, .int .i16 0, .int .i16 0, .int .i16 0, .int .i16 0, .int .i16 0, .int .i16 0, .int .i16 0, .int .i16 0, .int .i16 0, .int .i16 0] 26)).setRow (w63.heap.size) (arrV .i16 64 (fun k => f (enlP X Y k)))) = V64 at *
    clear F12_64
    go_loopw [22] (fun kv wr => ∃ k : Nat, k ≤ 64 ∧ kv = .int .i64 (k : Int) ∧ Below V64.heap.size V64 wr) (fun kv _ => 64 - (intOf kv).toNat)
    case atStart => exact ⟨0, by omega, rfl, Below.refl _ _⟩
    case round =>
      obtain ⟨k, hk, rfl, hb80⟩ := hrel
      by_cases hk64 : k < 64
      · have hk64' : (k : Int) < 64 := by omega
        have c20 := (F20_n64.out.below hb80 F20_n64.out.lt).cell hk64
        have c5 := (F5_64.out.below hb80 F5_64.out.lt).cell (enlP_lt (x := X) (y := Y) (by omega) (by omega) hk64)
        have hEn : enlP X Y k = X + k % 8 / 2 + 8 * (Y + k / 8 / 2) := rfl
        have HB80 := Lib.hid hb80
        obtain ⟨p8, hp8⟩ : ∃ p, p = k % 8 := ⟨_, rfl⟩
        obtain ⟨p2, hp2⟩ : ∃ p, p = p8 / 2 := ⟨_, rfl⟩
        obtain ⟨s8, hs8⟩ : ∃ p, p = k / 8 := ⟨_, rfl⟩
        obtain ⟨s2, hs2⟩ : ∃ p, p = s8 / 2 := ⟨_, rfl⟩
        rw [← hp8, ← hp2, ← hs8, ← hs2] at hEn
        have a1 : Int.tmod (k : Int) 8 = (p8 : Int) := by rw [Int.tmod_eq_emod_of_nonneg (by omega)]; omega
        have a2 : (k : Int) % 8 = (p8 : Int) := by omega
        have a3 : Int.tdiv (p8 : Int) 2 = (p2 : Int) := by rw [Int.tdiv_eq_ediv_of_nonneg (by omega)]; omega
        have a4 : (p8 : Int) / 2 = (p2 : Int) := by omega
        have a5 : Int.tdiv (k : Int) 8 = (s8 : Int) := by rw [Int.tdiv_eq_ediv_of_nonneg (by omega)]; omega
        have a6 : (k : Int) / 8 = (s8 : Int) := by omega
        have a7 : Int.tdiv (s8 : Int) 2 = (s2 : Int) := by rw [Int.tdiv_eq_ediv_of_nonneg (by omega)]; omega
        have a8 : (s8 : Int) / 2 = (s2 : Int) := by omega
        have a9 : (X : Int) + (p2 : Int) + 8 * ((Y : Int) + (s2 : Int)) = ((enlP X Y k : Nat) : Int) := by omega
        have hE64 : ((enlP X Y k : Nat) : Int) < 64 := by have := enlP_lt (x := X) (y := Y) (by omega) (by omega) hk64; omega
        have b2 : p2 ≤ 3 := by omega
        have b3 : s2 ≤ 3 := by omega
        clear hp8 hp2 hs8 hs2 hEn hb80
        generalize f (enlP X Y k) = x at *
        generalize enlP X Y k = ix at *
        go_wp2_with fail
        go_quiet (fail)
        go_wp2_with fail
        go_roundw
        case rel => exact ⟨k + 1, by omega, by go_num, below_drewT HB80.out _⟩
        case measure => simp [intOf]; omega
      obtain rfl : k = 64 := by omega
      have hb81 := hb80
      clear hb80
      obtain ⟨w81, hw81⟩ : ∃ x : World, x = wr := ⟨_, rfl⟩
      rw [← hw81] at hb81 ⊢
      clear hw81
      have K81 := Lib.hid (k_64.out.trans (hb81.mono k_64.out.size))
      clear hb81 k_64 F5_64 F20_n64 hk hk64
      go_wp2_with fail
      refine ((Hc0.out _ (HX0.out.below K81.out (Nat.le_refl _))).mono fun _ _ h => cop_of h).mono ?_; rintro e w82 ⟨ga, ka, ca, fa, rfl, hka, hfa, hca, hb82⟩
      have k_82 := Lib.hid (K81.out.trans (hb82.mono K81.out.size))
      clear K81
      clear hb82
      have CA := Lib.hid (show CopF w82 ga fa from hca)
      clear hca
      go_wp2_with fail
      refine ((Hc1.out _ (HX1.out.below k_82.out (Nat.le_refl _))).mono fun _ _ h => cop_of h).mono ?_; rintro e w83 ⟨gb, kb, cb, fb, rfl, hkb, hfb, hcb, hb83⟩
      have CA_83 := Lib.hid (CA.out.below hb83 CA.out.lt)
      have k_83 := Lib.hid (k_82.out.trans (hb83.mono k_82.out.size))
      clear CA k_82
      clear hb83
      have CB := Lib.hid (show CopF w83 gb fb from hcb)
      clear hcb
      go_wp2_with fail
      refine (Hp1.out 60 _ (by omega) (by omega) (HX1.out.below k_83.out (Nat.le_refl _))).mono ?_; rintro e w84 ⟨r84, rfl, hp84, hb84⟩
      obtain ⟨t, rfl, ht⟩ := natP (m := 60) hp84 (by omega)
      clear hp84
      have CA_84 := Lib.hid (CA_83.out.below hb84 CA_83.out.lt)
      have CB_84 := Lib.hid (CB.out.below hb84 CB.out.lt)
      have k_84 := Lib.hid (k_83.out.trans (hb84.mono k_83.out.size))
      clear CA_83 CB k_83
      clear hb84
      have hka1 := hka.1
      have hka5 := hka.2
      have hkb1 := hkb.1
      have hkb5 := hkb.2
      clear hka hkb Hc0 Hc1
      have hdn : (dnsB fa && dnsB fb) = true := by rw [hfa.dns, hfb.dns]; rfl
      have hd1 := fun W h => DifferIn_any s fa fb (t : Int) hfa.S hfb.S W h
      rw [show difV fa fb (t : Int) = ((maskN (difP fa fb (t : Int)) 64 : Nat) : Int) by unfold difV; rw [hfa.dns, hfb.dns, inB_true.2 (show (0 : Int) ≤ (t : Int) ∧ (t : Int) ≤ 400 by omega)]; rfl, show difC fa fb (t : Int) = 0 by unfold difC; rw [if_pos hdn, if_pos (inB_true.2 (show (0 : Int) ≤ (t : Int) ∧ (t : Int) ≤ 400 by omega))]] at hd1
      have hg1 := fun W => GreatestDifference_any fa fb hfa.S hfb.S W
      have hg2 := fun W => specGreatest_any fa fb hfa.S hfb.S W
      unfold grtT at hg1
      rw [if_pos hdn] at hg1 hg2
      have hbit := Lib.hid (fun k hk => bit_of (difP fa fb (t : Int)) (k := k) hk)
      have hMlt := Lib.hid (maskN_lt (difP fa fb (t : Int)) 64 (Nat.le_refl _))
      have hDP := Lib.hid (fun k => (⟨fun h => by simpa [difP] using h, fun h => by simpa [difP] using h⟩ : difP fa fb (t : Int) k = true ↔ (t : Int) < szA (fb k - fa k)))
      have hbest := Lib.hid (fun k (hk : k < 64) => (show szA (fb k - fa k) ≤ szA (difN fa fb (bestN (difN fa fb) 63)) from best_ge (difN fa fb) 63 k (by omega)))
      have hbi := bestN_le (difN fa fb) 63
      have hmo : -400 ≤ difN fa fb (bestN (difN fa fb) 63) ∧ difN fa fb (bestN (difN fa fb) 63) ≤ 400 := by have h1 := hfa (bestN (difN fa fb) 63) (by omega); have h2 := hfb (bestN (difN fa fb) 63) (by omega); unfold difN; unfold difN at h1 h2; omega
      generalize difN fa fb (bestN (difN fa fb) 63) = mo at *
      generalize bestN (difN fa fb) 63 = bi at *
      generalize difP fa fb (t : Int) = dp at *
      generalize maskN dp 64 = M at *
      have Hd1 := Lib.hid hd1; clear hd1
      have Hg1 := Lib.hid hg1; clear hg1
      have Hg2 := Lib.hid hg2; clear hg2
      clear hdn
      go_wp2_with fail
      have n0 := below_nonempty w84
      have hy := Lib.hid (fun (y : WIn (Below w84.heap.size w84)) => Hd1.out y.w (HE.out.below (k_84.out.trans (y.ok.mono k_84.out.size)) (Nat.le_refl _)))
      refine wp_region_quietD (Below w84.heap.size w84) (by kernel_rfl) (by kernel_rfl) (below_drew1 _) ?_
      go_big_quiet_step (fail)
      go_big_quiet_step (fail)
      refine wpQuiet_load_cells (f := fa) (fun W hW => by obtain ⟨y, rfl⟩ := hW; exact (CA_84.out.below y.ok CA_84.out.lt).2) 37 (.tmp 160) rfl rfl rfl Tryd.underlying37 sizePrint ?_
      go_frame
      go_big_quiet_step (fail)
      go_big_quiet_step (fail)
      refine wpQuiet_load_cells (f := fb) (fun W hW => by obtain ⟨y, rfl⟩ := hW; exact (CB_84.out.below y.ok CB_84.out.lt).2) 37 (.tmp 163) rfl rfl rfl Tryd.underlying37 sizePrint ?_
      go_frame
      go_big_quiet_step (fail)
      go_big_quiet_step ((go_at_call 13; exact inCall _ (hy.out _)))
      repeat (go_big_quiet_step (fail))
      refine wpQuiet_nil ?_
      rintro _ ⟨y, rfl⟩
      have hb85 := y.ok
      generalize y.w = w85 at *
      clear hy n0
      have CA_85 := Lib.hid (CA_84.out.below hb85 CA_84.out.lt)
      have CB_85 := Lib.hid (CB_84.out.below hb85 CB_84.out.lt)
      have k_85 := Lib.hid (k_84.out.trans (hb85.mono k_84.out.size))
      clear CA_84 CB_84 k_84
      clear hb85
      go_wp2_with fail
      have n0 := below_nonempty w85
      have hy := Lib.hid (fun (y : WIn (Below w85.heap.size w85)) => Hg1.out y.w)
      refine wp_region_quietD (Below w85.heap.size w85) (by kernel_rfl) (by kernel_rfl) (below_drew1 _) ?_
      go_big_quiet_step (fail)
      go_big_quiet_step (fail)
      refine wpQuiet_load_cells (f := fa) (fun W hW => by obtain ⟨y, rfl⟩ := hW; exact (CA_85.out.below y.ok CA_85.out.lt).2) 37 (.tmp 171) rfl rfl rfl Tryd.underlying37 sizePrint ?_
      go_frame
      go_big_quiet_step (fail)
      go_big_quiet_step (fail)
      refine wpQuiet_load_cells (f := fb) (fun W hW => by obtain ⟨y, rfl⟩ := hW; exact (CB_85.out.below y.ok CB_85.out.lt).2) 37 (.tmp 174) rfl rfl rfl Tryd.underlying37 sizePrint ?_
      go_frame
      go_big_quiet_step ((go_at_call 14; exact inCall _ (hy.out _)))
      repeat (go_big_quiet_step (fail))
      refine wpQuiet_nil ?_
      rintro _ ⟨y, rfl⟩
      have hb86 := y.ok
      generalize y.w = w86 at *
      clear hy n0
      have CA_86 := Lib.hid (CA_85.out.below hb86 CA_85.out.lt)
      have CB_86 := Lib.hid (CB_85.out.below hb86 CB_85.out.lt)
      have k_86 := Lib.hid (k_85.out.trans (hb86.mono k_85.out.size))
      clear CA_85 CB_85 k_85
      clear hb86
      go_wp2_with fail
      have n0 := below_nonempty w86
      have hy := Lib.hid (fun (y : WIn (Below w86.heap.size w86)) => Hg2.out y.w)
      refine wp_region_quietD (Below w86.heap.size w86) (by kernel_rfl) (by kernel_rfl) (below_drew1 _) ?_
      go_big_quiet_step (fail)
      go_big_quiet_step (fail)
      refine wpQuiet_load_cells (f := fa) (fun W hW => by obtain ⟨y, rfl⟩ := hW; exact (CA_86.out.below y.ok CA_86.out.lt).2) 37 (.tmp 182) rfl rfl rfl Tryd.underlying37 sizePrint ?_
      go_frame
      go_big_quiet_step (fail)
      go_big_quiet_step (fail)
      refine wpQuiet_load_cells (f := fb) (fun W hW => by obtain ⟨y, rfl⟩ := hW; exact (CB_86.out.below y.ok CB_86.out.lt).2) 37 (.tmp 185) rfl rfl rfl Tryd.underlying37 sizePrint ?_
      go_frame
      go_big_quiet_step ((go_at_call 15; exact inCall _ (hy.out _)))
      repeat (go_big_quiet_step (fail))
      refine wpQuiet_nil ?_
      rintro _ ⟨y, rfl⟩
      have hb87 := y.ok
      generalize y.w = w87 at *
      clear hy n0
      have CA_87 := Lib.hid (CA_86.out.below hb87 CA_86.out.lt)
      have CB_87 := Lib.hid (CB_86.out.below hb87 CB_86.out.lt)
      have k_87 := Lib.hid (k_86.out.trans (hb87.mono k_86.out.size))
      clear CA_86 CB_86 k_86
      clear hb87
      clear Hd1 Hg1 Hg2
      go_wp2_with fail
      go_loopw [34] (fun kv wr => ∃ k : Nat, k ≤ 64 ∧ kv = .int .i64 (k : Int) ∧ Below w87.heap.size w87 wr) (fun kv _ => 64 - (intOf kv).toNat)
      case atStart => exact ⟨0, by omega, rfl, Below.refl _ _⟩
      case round =>
        obtain ⟨k, hk, rfl, hb90⟩ := hrel
        by_cases hk64 : k < 64
        · have hk64' : (k : Int) < 64 := by omega
          have ca := (CA_87.out.below hb90 CA_87.out.lt).2 k hk64
          have cb := (CB_87.out.below hb90 CB_87.out.lt).2 k hk64
          have HB90 := Lib.hid hb90
          have xa := hfa k hk64
          have xb := hfb k hk64
          have hbt := hbit.out k hk64
          have hdp := hDP.out k
          have hbs := hbest.out k hk64
          have hML := hMlt.out
          clear hb90
          generalize fa k = x at *
          generalize fb k = y at *
          have ew : IntKind.i64.wrap (y - x) = y - x := IntWalk.i64_in _ (by omega)
          have hMk : M / 2 ^ k < 18446744073709551616 := Nat.lt_of_le_of_lt (Nat.div_le_self _ _) hML
          go_wp2_with fail
          go_quiet (fail)
          obtain ⟨d, hd⟩ : ∃ d, d = y - x := ⟨_, rfl⟩
          rw [← hd] at hdp hbs ⊢
          have hdb : -400 ≤ d ∧ d ≤ 400 := by omega
          clear hd ca cb ew xa xb
          have hm1 : max d (-d) = szA d := szA_max d
          have hm2 : max mo (-mo) = szA mo := szA_max mo
          have hs1 : 0 ≤ szA d ∧ szA d ≤ 400 := by unfold szA; split <;> omega
          have hs2 : 0 ≤ szA mo ∧ szA mo ≤ 400 := by unfold szA; split <;> omega
          generalize szA d = S1 at *
          generalize szA mo = S2 at *
          have hle : ¬ S2 < S1 := by omega
          have hmk := Lib.hid hML
          clear hML
          rcases hpk : dp k with _ | _
          · have hlt : ¬ (t : Int) < S1 := fun h => by have := hdp.2 h; rw [hpk] at this; cases this
            rw [hpk] at hbt
            have hbt2 : M / 2 ^ k % 2 = 0 := by simpa using hbt
            clear hbt hdp hpk hbs
            go_wp2_with (first | (refine wpList_yield rfl (run_shrN (κ := .u64) (m := M) (k := k) rfl rfl rfl hk64) ?_) | (refine wpList_yield rfl (run_and1 (m := M / 2 ^ k) rfl rfl rfl hMk) ?_; rw [hbt2]))
            go_roundw
            case rel => exact ⟨k + 1, by omega, by go_num, below_drewT HB90.out _⟩
            case measure => simp [intOf]; omega
          · have hlt : (t : Int) < S1 := hdp.1 hpk
            rw [hpk] at hbt
            have hbt2 : M / 2 ^ k % 2 = 1 := by simpa using hbt
            clear hbt hdp hpk hbs
            go_wp2_with (first | (refine wpList_yield rfl (run_shrN (κ := .u64) (m := M) (k := k) rfl rfl rfl hk64) ?_) | (refine wpList_yield rfl (run_and1 (m := M / 2 ^ k) rfl rfl rfl hMk) ?_; rw [hbt2]))
            go_roundw
            case rel => exact ⟨k + 1, by omega, by go_num, below_drewT HB90.out _⟩
            case measure => simp [intOf]; omega
        obtain rfl : k = 64 := by omega
        obtain ⟨w91, hw91⟩ : ∃ x : World, x = wr := ⟨_, rfl⟩
        rw [← hw91] at hb90 ⊢
        clear hw91
        have K91 := Lib.hid (k_87.out.trans (hb90.mono k_87.out.size))
        clear hb90 k_87 CA_87 CB_87 hk hk64 hbit hMlt hDP hbest hbi hmo hfa hfb
        go_wp2_with fail
        refine (Hp0.out 8 _ (by omega) (by omega) (HX0.out.below K91.out (Nat.le_refl _))).mono ?_; rintro e w92 ⟨r92, rfl, hp92, hb92⟩
        obtain ⟨We, rfl, hWe⟩ := natP (m := 8) hp92 (by omega)
        clear hp92
        have k_92 := Lib.hid (K91.out.trans (hb92.mono K91.out.size))
        clear K91
        clear hb92
        go_wp2_with fail
        refine (Hp1.out 8 _ (by omega) (by omega) (HX1.out.below k_92.out (Nat.le_refl _))).mono ?_; rintro e w93 ⟨r93, rfl, hp93, hb93⟩
        obtain ⟨No, rfl, hNo⟩ := natP (m := 8) hp93 (by omega)
        clear hp93
        have k_93 := Lib.hid (k_92.out.trans (hb93.mono k_92.out.size))
        clear k_92
        clear hb93
        have hma := fun W h => MaskOf_any s (We : Int) (No : Int) 7 7 W h
        have hrb : rctB (We : Int) (No : Int) 7 7 = true := rctB_iff.2 ⟨inB_true.2 ⟨by omega, by omega⟩, inB_true.2 ⟨by omega, by omega⟩, by decide, by decide, by omega, by omega⟩
        unfold rctV rctC at hma
        rw [if_pos hrb, if_pos hrb] at hma
        have hci := fun W => CellsIn_any (maskN (rctP (We : Int) (No : Int) 7 7) 64) (maskN_lt _ 64 (Nat.le_refl _)) W
        have hcn := rect_cnt We hWe No hNo
        rw [hcn] at hci
        generalize maskN (rctP (We : Int) (No : Int) 7 7) 64 = RM at *
        clear hcn hrb
        have hml : (8 - (We : Int)) * (8 - (No : Int)) = (((8 - We) * (8 - No) : Nat) : Int) := by rw [Int.natCast_mul, Int.natCast_sub (by omega), Int.natCast_sub (by omega)]; rfl
        have hCb : (8 - We) * (8 - No) ≤ 64 := by have := Nat.mul_le_mul (show 8 - We ≤ 8 by omega) (show 8 - No ≤ 8 by omega); omega
        generalize (8 - We) * (8 - No) = CN at *
        have Hma := Lib.hid hma; clear hma
        have Hci := Lib.hid hci; clear hci
        go_wp2_with fail
        refine (Hma.out _ (HE.out.below k_93.out (Nat.le_refl _))).mono ?_; rintro e w94 ⟨rfl, hb94⟩
        have k_94 := Lib.hid (k_93.out.trans (hb94.mono k_93.out.size))
        clear k_93
        clear hb94
        go_wp2_with fail
        refine (Hci.out _).mono ?_; rintro e w95 ⟨rfl, rfl⟩
        go_wp2_with fail
        go_ret
        exact ⟨ret_bool (by simp), k_94.out⟩
end Go.Proofs.YtfnefeaplghgcaaDoor


/-
  Brackets of settings: what the program's and the reference's functions return, for every setting and number. Condition of the program's: its variables hold their own errors.
-/
import Derived.Test.YtmjoccgdpchjbaaDoorOwnSettingS
import Derived.Test.YtmjoccgdpchjbaaDoorMore2
import Derived.Test.YtmjoccgdpchjbaaDoorTimesOf
import Derived.Test.YtmjoccgdpchjbaaDoorFilters
import Derived.Maps.AppendAt
namespace Go.Proofs.YtmjoccgdpchjbaaDoor
open Go.RowKit

theorem grown_of_belowB {a w : World} (h : Below a.heap.size a w) (row : Option Nat) : a.grownBy w row := ⟨h.os, h.tape, h.output, h.size, fun i hi _ => h.block i hi⟩
theorem own_belowB {w w' : World} {base size n : Nat} {e : TypeId} {v : Value} {xs : List Value} (h : w.ownsRow base e size v n xs) (hb : Below w.heap.size w w') : w'.ownsRow base e size v n xs :=
  h.kept (row := none) (grown_of_belowB hb _) (by cases v.ownBlock <;> simp)

/-- Three cells, kept. -/
theorem keep3B {B : Nat} {W W' : World} (hb : Below B W W') {g : Nat} {x y z : Option Value} (h : W.cell? ⟨g, 0, none⟩ = x ∧ W.cell? ⟨g, 1, none⟩ = y ∧ W.cell? ⟨g, 2, none⟩ = z) (hg : g < B) :
    W'.cell? ⟨g, 0, none⟩ = x ∧ W'.cell? ⟨g, 1, none⟩ = y ∧ W'.cell? ⟨g, 2, none⟩ = z :=
  ⟨(hb.cell (p := ⟨g, 0, none⟩) hg).trans h.1, (hb.cell (p := ⟨g, 1, none⟩) hg).trans h.2.1, (hb.cell (p := ⟨g, 2, none⟩) hg).trans h.2.2⟩
/-- The thirds of step m. -/
def brT (e d : Int) (m : Nat) : Int := ((m : Int) - e) * d
/-- Can the first m be made? -/
def brB (a b e d : Int) : Nat → Bool
  | 0 => true
  | m + 1 => brB a b e d m && inB (moreA a b (brT e d m)) 0 30
theorem brB_mono {a b e d : Int} {m n : Nat} (h : m ≤ n) (hf : brB a b e d m = false) : brB a b e d n = false := by
  induction n with
  | zero => obtain rfl : m = 0 := by omega
            exact hf
  | succ n ih =>
    by_cases hm : m = n + 1
    · subst hm; exact hf
    · simp [brB, ih (by omega)]
theorem brT_bd {e d : Int} {m : Nat} (h0 : 0 ≤ e) (h1 : e ≤ 5) (d0 : 1 ≤ d) (d1 : d ≤ 9) (hm : (m : Int) ≤ 2 * e) : -100 ≤ brT e d m ∧ brT e d m ≤ 100 := by
  unfold brT
  have a1 : -5 ≤ (m : Int) - e := by omega
  have a2 : (m : Int) - e ≤ 5 := by omega
  generalize (m : Int) - e = x at a1 a2
  have hx : x = -5 ∨ x = -4 ∨ x = -3 ∨ x = -2 ∨ x = -1 ∨ x = 0 ∨ x = 1 ∨ x = 2 ∨ x = 3 ∨ x = 4 ∨ x = 5 := by omega
  rcases hx with rfl | rfl | rfl | rfl | rfl | rfl | rfl | rfl | rfl | rfl | rfl <;> omega
def brN (e : Int) : Nat := (2 * e + 1).toNat
def brC (a b c e d : Int) : Int := if okS a b c = true then (if (inB e 0 5 && inB d 1 9) = true then (if brB a b e d (brN e) = true then 0 else 6) else 2) else 1
/-- How many come back. -/
def brL (a b c e d : Int) : Nat := if brC a b c e d = 0 then brN e else 0
def brF0 (a e d : Int) (m : Nat) : Int := moreS a (brT e d m)
def brF1 (a b e d : Int) (m : Nat) : Int := moreA a b (brT e d m)
theorem br_bad {a b c e d : Int} (h : okS a b c = false) : brC a b c e d = 1 ∧ brL a b c e d = 0 := by simp [brC, brL, h]
theorem br_far {a b c e d : Int} (h : okS a b c = true) (h2 : (inB e 0 5 && inB d 1 9) = false) : brC a b c e d = 2 ∧ brL a b c e d = 0 := by simp [brC, brL, h, h2]
theorem br_no {a b c e d : Int} (h : okS a b c = true) (h2 : (inB e 0 5 && inB d 1 9) = true) (h3 : brB a b e d (brN e) = false) : brC a b c e d = 6 ∧ brL a b c e d = 0 := by
  have h4 : brC a b c e d = 6 := by unfold brC; rw [if_pos h, if_pos h2, if_neg (by simp [h3])]
  exact ⟨h4, by unfold brL; rw [h4]; rfl⟩
theorem br_yes {a b c e d : Int} (h : okS a b c = true) (h2 : (inB e 0 5 && inB d 1 9) = true) (h3 : brB a b e d (brN e) = true) : brC a b c e d = 0 ∧ brL a b c e d = brN e := by
  have h4 : brC a b c e d = 0 := by unfold brC; rw [if_pos h, if_pos h2, if_pos h3]
  exact ⟨h4, by unfold brL; rw [if_pos h4]⟩
theorem brN_le (a b c e d : Int) : brL a b c e d ≤ 11 := by
  unfold brL
  split
  · rename_i h
    unfold brC at h
    split at h
    · split at h
      · rename_i h2
        simp only [Bool.and_eq_true] at h2
        have := inB_true.1 h2.1
        unfold brN; omega
      · omega
    · omega
  · omega

/-- What comes back: a list of settings in memory of the call's own, and a code. -/
def MadeSet (F0 F1 F2 : Nat → Int) (n : Nat) (c : Int) (w : World) (e : Ending) (w' : World) : Prop :=
  ∃ v, e = .returned (.tuple #[v, .int .i64 c]) ∧ Mine w' w.heap.size w'.heap.size 29 3 v n (cellSettingS F0 F1 F2) ∧ Below w.heap.size w w'
def MadeSetE (s : Ers) (F0 F1 F2 : Nat → Int) (n : Nat) (c : Int) (w : World) (e : Ending) (w' : World) : Prop :=
  ∃ v x, IsCode s x c ∧ e = .returned (.tuple #[v, x]) ∧ Mine w' w.heap.size w'.heap.size 29 3 v n (cellSettingS F0 F1 F2) ∧ Below w.heap.size w w'

set_option maxRecDepth 100000 in
set_option maxHeartbeats 1000000 in
theorem specBracketOf_any (a b c e d : Int) (ha : -128 ≤ a) (ha' : a ≤ 127) (hb : -128 ≤ b) (hb' : b ≤ 127) (hc : -128 ≤ c) (hc' : c ≤ 127) (w : World) :
    Calls Tryd.prog 25 #[setV a b c, .int .i64 e, .int .i64 d] w (MadeSet (brF0 a e d) (brF1 a b e d) (fun _ => c) (brL a b c e d) (brC a b c e d) w) := by
  obtain ⟨i0, hi, hz0, hz1, hz2⟩ := info_parts infoSettingS
  have hk := l01Ok_any a b c ha ha' hb hb' hc hc'
  have k0 : Below w.heap.size w (w.alloc (.cells #[.int .i8 a, .int .i8 b, .int .i8 c] 29)) := (Below.refl _ _).alloc (Nat.le_refl _) _
  rcases h1 : okS a b c with _ | _
  · rw [(br_bad h1).1, (br_bad h1).2]
    rw [h1] at hk
    have Hk := Lib.hid hk; clear hk h1
    go_enter Tryd.func25, Tryd.ntmps25
    go_wp2_with fail
    refine (Hk.out _).mono ?_; rintro e w1 ⟨rfl, hb1⟩
    have k1 := k0.trans (hb1.mono k0.size)
    go_wp2_with fail
    go_ret2
    exact ⟨_, rfl, .nil _ _ _ _ _ _ _ _, k1.alloc k1.size _⟩
  · rw [h1] at hk
    have Hk := Lib.hid hk; clear hk
    rcases h2 : (inB e 0 5 && inB d 1 9) with _ | _
    · rw [(br_far h1 h2).1, (br_far h1 h2).2]
      rcases h3 : inB e 0 5 with _ | _
      · clear h2
        have hx := fun W => l00In_any e 0 5 W
        rw [h3] at hx
        have Hx := Lib.hid hx; clear hx h3 h1
        go_enter Tryd.func25, Tryd.ntmps25
        go_wp2_with fail
        refine (Hk.out _).mono ?_; rintro e w1 ⟨rfl, hb1⟩
        have k1 := k0.trans (hb1.mono k0.size)
        go_wp2_with fail
        refine (Hx.out _).mono ?_; rintro e w2 ⟨rfl, rfl⟩
        go_wp2_with fail
        go_ret2
        exact ⟨_, rfl, .nil _ _ _ _ _ _ _ _, k1.alloc k1.size _⟩
      · rw [h3] at h2
        have h4 : inB d 1 9 = false := by simpa using h2
        have hx := fun W => l00In_any e 0 5 W
        rw [h3] at hx
        have hy := fun W => l00In_any d 1 9 W
        rw [h4] at hy
        have Hx := Lib.hid hx; clear hx h3 h1
        have Hy := Lib.hid hy; clear hy h4 h2
        go_enter Tryd.func25, Tryd.ntmps25
        go_wp2_with fail
        refine (Hk.out _).mono ?_; rintro e w1 ⟨rfl, hb1⟩
        have k1 := k0.trans (hb1.mono k0.size)
        go_wp2_with fail
        refine (Hx.out _).mono ?_; rintro e w2 ⟨rfl, rfl⟩
        go_wp2_with fail
        refine (Hy.out _).mono ?_; rintro e w2 ⟨rfl, rfl⟩
        go_wp2_with fail
        go_ret2
        exact ⟨_, rfl, .nil _ _ _ _ _ _ _ _, k1.alloc k1.size _⟩
    · have h3 : inB e 0 5 = true ∧ inB d 1 9 = true := by simpa using h2
      have he := inB_true.1 h3.1
      have hd := inB_true.1 h3.2
      have hin := okS_true.1 h1
      have hx := fun W => l00In_any e 0 5 W
      rw [h3.1] at hx
      have hy := fun W => l00In_any d 1 9 W
      rw [h3.2] at hy
      have Hx := Lib.hid hx; clear hx
      have Hy := Lib.hid hy; clear hy h3
      have Hb := Lib.hid (show brL a b c e d = (if brB a b e d (brN e) = true then brN e else 0) ∧ brC a b c e d = (if brB a b e d (brN e) = true then 0 else 6) by
        rcases h5 : brB a b e d (brN e) with _ | _
        · exact ⟨by rw [(br_no h1 h2 h5).2]; rfl, by rw [(br_no h1 h2 h5).1]; rfl⟩
        · exact ⟨by rw [(br_yes h1 h2 h5).2]; rfl, by rw [(br_yes h1 h2 h5).1]; rfl⟩)
      generalize brL a b c e d = L at Hb ⊢
      generalize brC a b c e d = C at Hb ⊢
      obtain ⟨⟨a0, a1⟩, ⟨b0, b1⟩, c0, c1⟩ := hin
      clear h1 h2 ha ha' hb hb' hc hc'
      obtain ⟨q, rfl⟩ := Int.eq_ofNat_of_zero_le he.1
      have hN : brN (q : Int) = 2 * q + 1 := by unfold brN; omega
      have HN := Lib.hid hN; clear hN
      have q5 : q ≤ 5 := by omega
      go_enter Tryd.func25, Tryd.ntmps25
      go_wp2_with fail
      refine (Hk.out _).mono ?_; rintro e w1 ⟨rfl, hb1⟩
      have k1 := k0.trans (hb1.mono k0.size)
      obtain ⟨p1, f1⟩ := bcell hb1
      have z1 : w.heap.size < w1.heap.size := by have := hb1.size; simp at this; omega
      have s0 : w1.cell? ⟨w.heap.size, 0, none⟩ = some (.int .i8 a) := by rw [p1 _ _ (by simp)]; simp
      have s1 : w1.cell? ⟨w.heap.size, 1, none⟩ = some (.int .i8 b) := by rw [p1 _ _ (by simp)]; simp
      have s2 : w1.cell? ⟨w.heap.size, 2, none⟩ = some (.int .i8 c) := by rw [p1 _ _ (by simp)]; simp
      clear p1 f1 hb1
      go_wp2_with fail
      refine (Hx.out _).mono ?_; rintro e w2 ⟨rfl, rfl⟩
      go_wp2_with fail
      refine (Hy.out _).mono ?_; rintro e w2 ⟨rfl, rfl⟩
      go_wp2_with fail
      go_loopw [8, 9] (fun v i wr => ∃ k : Nat, k ≤ 2 * q + 1 ∧ i = .int .i64 ((k : Int) - q) ∧ wr.ownsRow w1.heap.size 29 3 v k (listSettingS (brF0 a q d) (brF1 a b q d) (fun _ => c) k) ∧ brB a b q d k = true ∧ Below w1.heap.size w1 wr) (fun _ i _ => (q + 1 - intOf i).toNat)
      case atStart => exact ⟨0, Nat.zero_le _, by simp, World.ownsRow_lit w1 #[] 0 (Nat.le_refl _) (Nat.zero_le _) rfl, rfl, (Below.refl _ _).alloc (Nat.le_refl _) _⟩
      case round =>
        obtain ⟨k, hk, rfl, hown, hbr, hB⟩ := hrel
        have hsz := hB.size
        by_cases hkn : k < 2 * q + 1
        · have ht := brT_bd (e := q) (d := d) (m := k) (by omega) (by omega) hd.1 hd.2 (by omega)
          have t0 : wr.cell? ⟨w.heap.size, 0, none⟩ = some (.int .i8 a) := by rw [hB.cell (p := ⟨w.heap.size, 0, none⟩) z1]; exact s0
          have t1 : wr.cell? ⟨w.heap.size, 1, none⟩ = some (.int .i8 b) := by rw [hB.cell (p := ⟨w.heap.size, 1, none⟩) z1]; exact s1
          have t2 : wr.cell? ⟨w.heap.size, 2, none⟩ = some (.int .i8 c) := by rw [hB.cell (p := ⟨w.heap.size, 2, none⟩) z1]; exact s2
          have hw : wrap64 (((k : Int) - q) * d) = brT q d k := by
            unfold brT at ht ⊢
            exact IntWalk.wrap64_in _ ⟨by omega, by omega⟩
          rcases h6 : inB (moreA a b (brT q d k)) 0 30 with _ | _
          · have hbf : brB a b q d (brN q) = false := by
              rw [HN.out]
              exact brB_mono (m := k + 1) (by omega) (by simp [brB, h6])
            have hb2 := Hb.out
            rw [if_neg (by simp [hbf]), if_neg (by simp [hbf])] at hb2
            obtain ⟨rfl, rfl⟩ := hb2
            have hm := l01More_no a b c (brT q d k) a0 a1 b0 b1 c0 c1 ht.1 ht.2 h6
            clear h6 hbf
            generalize brT q d k = t at hw ht hm
            have Hm := Lib.hid hm; clear hm
            go_wp2_with fail
            refine (Hm.out _).mono ?_; rintro e w3 ⟨rfl, hb3⟩
            have k3 := k1.trans ((hB.trans (hb3.mono hB.size)).mono k1.size)
            go_wp2_with fail
            go_ret2
            exact ⟨_, rfl, .nil _ _ _ _ _ _ _ _, (k3.alloc k3.size _).alloc (by have := k3.size; simp; omega) _⟩
          · have hbt : brB a b q d (k + 1) = true := by simp [brB, h6, hbr]
            have hm := l01More_yes a b c (brT q d k) a0 a1 b0 b1 c0 c1 ht.1 ht.2 h6
            have hl : listSettingS (brF0 a q d) (brF1 a b q d) (fun _ => c) (k + 1) = listSettingS (brF0 a q d) (brF1 a b q d) (fun _ => c) k ++ [.int .i8 (moreS a (brT q d k)), .int .i8 (moreA a b (brT q d k)), .int .i8 c] := rfl
            have g1 := inB_true.1 h6
            have g0 := moreS_bd a (brT q d k)
            clear h6
            generalize moreS a (brT q d k) = X at hm hl g0
            generalize moreA a b (brT q d k) = Y at hm hl g1
            generalize brT q d k = t at hw ht hm
            have Hm := Lib.hid hm; clear hm
            have Hl := Lib.hid hl; clear hl
            have Hbt := Lib.hid hbt; clear hbt hbr
            go_wp2_with fail
            refine (Hm.out _).mono ?_; rintro e w3 ⟨rfl, hb3⟩
            have hown1 := own_belowB hown hb3
            have hB1 := hB.trans (hb3.mono hsz)
            clear hown hB hb3
            go_wp2_with (at_builtin; refine wpList_append_own _ rfl _ _ 36 rfl w1.heap.size 29 i0 (.agg #[.int .i8 0, .int .i8 0, .int .i8 0]) 3 3 Tryd.underlying36 hi hz0 hz1 hz2 rfl (by decide) _ _ _ rfl ((hown1.alloc _).alloc _) ⟨w3.heap.size + 1, 0, none⟩ 1 1 [.int .i8 X, .int .i8 Y, .int .i8 c] rfl rfl ?c1 ?c2 ?c3 ?c4 ?c5 ?_)
            case c1 =>
              intro j u hj
              match j, hj with
              | 0, hj => simp at hj; subst hj; simp [Addr.add, go_sem]
              | 1, hj => simp at hj; subst hj; simp [Addr.add, go_sem]
              | 2, hj => simp at hj; subst hj; simp [Addr.add, go_sem]
              | j + 3, hj => simp at hj
            case c2 => intro u hu; simp at hu; rcases hu with rfl | rfl | rfl <;> rfl
            case c3 => unfold maxLen; omega
            case c4 => omega
            case c5 => have := hB1.size; simp; omega
            intro v' w4 hown2 hg2 _
            have hB2 : Below w1.heap.size w1 w4 := ((hB1.alloc hB1.size _).alloc (by have := hB1.size; simp; omega) _).grown hg2 (by have := hB1.size; simp; omega) (fun j hj => (hown1.lt j hj).1)
            have hown3 : w4.ownsRow w1.heap.size 29 3 v' (k + 1) (listSettingS (brF0 a q d) (brF1 a b q d) (fun _ => c) (k + 1)) := by
              rw [Hl.out]; exact hown2
            clear hown1 hown2 hg2 hB1
            go_wp2
            go_roundw
            case rel => exact ⟨k + 1, by omega, congrArg (Value.int .i64) (by omega), hown3, Hbt.out, hB2⟩
            case measure => simp [intOf]; omega
        · have e : k = 2 * q + 1 := by omega
          subst e
          have hb2 := Hb.out
          rw [HN.out, if_pos hbr, if_pos hbr] at hb2
          obtain ⟨rfl, rfl⟩ := hb2
          clear hbr
          go_wp2
          go_ret2
          exact ⟨_, rfl, (Mine.of_listSettingS hown).mono k1.size (Nat.le_refl _), k1.trans (hB.mono k1.size)⟩

set_option maxRecDepth 100000 in
set_option maxHeartbeats 1000000 in
theorem after_any (s : Ers) (a b c d k t : Int) (p q : Nat) (ha : -128 ≤ a) (ha' : a ≤ 127) (hb : -128 ≤ b) (hb' : b ≤ 127) (hc : -128 ≤ c) (hc' : c ≤ 127) (ht : wrap64 (k * d) = t) (w : World)
    (s0 : w.cell? ⟨p, 0, none⟩ = some (.int .i8 a)) (s1 : w.cell? ⟨p, 1, none⟩ = some (.int .i8 b)) (s2 : w.cell? ⟨p, 2, none⟩ = some (.int .i8 c)) (sd : w.cell? ⟨q, 0, none⟩ = some (.int .i64 d)) (hE : ErrEnv s w) :
    Calls Tryd.prog 74 #[.int .i64 k, .pointer (some ⟨p, 0, none⟩), .pointer (some ⟨q, 0, none⟩)] w (CodedV s (moreV a b c t) (moreC a b c t) w.heap.size w) := by
  obtain ⟨x, y, z, hv⟩ := moreV_set' a b c t
  have hm := fun (W : World) (hW : ErrEnv s W) => moreLight_any s a b c t ha ha' hb hb' hc hc' W hW
  rw [hv] at hm ⊢
  generalize moreC a b c t = C at hm ⊢
  have Hm := Lib.hid hm; clear hm hv
  have lp : p < w.heap.size := World.block_lt_of_cell? w _ s0
  have lq : q < w.heap.size := World.block_lt_of_cell? w _ sd
  have k0 : Below w.heap.size w (w.alloc (.cells #[.int .i8 0, .int .i8 0, .int .i8 0] 29)) := (Below.refl _ _).alloc (Nat.le_refl _) _
  have ne1 : p ≠ w.heap.size := by omega
  have ne2 : q ≠ w.heap.size := by omega
  go_enter Tryd.func74, Tryd.ntmps74
  go_wp2_with fail
  refine (Hm.out _ (hE.below k0 (Nat.le_refl _))).mono ?_; rintro e w1 ⟨v, hv, rfl, hb1⟩
  obtain ⟨q1, f1⟩ := bcell hb1
  have z1 : w.heap.size < w1.heap.size := by have := hb1.size; simp at this; omega
  have k1 := k0.trans (hb1.mono k0.size)
  go_wp2_with fail
  refine bodyPost_ret (v := .tuple #[setV x y z, v]) (by simp [results, Tryd.results74, go_sem, q1]) rfl ⟨v, hv, rfl, ?_⟩
  exact ((k1.setCell (p := ⟨w.heap.size, 0, none⟩) (Nat.le_refl _) _).setCell (p := ⟨w.heap.size, 1, none⟩) (Nat.le_refl _) _).setCell (p := ⟨w.heap.size, 2, none⟩) (Nat.le_refl _) _

theorem codedSets_any {s : Ers} {v : Value} {c : Int} (h : IsCode s v c) (x : Value) (w : World) (hE : ErrEnv s w) :
    Calls Tryd.prog 55 #[x, v] w fun e w' => e = .returned (.tuple #[x, .int .i64 c]) ∧ w = w' := by
  go_enter Tryd.func55, Tryd.ntmps55
  go_wp2_with fail
  refine (codeOf_any h _ hE).mono ?_; rintro e w1 ⟨rfl, rfl⟩
  go_wp2_with fail
  go_ret2
  exact ⟨rfl, rfl⟩

theorem IsCode.six {s : Ers} {v : Value} {c : Int} (h : IsCode s v c) (hc : c = 6) : v = errV s.enotfound := by
  cases h <;> first | rfl | cases hc
theorem below_drewB {B : Nat} {a w : World} (h : Below B a w) (n : Nat) : Below B a (w.drewN n) := ⟨h.os, h.tape, h.output, h.size, h.block⟩

set_option maxRecDepth 100000 in
set_option maxHeartbeats 2000000 in
theorem bracketOf_any (s : Ers) (a b c e d : Int) (ha : -128 ≤ a) (ha' : a ≤ 127) (hb : -128 ≤ b) (hb' : b ≤ 127) (hc : -128 ≤ c) (hc' : c ≤ 127) (w : World) (hE : ErrEnv s w) :
    Calls Tryd.prog 56 #[setV a b c, .int .i64 e, .int .i64 d] w (MadeSetE s (brF0 a e d) (brF1 a b e d) (fun _ => c) (brL a b c e d) (brC a b c e d) w) := by
  obtain ⟨i0, hi, hz0, hz1, hz2⟩ := info_parts infoSettingS
  have hk := implValid_any a b c ha ha' hb hb' hc hc'
  have k0 : Below w.heap.size w ((w.alloc (.cells #[.int .i8 a, .int .i8 b, .int .i8 c] 29)).alloc (.cells #[.int .i64 d] 2)) := ((Below.refl _ _).alloc (Nat.le_refl _) _).alloc (by simp) _
  rcases h1 : okS a b c with _ | _
  · rw [(br_bad h1).1, (br_bad h1).2]
    rw [h1] at hk
    have Hk := Lib.hid hk; clear hk h1
    go_enter Tryd.func56, Tryd.ntmps56
    go_wp2_with fail
    refine (Hk.out _).mono ?_; rintro e w1 ⟨rfl, hb1⟩
    have k1 := k0.trans (hb1.mono k0.size)
    have ce := (hE.below k1 (Nat.le_refl _)).c_einvalid
    go_wp2_with fail
    go_quiet (fail)
    go_wp2
    go_ret2
    exact ⟨_, _, .einvalid, rfl, .nil _ _ _ _ _ _ _ _, below_drewB k1 _⟩
  · rw [h1] at hk
    have Hk := Lib.hid hk; clear hk
    rcases h2 : (inB e 0 5 && inB d 1 9) with _ | _
    · rw [(br_far h1 h2).1, (br_far h1 h2).2]
      rcases h3 : inB e 0 5 with _ | _
      · clear h2
        have hx := fun W => inRange_any e 0 5 W
        rw [h3] at hx
        have Hx := Lib.hid hx; clear hx h3 h1
        go_enter Tryd.func56, Tryd.ntmps56
        go_wp2_with fail
        refine (Hk.out _).mono ?_; rintro e w1 ⟨rfl, hb1⟩
        have k1 := k0.trans (hb1.mono k0.size)
        have ce := (hE.below k1 (Nat.le_refl _)).c_erange
        go_wp2_with fail
        refine (Hx.out _).mono ?_; rintro e w2 ⟨rfl, rfl⟩
        go_wp2_with fail
        go_quiet (fail)
        go_wp2
        go_ret2
        exact ⟨_, _, .erange, rfl, .nil _ _ _ _ _ _ _ _, below_drewB k1 _⟩
      · rw [h3] at h2
        have h4 : inB d 1 9 = false := by simpa using h2
        have hx := fun W => inRange_any e 0 5 W
        rw [h3] at hx
        have hy := fun W => inRange_any d 1 9 W
        rw [h4] at hy
        have Hx := Lib.hid hx; clear hx h3 h1
        have Hy := Lib.hid hy; clear hy h4 h2
        go_enter Tryd.func56, Tryd.ntmps56
        go_wp2_with fail
        refine (Hk.out _).mono ?_; rintro e w1 ⟨rfl, hb1⟩
        obtain ⟨p1, f1⟩ := bcell hb1
        have k1 := k0.trans (hb1.mono k0.size)
        have ce := (hE.below k1 (Nat.le_refl _)).c_erange
        go_wp2_with fail
        refine (Hx.out _).mono ?_; rintro e w2 ⟨rfl, rfl⟩
        go_wp2_with fail
        refine (Hy.out _).mono ?_; rintro e w2 ⟨rfl, rfl⟩
        go_wp2_with fail
        go_quiet (fail)
        go_wp2
        go_ret2
        exact ⟨_, _, .erange, rfl, .nil _ _ _ _ _ _ _ _, below_drewB k1 _⟩
    · have h3 : inB e 0 5 = true ∧ inB d 1 9 = true := by simpa using h2
      have he := inB_true.1 h3.1
      have hd := inB_true.1 h3.2
      have hin := okS_true.1 h1
      have hx := fun W => inRange_any e 0 5 W
      rw [h3.1] at hx
      have hy := fun W => inRange_any d 1 9 W
      rw [h3.2] at hy
      have Hx := Lib.hid hx; clear hx
      have Hy := Lib.hid hy; clear hy h3
      have Hb := Lib.hid (show brL a b c e d = (if brB a b e d (brN e) = true then brN e else 0) ∧ brC a b c e d = (if brB a b e d (brN e) = true then 0 else 6) by
        rcases h5 : brB a b e d (brN e) with _ | _
        · exact ⟨by rw [(br_no h1 h2 h5).2]; rfl, by rw [(br_no h1 h2 h5).1]; rfl⟩
        · exact ⟨by rw [(br_yes h1 h2 h5).2]; rfl, by rw [(br_yes h1 h2 h5).1]; rfl⟩)
      generalize brL a b c e d = L at Hb ⊢
      generalize brC a b c e d = C at Hb ⊢
      have Hok := Lib.hid h1
      obtain ⟨⟨a0, a1⟩, ⟨b0, b1⟩, c0, c1⟩ := hin
      clear h1 h2
      obtain ⟨q, rfl⟩ := Int.eq_ofNat_of_zero_le he.1
      have hN : brN (q : Int) = 2 * q + 1 := by unfold brN; omega
      have HN := Lib.hid hN; clear hN
      have q5 : q ≤ 5 := by omega
      have HE := Lib.hid hE; clear hE
      go_enter Tryd.func56, Tryd.ntmps56
      go_wp2_with fail
      refine (Hk.out _).mono ?_; rintro e w1 ⟨rfl, hb1⟩
      have k1 := k0.trans (hb1.mono k0.size)
      obtain ⟨p1, f1⟩ := bcell hb1
      have z1 : w.heap.size + 1 < w1.heap.size := by have := hb1.size; simp at this; omega
      have s0 : w1.cell? ⟨w.heap.size, 0, none⟩ = some (.int .i8 a) := by rw [p1 _ _ (by simp; omega)]; simp
      have s1 : w1.cell? ⟨w.heap.size, 1, none⟩ = some (.int .i8 b) := by rw [p1 _ _ (by simp; omega)]; simp
      have s2 : w1.cell? ⟨w.heap.size, 2, none⟩ = some (.int .i8 c) := by rw [p1 _ _ (by simp; omega)]; simp
      have sd : w1.cell? ⟨w.heap.size + 1, 0, none⟩ = some (.int .i64 d) := by rw [p1 _ _ (by simp)]; simp
      clear p1 f1 hb1
      go_wp2_with fail
      refine (Hx.out _).mono ?_; rintro e w2 ⟨rfl, rfl⟩
      go_wp2_with fail
      refine (Hy.out _).mono ?_; rintro e w2 ⟨rfl, rfl⟩
      go_wp2_with fail
      go_loopw [9, 10] (fun v i wr => ∃ k : Nat, k ≤ 2 * q + 1 ∧ i = .int .i64 ((k : Int) - q) ∧ wr.ownsRow w1.heap.size 29 3 v k (listSettingS (brF0 a q d) (brF1 a b q d) (fun _ => c) k) ∧ brB a b q d k = true ∧ Below w1.heap.size w1 wr) (fun _ i _ => (q + 1 - intOf i).toNat)
      case atStart => exact ⟨0, Nat.zero_le _, by simp, World.ownsRow_lit w1 #[] 0 (Nat.le_refl _) (Nat.zero_le _) rfl, rfl, (Below.refl _ _).alloc (Nat.le_refl _) _⟩
      case round =>
        obtain ⟨k, hk, rfl, hown, hbr, hB⟩ := hrel
        have hsz := hB.size
        by_cases hkn : k < 2 * q + 1
        · have ht := brT_bd (e := q) (d := d) (m := k) (by omega) (by omega) hd.1 hd.2 (by omega)
          have t0 : wr.cell? ⟨w.heap.size, 0, none⟩ = some (.int .i8 a) := by rw [hB.cell (p := ⟨w.heap.size, 0, none⟩) (by show w.heap.size < _; omega)]; exact s0
          have t1 : wr.cell? ⟨w.heap.size, 1, none⟩ = some (.int .i8 b) := by rw [hB.cell (p := ⟨w.heap.size, 1, none⟩) (by show w.heap.size < _; omega)]; exact s1
          have t2 : wr.cell? ⟨w.heap.size, 2, none⟩ = some (.int .i8 c) := by rw [hB.cell (p := ⟨w.heap.size, 2, none⟩) (by show w.heap.size < _; omega)]; exact s2
          have td : wr.cell? ⟨w.heap.size + 1, 0, none⟩ = some (.int .i64 d) := by rw [hB.cell (p := ⟨w.heap.size + 1, 0, none⟩) (by show w.heap.size + 1 < _; omega)]; exact sd
          have kr := k1.trans (hB.mono k1.size)
          have hw : wrap64 (((k : Int) - q) * d) = brT q d k := by
            unfold brT at ht ⊢
            exact IntWalk.wrap64_in _ ⟨by omega, by omega⟩
          have hm := after_any s a b c d ((k : Int) - q) (brT q d k) w.heap.size (w.heap.size + 1) ha ha' hb hb' hc hc' hw wr t0 t1 t2 td (HE.out.below kr (Nat.le_refl _))
          have htB := inB_true.2 ht
          rcases h6 : inB (moreA a b (brT q d k)) 0 30 with _ | _
          · have hbf : brB a b q d (brN q) = false := by
              rw [HN.out]
              exact brB_mono (m := k + 1) (by omega) (by simp [brB, h6])
            have hb2 := Hb.out
            rw [if_neg (by simp [hbf]), if_neg (by simp [hbf])] at hb2
            obtain ⟨rfl, rfl⟩ := hb2
            rw [(more_no Hok.out htB h6).1, (more_no Hok.out htB h6).2] at hm
            clear h6 hbf htB hw ht
            have Hm := Lib.hid hm; clear hm
            have ne := errNe
            go_wp2_with fail
            refine Hm.out.mono ?_; rintro e w3 ⟨v, hv, rfl, hb3⟩
            have hve := hv.six rfl
            subst hve
            have k3 := kr.trans (hb3.mono kr.size)
            go_wp2_with fail
            go_ret2
            exact ⟨_, _, .enotfound, rfl, .nil _ _ _ _ _ _ _ _, k3.alloc k3.size _⟩
          · have hbt : brB a b q d (k + 1) = true := by simp [brB, h6, hbr]
            rw [(more_yes Hok.out htB h6).1, (more_yes Hok.out htB h6).2] at hm
            have hl : listSettingS (brF0 a q d) (brF1 a b q d) (fun _ => c) (k + 1) = listSettingS (brF0 a q d) (brF1 a b q d) (fun _ => c) k ++ [.int .i8 (moreS a (brT q d k)), .int .i8 (moreA a b (brT q d k)), .int .i8 c] := rfl
            clear h6 htB hw ht
            generalize moreS a (brT q d k) = X at hm hl
            generalize moreA a b (brT q d k) = Y at hm hl
            have Hm := Lib.hid hm; clear hm
            have Hl := Lib.hid hl; clear hl
            have Hbt := Lib.hid hbt; clear hbt hbr
            have nn := nilNe
            go_wp2_with fail
            refine Hm.out.mono ?_; rintro e w3 ⟨v, hv, rfl, hb3⟩
            have hve := hv.zero rfl
            subst hve
            have hown1 := own_belowB hown hb3
            have hB1 := hB.trans (hb3.mono hsz)
            clear hown hB hb3
            go_wp2_with (at_builtin; refine wpList_append_own _ rfl _ _ 36 rfl w1.heap.size 29 i0 (.agg #[.int .i8 0, .int .i8 0, .int .i8 0]) 3 3 Tryd.underlying36 hi hz0 hz1 hz2 rfl (by decide) _ _ _ rfl ((hown1.alloc _).alloc _) ⟨w3.heap.size + 1, 0, none⟩ 1 1 [.int .i8 X, .int .i8 Y, .int .i8 c] rfl rfl ?c1 ?c2 ?c3 ?c4 ?c5 ?_)
            case c1 =>
              intro j u hj
              match j, hj with
              | 0, hj => simp at hj; subst hj; simp [Addr.add, go_sem]
              | 1, hj => simp at hj; subst hj; simp [Addr.add, go_sem]
              | 2, hj => simp at hj; subst hj; simp [Addr.add, go_sem]
              | j + 3, hj => simp at hj
            case c2 => intro u hu; simp at hu; rcases hu with rfl | rfl | rfl <;> rfl
            case c3 => unfold maxLen; omega
            case c4 => omega
            case c5 => have := hB1.size; simp; omega
            intro v' w4 hown2 hg2 _
            have hB2 : Below w1.heap.size w1 w4 := ((hB1.alloc hB1.size _).alloc (by have := hB1.size; simp; omega) _).grown hg2 (by have := hB1.size; simp; omega) (fun j hj => (hown1.lt j hj).1)
            have hown3 : w4.ownsRow w1.heap.size 29 3 v' (k + 1) (listSettingS (brF0 a q d) (brF1 a b q d) (fun _ => c) (k + 1)) := by
              rw [Hl.out]; exact hown2
            clear hown1 hown2 hg2 hB1
            go_wp2
            go_roundw
            case rel => exact ⟨k + 1, by omega, congrArg (Value.int .i64) (by omega), hown3, Hbt.out, hB2⟩
            case measure => simp [intOf]; omega
        · have e : k = 2 * q + 1 := by omega
          subst e
          have hb2 := Hb.out
          rw [HN.out, if_pos hbr, if_pos hbr] at hb2
          obtain ⟨rfl, rfl⟩ := hb2
          clear hbr
          go_wp2
          go_ret2
          exact ⟨_, _, .ok, rfl, (Mine.of_listSettingS hown).mono k1.size (Nat.le_refl _), k1.trans (hB.mono k1.size)⟩

set_option maxHeartbeats 1000000 in
theorem BracketOf_any (s : Ers) (a b c e d : Int) (ha : -128 ≤ a) (ha' : a ≤ 127) (hb : -128 ≤ b) (hb' : b ≤ 127) (hc : -128 ≤ c) (hc' : c ≤ 127) (w : World) (hE : ErrEnv s w) :
    Calls Tryd.prog 26 #[setV a b c, .int .i64 e, .int .i64 d] w (MadeSet (brF0 a e d) (brF1 a b e d) (fun _ => c) (brL a b c e d) (brC a b c e d) w) := by
  have k0 : Below w.heap.size w (w.alloc (.cells #[.int .i8 a, .int .i8 b, .int .i8 c] 29)) := (Below.refl _ _).alloc (Nat.le_refl _) _
  have hm := fun (W : World) (hW : ErrEnv s W) => bracketOf_any s a b c e d ha ha' hb hb' hc hc' W hW
  generalize brL a b c e d = L at hm ⊢
  generalize brC a b c e d = C at hm ⊢
  have Hm := Lib.hid hm; clear hm
  go_enter Tryd.func26, Tryd.ntmps26
  go_wp2_with fail
  refine (Hm.out _ (hE.below k0 (Nat.le_refl _))).mono ?_; rintro e w1 ⟨v, x, hv, rfl, hM, hb1⟩
  have k1 := k0.trans (hb1.mono k0.size)
  go_wp2_with fail
  refine (codedSets_any hv _ _ (hE.below k1 (Nat.le_refl _))).mono ?_; rintro e w2 ⟨rfl, rfl⟩
  go_wp2_with fail
  go_ret2
  exact ⟨_, rfl, hM.mono (by simp) (Nat.le_refl _), k1⟩
end Go.Proofs.YtmjoccgdpchjbaaDoor

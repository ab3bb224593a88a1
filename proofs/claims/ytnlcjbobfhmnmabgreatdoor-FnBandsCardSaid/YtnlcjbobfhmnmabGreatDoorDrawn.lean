/-
  A curve that the reference's source of choices draws: it is one, and lies in memory of the call's own. Condition: at most 1048576 bytes.
-/
import Derived.Test.YtnlcjbobfhmnmabGreatDoorSrc
import Derived.Test.YtnlcjbobfhmnmabGreatDoorShapeS
import Derived.Test.YtnlcjbobfhmnmabGreatDoorOwnCurve
import Derived.Maps.AppendAt
import Derived.Deep.AppendLies
namespace Go.Proofs.YtnlcjbobfhmnmabGreatDoor
open Go.RowKit

theorem grown_of_only {a w : World} {b : Nat} (h : Only b (b + 1) a w) : a.grownBy w (some b) := ⟨h.os, h.tape, h.output, h.size, fun i hi hne => h.block i hi (by
  have : i ≠ b := fun e => hne (by rw [e])
  omega)⟩
theorem own_only {w w' : World} {base size n b : Nat} {e : TypeId} {v : Value} {xs : List Value} (h : w.ownsRow base e size v n xs) (ho : Only b (b + 1) w w') (hb : b < base) : w'.ownsRow base e size v n xs :=
  h.kept (row := some b) (grown_of_only ho) (by
    rcases hv : v.ownBlock with _ | j
    · simp
    · have := (h.lt j hv).1
      simp; omega)
theorem listC_congr {fs es fs' es' : Nat → Int} : ∀ k : Nat, (∀ i, i < k → fs i = fs' i ∧ es i = es' i) → listCurve fs es k = listCurve fs' es' k
  | 0, _ => rfl
  | k + 1, h => by
    simp only [listCurve, listC_congr k (fun i hi => h i (by omega)), (h k (by omega)).1, (h k (by omega)).2]
def putAt (f : Nat → Int) (k : Nat) (x : Int) : Nat → Int := fun i => if i = k then x else f i
theorem putAt_same (f : Nat → Int) (k : Nat) (x : Int) : putAt f k x k = x := by simp [putAt]
theorem putAt_lt (f : Nat → Int) {i k : Nat} (x : Int) (h : i < k) : putAt f k x i = f i := by
  have : ¬ i = k := by omega
  simp [putAt, this]
/-- One point more. -/
theorem preC_more {xs ys : Nat → Int} {k : Nat} {x y : Int} (h : PreC k xs ys) (h1 : ptOk x y = true) (h2 : 0 < k → xs (k - 1) < x ∧ ys (k - 1) ≤ y) :
    PreC (k + 1) (putAt xs k x) (putAt ys k y) ∧ listCurve (putAt xs k x) (putAt ys k y) (k + 1) = listCurve xs ys k ++ [.int .i16 x, .int .i16 y] := by
  have hc : ∀ i, i < k → xs i = putAt xs k x i ∧ ys i = putAt ys k y i := fun i hi => ⟨(putAt_lt xs x hi).symm, (putAt_lt ys y hi).symm⟩
  refine ⟨⟨fun j hj => ?_, fun j hj => ?_⟩, ?_⟩
  · rcases Nat.lt_or_ge j k with h3 | h3
    · rw [← (hc j h3).1, ← (hc j h3).2]; exact h.1 j h3
    · obtain rfl : j = k := by omega
      rw [putAt_same, putAt_same]; exact h1
  · rcases Nat.lt_or_ge (j + 1) k with h3 | h3
    · rw [← (hc j (by omega)).1, ← (hc j (by omega)).2, ← (hc (j + 1) h3).1, ← (hc (j + 1) h3).2]; exact h.2 j h3
    · obtain rfl : k = j + 1 := by omega
      rw [putAt_same, putAt_same, putAt_lt _ _ (by omega), putAt_lt _ _ (by omega)]
      exact h2 (by omega)
  · simp only [listCurve, ← listC_congr k hc, putAt_same]
theorem own_pts {w : World} {L n : Nat} {v : Value} {xs ys : Nat → Int} (h : w.ownsRow L 90 2 v n (listCurve xs ys n)) (hn : 0 < n) :
    ∃ g cap, v = .slice (some ⟨g, 0, none⟩) n cap ∧ L ≤ g ∧ PtRow w g n xs ys := by
  obtain ⟨hl, h⟩ := h
  rcases h with ⟨_, h0⟩ | ⟨b, cap, cur, rfl, hb, hh, hn', hm, hs, ht⟩
  · omega
  · have hr : w.rowIs b 90 (cap * 2) (fun j => cur[j]?.getD undef) := ⟨cur, hh, hs, fun i hi => by simp [hs, hi]⟩
    refine ⟨b, cap, rfl, hb, cap * 2, _, Nat.mul_le_mul_right _ hn', hr, fun j hj => ?_⟩
    have hg := listCurve_get xs ys n j hj
    rw [← ht, List.getElem?_take, if_pos hj] at hg
    rw [show cur[j]?.getD undef = cur.toList[j]?.getD undef by simp, hg]
    unfold cellCurve ptF
    rfl

/-- A curve that is drawn. -/
def CurveOut (w : World) (L : Nat) (e : Ending) (w' : World) : Prop :=
  ∃ g n cap xs ys, e = .returned (.slice (some ⟨g, 0, none⟩) n cap) ∧ n ≤ 6 ∧ Crv n xs ys ∧ (∀ j, j < n → -20 ≤ xs j ∧ xs j ≤ 63) ∧ PtRow w' g n xs ys ∧ w.heap.size ≤ g ∧ Below L w w'

set_option maxRecDepth 100000 in
set_option maxHeartbeats 2000000 in
theorem l02Drawn_any (b : Nat) (A : Option Addr) (n cap : Nat) (bs : Nat → Int) (hn : n ≤ 1048576) (hbs : ∀ j, j < n → 0 ≤ bs j ∧ bs j ≤ 255) (w : World) (hS0 : SrcAt w b A n cap 0) (hB : BytesIn w A n bs) (hA : 0 < n → ∀ a, A = some a → a.block < b) :
    Calls Tryz.prog 29 #[.pointer (some ⟨b, 0, none⟩)] w (CurveOut w b) := by
  obtain ⟨i0, hi, hz0, hz1, hz2⟩ := info_parts infoCurve
  have hblt : b < w.heap.size := by obtain ⟨_, _, _, _, _, h⟩ := hS0.cells; exact h
  have hBB : ∀ W, Below b w W → BytesIn W A n bs := fun W h => by
    rcases hB with h0 | ⟨b', o, e, hlt, hc⟩
    · exact .inl h0
    · rcases Nat.eq_zero_or_pos n with h0 | h0
      · exact .inl h0
      have h1 : b' < b := hA h0 _ e
      exact .inr ⟨b', o, e, by have := h.size; omega, fun j hj => by rw [h.cell (p := ⟨b', o + j, none⟩) h1]; exact hc j hj⟩
  have hpk := fun (W : World) (m : Int) (p : Nat) (h0 : 0 ≤ m) (h1 : m ≤ 1000) (hp : p ≤ 1000) (hS : SrcAt W b A n cap p) (hb : Below b w W) =>
    srcPick_any b n cap p A bs m h0 (by omega) hn (by omega) hbs W hS (hBB W hb) hA
  have Hpk := Lib.hid hpk; clear hpk hbs hBB
  have k1 : Below b w (w.alloc (.cells #[] 90)) := (Below.refl _ _).alloc (by omega) _
  have s1 := hS0.below ((Below.refl w.heap.size w).alloc (Nat.le_refl _) (.cells #[] 90)) hblt
  have o1 := World.ownsRow_lit (base := w.heap.size) (e := 90) (size := 2) w #[] 0 (Nat.le_refl _) (Nat.zero_le _) rfl
  go_enter Tryz.func29, Tryz.ntmps29
  go_wp2_with fail
  refine (Hpk.out _ 30 0 (by omega) (by omega) (by omega) s1 k1).mono ?_; rintro e w2 ⟨f0, q1, rfl, hf0, _, hq1, s2, ho2⟩
  have k2 := k1.trans (ho2.below (by have := k1.size; omega))
  have o2 := own_only o1 ho2 (by omega)
  have hf0 := hf0.lt (by omega)
  have z2 : w.heap.size < w2.heap.size := by have := ho2.size; simp at this; omega
  clear ho2 o1 s1 k1
  go_wp2_with fail
  refine (Hpk.out _ 20 q1 (by omega) (by omega) (by omega) s2 k2).mono ?_; rintro e w3 ⟨y0, q2, rfl, hy0, _, hq2, s3, ho3⟩
  have k3 := k2.trans (ho3.below (by omega))
  have o3 := own_only o2 ho3 (by omega)
  have hy0 := hy0.lt (by omega)
  have z3 : w.heap.size < w3.heap.size := by have := ho3.size; omega
  clear ho3 o2 s2 k2
  go_wp2_with fail
  refine (Hpk.out _ 6 q2 (by omega) (by omega) (by omega) s3 k3).mono ?_; rintro e w4 ⟨K, q3, rfl, hK, _, hq3, s4, ho4⟩
  have k4 := k3.trans (ho4.below (by omega))
  have o4 := own_only o3 ho4 (by omega)
  have hK := hK.lt (by omega)
  have z4 : w.heap.size < w4.heap.size := by have := ho4.size; omega
  clear ho4 o3 s3 k3 z2 z3
  go_wp2_with fail
  go_loopw [3, 4, 5, 6] (fun v x y kk wr => ∃ (j : Nat) (xs ys : Nat → Int) (X Y : Int) (q : Nat), (j : Int) ≤ K + 1 ∧ kk = .int .i64 (K + 1 - j) ∧ x = .int .i64 X ∧ y = .int .i64 Y ∧ PreC j xs ys ∧ (0 < j → xs (j - 1) < X ∧ ys (j - 1) ≤ Y) ∧ (-20 ≤ X ∧ X ≤ 9 + 9 * j) ∧ (∀ i, i < j → -20 ≤ xs i ∧ xs i ≤ 63) ∧ (0 ≤ Y ∧ Y ≤ 19 + 49 * j) ∧ q ≤ 10 + 5 * j ∧ wr.ownsRow w.heap.size 90 2 v j (listCurve xs ys j) ∧ SrcAt wr b A n cap q ∧ Below b w wr ∧ w.heap.size < wr.heap.size) (fun _ _ _ kk _ => (intOf kk).toNat)
  case atStart => exact ⟨0, fun _ => 0, fun _ => 0, f0 - 20, y0, q3, by omega, congrArg (Value.int .i64) (by omega), rfl, rfl, PreC.zero _ _, fun h => by omega, ⟨by omega, by omega⟩, fun i hi => by omega, ⟨by omega, by omega⟩, by omega, o4, s4, k4, z4⟩
  case round =>
    obtain ⟨j, xs, ys, X, Y, q, hjK, rfl, rfl, rfl, hp, hup, hX, hxb, hY, hq, hown, hS, hBw, hz⟩ := hrel
    have Hp := Lib.hid hp; clear hp
    have Hup := Lib.hid hup; clear hup
    have Hxb := Lib.hid hxb; clear hxb
    by_cases hc : (0 : Int) < K + 1 - j
    · have hpt : ptOk X Y = true := ptOk_iff.2 ⟨by omega, by omega, by omega, by omega⟩
      obtain ⟨hp2, hl2⟩ := preC_more Hp.out hpt Hup.out
      have Hp2 := Lib.hid hp2; clear hp2
      have Hl2 := Lib.hid hl2; clear hl2 hpt
      have i1 : IntKind.i16.wrap X = X := IntWalk.i16_in _ (by omega)
      have i2 : IntKind.i16.wrap Y = Y := IntWalk.i16_in _ (by omega)
      go_wp2_with (at_builtin; refine wpList_append_own _ rfl _ _ 29 rfl w.heap.size 90 i0 (.agg #[.int .i16 0, .int .i16 0]) 2 4 Tryz.underlying29 hi hz0 hz1 hz2 rfl (by decide) _ _ _ rfl (hown.alloc _) ⟨wr.heap.size, 0, none⟩ 1 1 [.int .i16 X, .int .i16 Y] rfl rfl ?c1 ?c2 ?c3 ?c4 ?c5 ?_)
      case c1 =>
        intro j u hj
        match j, hj with
        | 0, hj => simp at hj; subst hj; simp [Addr.add, go_sem]
        | 1, hj => simp at hj; subst hj; simp [Addr.add, go_sem]
        | j + 2, hj => simp at hj
      case c2 => intro u hu; simp at hu; rcases hu with rfl | rfl <;> rfl
      case c3 => unfold maxLen; omega
      case c4 => omega
      case c5 => simp; omega
      intro v' w5 hown2 hg2 _
      have hkeep : Below w.heap.size wr w5 := (((Below.refl w.heap.size wr).alloc (by omega) _).grown hg2 (by simp; omega) (fun x hx => (hown.lt x hx).1))
      have hB5 := hBw.trans (hkeep.mono (by omega))
      have hS5 := hS.below hkeep (by omega)
      have hz5 : w.heap.size < w5.heap.size := by have := hkeep.size; omega
      have hown5 : w5.ownsRow w.heap.size 90 2 v' (j + 1) (listCurve (putAt xs j X) (putAt ys j Y) (j + 1)) := by rw [Hl2.out]; exact hown2
      clear hown hown2 hg2 hS hBw hkeep i1 i2
      go_wp2_with fail
      refine (Hpk.out _ 9 q (by omega) (by omega) (by omega) hS5 hB5).mono ?_; rintro e w6 ⟨r, q6, rfl, hr, _, hq6, s6, ho6⟩
      have hB6 := hB5.trans (ho6.below (by omega))
      have o6 := own_only hown5 ho6 (by omega)
      have hr := hr.lt (by omega)
      have hz6 : w.heap.size < w6.heap.size := by have := ho6.size; omega
      clear hown5 ho6 hB5 hS5
      go_wp2_with fail
      refine (Hpk.out _ 50 q6 (by omega) (by omega) (by omega) s6 hB6).mono ?_; rintro e w7 ⟨t, q7, rfl, ht, _, hq7, s7, ho7⟩
      have hB7 := hB6.trans (ho7.below (by omega))
      have o7 := own_only o6 ho7 (by omega)
      have ht := ht.lt (by omega)
      have hz7 : w.heap.size < w7.heap.size := by have := ho7.size; omega
      clear o6 ho7 hB6 s6
      go_wp2_with fail
      go_roundw
      case rel =>
        exact ⟨j + 1, putAt xs j X, putAt ys j Y, X + (1 + r), Y + t, q7, by omega, congrArg (Value.int .i64) (by omega), rfl, rfl, Hp2.out, fun _ => by rw [show j + 1 - 1 = j by omega, putAt_same, putAt_same]; omega, ⟨by omega, by omega⟩, fun i hi => by
          rcases Nat.lt_or_ge i j with h | h
          · rw [putAt_lt _ _ h]; exact Hxb.out i h
          · obtain rfl : i = j := by omega
            rw [putAt_same]; omega, ⟨by omega, by omega⟩, by omega, o7, s7, hB7, hz7⟩
      case measure => simp [intOf]; omega
    · have hj0 : 0 < j := by omega
      obtain ⟨g, cp, rfl, hg, hrow⟩ := own_pts hown hj0
      have hcv := Hp.out.crv hj0
      have Hcv := Lib.hid hcv; clear hcv
      clear hown
      go_wp2_with fail
      go_ret
      exact ⟨g, j, cp, xs, ys, rfl, by omega, Hcv.out, Hxb.out, hrow, hg, hBw⟩

end Go.Proofs.YtnlcjbobfhmnmabGreatDoor

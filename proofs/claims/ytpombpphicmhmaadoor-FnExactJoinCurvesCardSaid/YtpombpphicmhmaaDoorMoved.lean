/-
  A curve whose points are moved: plain arithmetic; what the reference returns, for every list of at most 1048576 points. No other condition.
-/
import Derived.Test.YtpombpphicmhmaaDoorOwnCurve
import Derived.Test.YtpombpphicmhmaaDoorValidC
import Derived.Test.YtpombpphicmhmaaDoorQuietTail
import Derived.Maps.AppendAt
import Derived.Deep.RegionHeld3
import Derived.Deep.AppendLies
namespace Go.Proofs.YtpombpphicmhmaaDoor
open Go.RowKit

theorem grown_of_belowM {a w : World} (h : Below a.heap.size a w) (row : Option Nat) : a.grownBy w row := ⟨h.os, h.tape, h.output, h.size, fun i hi _ => h.block i hi⟩
theorem own_belowM {w w' : World} {base size n : Nat} {e : TypeId} {v : Value} {xs : List Value} (h : w.ownsRow base e size v n xs) (hb : Below w.heap.size w w') : w'.ownsRow base e size v n xs :=
  h.kept (row := none) (grown_of_belowM hb _) (by cases v.ownBlock <;> simp)
theorem own_neM {w : World} {base size n b : Nat} {e : TypeId} {v : Value} {xs : List Value} (h : w.ownsRow base e size v n xs) (hb : b < base) : v.ownBlock ≠ some b := fun e => by
  have := (h.lt b e).1
  omega
theorem own_ptsM {w : World} {L n : Nat} {v : Value} {xs ys : Nat → Int} (h : w.ownsRow L 46 2 v n (listCurve xs ys n)) (hn : 0 < n) :
    ∃ g cap, v = .slice (some ⟨g, 0, none⟩) n cap ∧ L ≤ g ∧ PtRow w g n xs ys := by
  obtain ⟨hl, h⟩ := h
  rcases h with ⟨_, h0⟩ | ⟨b, cap, cur, rfl, hb, hh, hn', hm, hs, ht⟩
  · omega
  · have hr : w.rowIs b 46 (cap * 2) (fun j => cur[j]?.getD undef) := ⟨cur, hh, hs, fun i hi => by simp [hs, hi]⟩
    refine ⟨b, cap, rfl, hb, cap * 2, _, Nat.mul_le_mul_right _ hn', hr, fun j hj => ?_⟩
    have hg := listCurve_get xs ys n j hj
    rw [← ht, List.getElem?_take, if_pos hj] at hg
    rw [show cur[j]?.getD undef = cur.toList[j]?.getD undef by simp, hg]
    unfold cellCurve ptF
    rfl
theorem mine_no {w : World} {L U : Nat} {E : TypeId} {C : Int} {n : Nat} {A : Option Addr} {cap : Nat} {f : Nat → Value} (h : C ≠ 0) : Mine w L U E 2 (.slice A 0 cap) (if C = 0 then n else 0) f := by
  rw [if_neg h]; exact Mine.nil _ _ _ _ _ _ _ _

/-- The code of a curve whose points are moved: is it one, do the numbers fit, do its points stay on the scale? -/
def chC (n : Nat) (xs ys : Nat → Int) (fits : Bool) (F0 F1 : Nat → Int) : Int := if validC n xs ys = true then (if fits = true then (if scaleB F0 F1 n = true then 0 else 4) else 2) else 1
theorem ch_1 {n : Nat} {xs ys F0 F1 : Nat → Int} {fits : Bool} (h : validC n xs ys = false) : chC n xs ys fits F0 F1 = 1 := by simp [chC, h]
theorem ch_2 {n : Nat} {xs ys F0 F1 : Nat → Int} (h : validC n xs ys = true) : chC n xs ys false F0 F1 = 2 := by simp [chC, h]
theorem ch_4 {n : Nat} {xs ys F0 F1 : Nat → Int} (h : validC n xs ys = true) (h2 : scaleB F0 F1 n = false) : chC n xs ys true F0 F1 = 4 := by simp [chC, h, h2]
theorem ch_0 {n : Nat} {xs ys F0 F1 : Nat → Int} (h : validC n xs ys = true) (h2 : scaleB F0 F1 n = true) : chC n xs ys true F0 F1 = 0 := by simp [chC, h, h2]
theorem scale_no {n k : Nat} {F0 F1 : Nat → Int} (hk : k < n) (h : ptOk (F0 k) (F1 k) = false) : scaleB F0 F1 n = false := by
  rcases h2 : scaleB F0 F1 n with _ | _
  · rfl
  · rw [scaleB_iff.1 h2 k hk] at h; cases h
theorem scale_more {k : Nat} {F0 F1 : Nat → Int} (h : scaleB F0 F1 k = true) (h2 : ptOk (F0 k) (F1 k) = true) : scaleB F0 F1 (k + 1) = true := by simp [scaleB, h, h2]
theorem moved_valid {n : Nat} {xs ys : Nat → Int} (c : Crv n xs ys) (hn : n ≤ 12) (a u : Int) : validC n (fun i => xs i + a) (fun i => ys i + u) = scaleB (fun i => xs i + a) (fun i => ys i + u) n := by
  rcases h : scaleB (fun i => xs i + a) (fun i => ys i + u) n with _ | _
  · rcases h2 : validC n (fun i => xs i + a) (fun i => ys i + u) with _ | _
    · rfl
    · exfalso
      have hc := (validC_crv h2).1
      have := scaleB_iff.2 (fun j hj => ptOk_iff.2 (hc.scale j hj))
      rw [h] at this; cases this
  · refine Crv.valid ⟨c.pos, fun j hj => ptOk_iff.1 (scaleB_iff.1 h j hj), fun j hj => ?_⟩ hn
    have := c.rise j hj
    exact ⟨by show xs j + a < xs (j + 1) + a; omega, by show ys j + u ≤ ys (j + 1) + u; omega⟩

theorem ret_two {v : Value} {c d : Int} (h : c = d) : Ending.returned (.tuple #[v, .int .i64 c]) = Ending.returned (.tuple #[v, .int .i64 d]) := by rw [h]
/-- A new list of points with a code. -/
def CrvCode (C : Int) (F0 F1 : Nat → Int) (n : Nat) (w : World) (e : Ending) (w' : World) : Prop :=
  ∃ v, e = .returned (.tuple #[v, .int .i64 C]) ∧ Mine w' w.heap.size w'.heap.size 46 2 v (if C = 0 then n else 0) (cellCurve F0 F1) ∧ Below w.heap.size w w'

set_option maxRecDepth 100000 in
set_option maxHeartbeats 2000000 in
theorem l02Moved_any (b n cap : Nat) (xs ys : Nat → Int) (a u : Int) (hn : n ≤ 1048576) (hs : SmallP n xs ys) (w : World) (hr : PtRow w b n xs ys) :
    Calls Tryd.prog 50 #[.slice (some ⟨b, 0, none⟩) n cap, .int .i64 a, .int .i64 u] w (CrvCode (chC n xs ys (inB a (-400) 400 && inB u (-400) 400) (fun i => xs i + a) (fun i => ys i + u)) (fun i => xs i + a) (fun i => ys i + u) n w) := by
  have hk := l02Ok_any b n cap xs ys hn hs
  obtain ⟨i0, hi, hz0, hz1, hz2⟩ := info_parts infoCurve
  rcases h1 : validC n xs ys with _ | _
  · rw [ch_1 h1]
    rw [h1] at hk
    have Hk := Lib.hid hk; clear hk h1
    go_enter Tryd.func50, Tryd.ntmps50
    go_wp2_with fail
    refine (Hk.out _ hr).mono ?_; rintro e w1 ⟨rfl, hb1⟩
    go_wp2_with fail
    go_ret2
    exact ⟨_, rfl, mine_no (by decide), hb1.alloc hb1.size _⟩
  · rw [h1] at hk
    have Hk := Lib.hid hk; clear hk
    have hp := fun W => l00In_any a (-400) 400 W
    rcases ha : inB a (-400) 400 with _ | _
    · rw [Bool.false_and, ch_2 h1]
      rw [ha] at hp
      have Hp := Lib.hid hp; clear hp h1 ha
      go_enter Tryd.func50, Tryd.ntmps50
      go_wp2_with fail
      refine (Hk.out _ hr).mono ?_; rintro e w1 ⟨rfl, hb1⟩
      go_wp2_with fail
      refine (Hp.out _).mono ?_; rintro e w2 ⟨rfl, rfl⟩
      go_wp2_with fail
      go_ret2
      exact ⟨_, rfl, mine_no (by decide), hb1.alloc hb1.size _⟩
    rw [ha] at hp
    have Hp := Lib.hid hp; clear hp
    have hq := fun W => l00In_any u (-400) 400 W
    rcases hu : inB u (-400) 400 with _ | _
    · rw [Bool.and_false, ch_2 h1]
      rw [hu] at hq
      have Hq := Lib.hid hq; clear hq h1 hu ha
      go_enter Tryd.func50, Tryd.ntmps50
      go_wp2_with fail
      refine (Hk.out _ hr).mono ?_; rintro e w1 ⟨rfl, hb1⟩
      go_wp2_with fail
      refine (Hp.out _).mono ?_; rintro e w2 ⟨rfl, rfl⟩
      go_wp2_with fail
      refine (Hq.out _).mono ?_; rintro e w2 ⟨rfl, rfl⟩
      go_wp2_with fail
      go_ret2
      exact ⟨_, rfl, mine_no (by decide), hb1.alloc hb1.size _⟩
    rw [hu] at hq
    have Hq := Lib.hid hq; clear hq
    have ha' := inB_true.1 ha
    have hu' := inB_true.1 hu
    obtain ⟨a0, a1⟩ := ha'
    obtain ⟨u0, u1⟩ := hu'
    obtain ⟨c, hn12⟩ := validC_crv h1
    have hpos := c.pos
    have hmv := moved_valid c hn12 a u
    rw [Bool.true_and]
    have hC4 := fun h => ch_4 (F0 := fun i => xs i + a) (F1 := fun i => ys i + u) h1 h
    have hC0 := fun h => ch_0 (F0 := fun i => xs i + a) (F1 := fun i => ys i + u) h1 h
    have hsm : SmallP n (fun i => xs i + a) (fun i => ys i + u) := fun j hj => by
      have := c.scale j hj
      exact ⟨⟨by show _ ≤ xs j + a; omega, by show xs j + a ≤ _; omega⟩, by show _ ≤ ys j + u; omega, by show ys j + u ≤ _; omega⟩
    have hok := fun g cp W hW => l02Ok_any g n cp _ _ hn hsm W hW
    rw [hmv] at hok
    have hF0 : ∀ k, (fun i => xs i + a) k = xs k + a := fun _ => rfl
    have hF1 : ∀ k, (fun i => ys i + u) k = ys k + u := fun _ => rfl
    generalize (fun i => xs i + a) = F0 at *
    generalize (fun i => ys i + u) = F1 at *
    have HC4 := Lib.hid hC4; clear hC4
    have HC0 := Lib.hid hC0; clear hC0
    have Hok := Lib.hid hok; clear hok
    have HF0 := Lib.hid hF0; clear hF0
    have HF1 := Lib.hid hF1; clear hF1
    have Hc := Lib.hid c; clear c
    clear hmv hsm h1 ha hu
    go_enter Tryd.func50, Tryd.ntmps50
    go_wp2_with fail
    refine (Hk.out _ hr).mono ?_; rintro e w1 ⟨rfl, hb1⟩
    go_wp2_with fail
    refine (Hp.out _).mono ?_; rintro e w2 ⟨rfl, rfl⟩
    go_wp2_with fail
    refine (Hq.out _).mono ?_; rintro e w2 ⟨rfl, rfl⟩
    have hz1' := hb1.size
    have o1 := World.ownsRow_lit (base := w.heap.size) (e := 46) (size := 2) w1 #[] 0 hz1' (Nat.zero_le _) rfl
    have k1 := hb1.alloc hb1.size (.cells #[] 46)
    go_wp2_with fail
    go_loopw [8, 9] (fun v i wr => ∃ k : Nat, k ≤ n ∧ i = .int .i64 k ∧ wr.ownsRow w.heap.size 46 2 v k (listCurve F0 F1 k) ∧ Below w.heap.size w wr) (fun _ i _ => n - (intOf i).toNat)
    case atStart => exact ⟨0, Nat.zero_le _, rfl, o1, k1⟩
    case round =>
      obtain ⟨k, hk, rfl, hown, hB⟩ := hrel
      by_cases hkn : k < n
      · have hrk := hr.below hB hr.lt
        have c0 := hrk.cell0 hkn
        have c1 := hrk.cell1 hkn
        have hsc := Hc.out.scale k hkn
        have hl2 : listCurve F0 F1 (k + 1) = listCurve F0 F1 k ++ [.int .i16 (xs k + a), .int .i16 (ys k + u)] := by rw [← HF0.out k, ← HF1.out k]; rfl
        generalize xs k = X at *
        generalize ys k = Y at *
        have Hl2 := Lib.hid hl2; clear hl2
        have j0 : IntKind.i16.wrap a = a := IntWalk.i16_in _ (by omega)
        have j1 : IntKind.i16.wrap u = u := IntWalk.i16_in _ (by omega)
        have j2 : IntKind.i16.wrap (X + a) = X + a := IntWalk.i16_in _ (by omega)
        have j3 : IntKind.i16.wrap (Y + u) = Y + u := IntWalk.i16_in _ (by omega)
        have w3 : (k : Int) < n := by omega
        have hzr := hB.size
        have hrl := hrk.lt
        have ag := own_neM hown (show b < w.heap.size from hr.lt)
        have hmx : k + 1 ≤ maxLen := by unfold maxLen; omega
        have hbt : (k + 1) * 4 ≤ 140737488355328 := by omega
        clear o1 k1
        go_wp2_with fail
        go_region_held3 (fun w' => w'.cell? ⟨b, k * 2, none⟩ = some (.int .i16 X) ∧ w'.cell? ⟨b, k * 2 + 1, none⟩ = some (.int .i16 Y))
          (first
            | go_keep
            | (go_split_ands
               refine ⟨?_, ?_⟩
               · (rw [hgrow.cell_far _ (by simp; omega) (Ne.symm ag)]; assumption)
               · (rw [hgrow.cell_far _ (by simp; omega) (Ne.symm ag)]; assumption)))
          ((refine step_append_lies _ (by rfl) _ _ _ (by rfl) w.heap.size 46 i0 _ 2 4 Tryd.underlying27 hi hz0 hz1 hz2 rfl (by omega) _ k (listCurve F0 F1 k) (by rfl) ((hown.alloc _).drew)
              ⟨wr.heap.size, 0, none⟩ 1 1 [.int .i16 (X + a), .int .i16 (Y + u)] (by rfl) (by rfl) (World.news_of_block (cs := #[.int .i16 (X + a), .int .i16 (Y + u)]) (t := 46) (fr := (0, 0)) (heap_alloc_new wr _)) (by simp [Value.oneCell'])
              (by omega) hmx hbt (by simp; omega) (wr.heap.size + 1) (by simp) ?_; intro gg cq w5 hown2 hgrow hat hlt))
        have hB5 : Below w.heap.size w w5 := (hB.alloc hB.size _).drew.grown hgrow (by simp; omega) (fun x hx => (hown.lt x hx).1)
        have hown5 : w5.ownsRow w.heap.size 46 2 (.slice (some ⟨gg, 0, none⟩) (k + 1) cq) (k + 1) (listCurve F0 F1 (k + 1)) := by rw [Hl2.out]; exact hown2
        clear hown hown2 hgrow hB hrk hat
        go_wp2_with fail
        go_roundw
        case rel => exact ⟨k + 1, by omega, by go_num, hown5, hB5⟩
        case measure => simp [intOf]; omega
      · have e : k = n := by omega
        subst e
        obtain ⟨g, cp, rfl, hg, hrow⟩ := own_ptsM hown hpos
        have hrow2 := Hok.out g cp _ hrow
        clear o1 k1
        rcases hsc : scaleB F0 F1 k with _ | _
        · rw [hsc] at hrow2
          have HC := Lib.hid (HC4.out hsc)
          have Hrow := Lib.hid hrow2; clear hrow2
          go_wp2_with fail
          refine Hrow.out.mono ?_; rintro e w5 ⟨rfl, hb5⟩
          have k5 := hB.trans (hb5.mono hB.size)
          go_wp2_with fail
          go_ret2
          exact ⟨_, ret_two HC.out.symm, by rw [HC.out]; exact mine_no (by decide), k5.alloc k5.size _⟩
        · rw [hsc] at hrow2
          have HC := Lib.hid (HC0.out hsc)
          have Hrow := Lib.hid hrow2; clear hrow2
          go_wp2_with fail
          refine Hrow.out.mono ?_; rintro e w5 ⟨rfl, hb5⟩
          have k5 := hB.trans (hb5.mono hB.size)
          have o5 := own_belowM hown hb5
          go_wp2_with fail
          go_ret2
          exact ⟨_, ret_two HC.out.symm, by rw [HC.out, if_pos rfl]; exact Mine.of_listCurve o5, k5⟩

theorem zero_fits : inB 0 (-400) 400 = true := by decide
set_option maxHeartbeats 1000000 in
theorem specShiftCurve_any (b n cap : Nat) (xs ys : Nat → Int) (a : Int) (hn : n ≤ 1048576) (hs : SmallP n xs ys) (w : World) (hr : PtRow w b n xs ys) :
    Calls Tryd.prog 25 #[.slice (some ⟨b, 0, none⟩) n cap, .int .i64 a] w (CrvCode (chC n xs ys (inB a (-400) 400) (fun i => xs i + a) (fun i => ys i + 0)) (fun i => xs i + a) (fun i => ys i + 0) n w) := by
  have hk := l02Moved_any b n cap xs ys a 0 hn hs
  rw [zero_fits, Bool.and_true] at hk
  generalize chC n xs ys (inB a (-400) 400) (fun i => xs i + a) (fun i => ys i + 0) = C at hk ⊢
  generalize (fun i => xs i + a) = F0 at hk ⊢
  generalize (fun i => ys i + 0) = F1 at hk ⊢
  have Hk := Lib.hid hk; clear hk
  go_enter Tryd.func25, Tryd.ntmps25
  go_wp2_with fail
  refine (Hk.out _ hr).mono ?_; rintro e w1 ⟨v, rfl, hm, hb1⟩
  go_wp2_with fail
  go_ret2
  exact ⟨_, rfl, hm, hb1⟩
set_option maxHeartbeats 1000000 in
theorem specLiftCurve_any (b n cap : Nat) (xs ys : Nat → Int) (a : Int) (hn : n ≤ 1048576) (hs : SmallP n xs ys) (w : World) (hr : PtRow w b n xs ys) :
    Calls Tryd.prog 29 #[.slice (some ⟨b, 0, none⟩) n cap, .int .i64 a] w (CrvCode (chC n xs ys (inB a (-400) 400) (fun i => xs i + 0) (fun i => ys i + a)) (fun i => xs i + 0) (fun i => ys i + a) n w) := by
  have hk := l02Moved_any b n cap xs ys 0 a hn hs
  rw [zero_fits, Bool.true_and] at hk
  generalize chC n xs ys (inB a (-400) 400) (fun i => xs i + 0) (fun i => ys i + a) = C at hk ⊢
  generalize (fun i => xs i + 0) = F0 at hk ⊢
  generalize (fun i => ys i + a) = F1 at hk ⊢
  have Hk := Lib.hid hk; clear hk
  go_enter Tryd.func29, Tryd.ntmps29
  go_wp2_with fail
  refine (Hk.out _ hr).mono ?_; rintro e w1 ⟨v, rfl, hm, hb1⟩
  go_wp2_with fail
  go_ret2
  exact ⟨_, rfl, hm, hb1⟩
end Go.Proofs.YtpombpphicmhmaaDoor

/-
  The shutters that are corrected to one, by a table: what the program's and the reference's functions return, for every table of at most 1048576 entries. Condition of the program's: its variables hold their own errors.
-/
import Derived.Test.YtakmekidnfeciaaDoorExtra
import Derived.Test.YtakmekidnfeciaaDoorOwn
import Derived.Test.YtakmekidnfeciaaDoorInts
import Derived.Maps.AppendAt
namespace Go.Proofs.YtakmekidnfeciaaDoor
open Go.RowKit

theorem grown_of_below {a w : World} (h : Below a.heap.size a w) (row : Option Nat) : a.grownBy w row := ⟨h.os, h.tape, h.output, h.size, fun i hi _ => h.block i hi⟩
theorem own_below {w w' : World} {base size n : Nat} {e : TypeId} {v : Value} {xs : List Value} (h : w.ownsRow base e size v n xs) (hb : Below w.heap.size w w') : w'.ownsRow base e size v n xs :=
  h.kept (row := none) (grown_of_below hb _) (by cases v.ownBlock <;> simp)

/-- The first k shutters that are corrected to this one. -/
def metL (fs es : Nat → Int) (n : Nat) (sh : Int) : Nat → List Int
  | 0 => []
  | k + 1 => metL fs es n sh k ++ if (k : Int) + exA fs es k n = sh then [(k : Int)] else []
theorem metL_yes {fs es : Nat → Int} {n k : Nat} {sh : Int} (h : (k : Int) + exA fs es k n = sh) : metL fs es n sh (k + 1) = metL fs es n sh k ++ [(k : Int)] := by simp [metL, h]
theorem metL_no {fs es : Nat → Int} {n k : Nat} {sh : Int} (h : ¬ (k : Int) + exA fs es k n = sh) : metL fs es n sh (k + 1) = metL fs es n sh k := by simp [metL, h]
theorem metL_le (fs es : Nat → Int) (n : Nat) (sh : Int) : ∀ k, (metL fs es n sh k).length ≤ k
  | 0 => Nat.le_refl _
  | k + 1 => by
    have := metL_le fs es n sh k
    by_cases h : (k : Int) + exA fs es k n = sh
    · rw [metL_yes h]; simp; omega
    · rw [metL_no h]; omega
theorem metL_stop {fs es : Nat → Int} {n : Nat} {sh : Int} (ht : tabOk fs es n = true) (m : Nat) (hm : sh < m) : ∀ d, metL fs es n sh (m + d) = metL fs es n sh m
  | 0 => rfl
  | d + 1 => by
    have h := exA_bd ((m + d : Nat) : Int) ht n (Nat.le_refl _)
    rw [show m + (d + 1) = (m + d) + 1 from rfl, metL_no (by omega), metL_stop ht m hm d]
/-- What comes back: a list in memory of the call's own, and a code. -/
def MadeL (l : List Int) (c : Int) (w : World) (e : Ending) (w' : World) : Prop :=
  ∃ v, e = .returned (.tuple #[v, .int .i64 c]) ∧ Mine w' w.heap.size w'.heap.size 2 1 v l.length (fun j => .int .i64 (l.getD j 0)) ∧ Below w.heap.size w w'
def metR (n : Nat) (fs es : Nat → Int) (sh : Int) : List Int := if validT n fs es = true then (if inB sh 0 45 = true then metL fs es n sh 46 else []) else []
theorem met_bad {n : Nat} {fs es : Nat → Int} {sh : Int} (h : validT n fs es = false) : metR n fs es sh = [] := by simp [metR, h]
theorem met_far {n : Nat} {fs es : Nat → Int} {sh : Int} (h : validT n fs es = true) (h2 : inB sh 0 45 = false) : metR n fs es sh = [] := by simp [metR, h, h2]
theorem met_yes {n : Nat} {fs es : Nat → Int} {sh : Int} (h : validT n fs es = true) (h2 : inB sh 0 45 = true) : metR n fs es sh = metL fs es n sh 46 := by simp [metR, h, h2]
theorem metR_le (n : Nat) (fs es : Nat → Int) (sh : Int) : (metR n fs es sh).length ≤ 46 := by
  unfold metR
  split
  · split
    · exact metL_le _ _ _ _ _
    · simp
  · simp

set_option maxRecDepth 100000 in
set_option maxHeartbeats 1000000 in
theorem specMeteredFor_any (b n cap : Nat) (fs es : Nat → Int) (sh : Int) (hn : n ≤ 1048576) (hs : Small n fs es) (w : World) (hr : LongRow w b n fs es) :
    Calls Tryd.prog 14 #[.slice (some ⟨b, 0, none⟩) n cap, .int .i64 sh] w (MadeL (metR n fs es sh) (extC n fs es sh) w) := by
  obtain ⟨i0, hi, hz0, hz1, hz2⟩ := info_parts i64Info
  have hm := l01Metered_any b n cap fs es sh hn hs
  rcases h1 : validT n fs es with _ | _
  · rw [(ext_bad h1).1] at hm ⊢
    rw [met_bad h1]
    have Hm := Lib.hid hm; clear hm
    go_enter Tryd.func14, Tryd.ntmps14
    go_wp2_with fail
    refine (Hm.out _ hr).mono ?_; rintro e w1 ⟨rfl, rfl⟩
    go_wp2_with fail
    go_ret2
    exact ⟨_, rfl, .nil _ _ _ _ _ _ _ _, (Below.refl _ _).alloc (Nat.le_refl _) _⟩
  · rcases h2 : inB sh 0 45 with _ | _
    · rw [(ext_far h1 h2).1] at hm ⊢
      rw [met_far h1 h2]
      have Hm := Lib.hid hm; clear hm
      go_enter Tryd.func14, Tryd.ntmps14
      go_wp2_with fail
      refine (Hm.out _ hr).mono ?_; rintro e w1 ⟨rfl, rfl⟩
      go_wp2_with fail
      go_ret2
      exact ⟨_, rfl, .nil _ _ _ _ _ _ _ _, (Below.refl _ _).alloc (Nat.le_refl _) _⟩
    · rw [(ext_yes h1 h2).1] at hm ⊢
      rw [met_yes h1 h2]
      have Hm := Lib.hid hm; clear hm
      have ht := validT_tab h1
      have hlt := hr.lt
      go_enter Tryd.func14, Tryd.ntmps14
      go_wp2_with fail
      refine (Hm.out _ hr).mono ?_; rintro e w1 ⟨rfl, rfl⟩
      go_wp2_with fail
      go_loopw [7, 8] (fun v i wr => ∃ k : Nat, k ≤ 46 ∧ i = .int .i64 k ∧ wr.ownsRow w.heap.size 2 1 v (metL fs es n sh k).length ((metL fs es n sh k).map (Value.int .i64)) ∧ Below w.heap.size w wr) (fun _ i _ => 46 - (intOf i).toNat)
      case atStart => exact ⟨0, Nat.zero_le _, rfl, World.ownsRow_lit w #[] 0 (Nat.le_refl _) (Nat.zero_le _) rfl, (Below.refl _ _).alloc (Nat.le_refl _) _⟩
      case round =>
        obtain ⟨k, hk, rfl, hown, hB⟩ := hrel
        have hle := metL_le fs es n sh k
        have hsz := hB.size
        by_cases hkn : k < 46
        · have hx := l01Extra_any b n cap fs es k hn hs wr (hr.below hB hlt)
          have hbd := exA_bd (k : Int) ht n (Nat.le_refl _)
          by_cases hq : (k : Int) + exA fs es k n = sh
          · have hL := metL_yes hq
            generalize exA fs es k n = X at hx hbd hq
            have HL := Lib.hid hL; clear hL
            have Hx := Lib.hid hx; clear hx
            have hqb : (((k : Int) + X) == sh) = true := by simpa using hq
            have Hq := Lib.hid hq; clear hq
            go_wp2_with fail
            refine Hx.out.mono ?_; rintro e w2 ⟨rfl, rfl⟩
            go_wp2_with (at_builtin; refine wpList_append_own _ rfl _ _ 24 rfl w.heap.size 2 i0 (.int .i64 0) 1 8 Tryd.underlying24 hi hz0 hz1 hz2 rfl (by decide) _ _ _ rfl (hown.alloc _) ⟨wr.heap.size, 0, none⟩ 1 1 [.int .i64 k] rfl rfl ?c1 ?c2 ?c3 ?c4 ?c5 ?_)
            case c1 =>
              intro j u hj
              match j, hj with
              | 0, hj => simp at hj; subst hj; simp [Addr.add, go_sem]
            case c2 => intro u hu; simp at hu; subst hu; rfl
            case c3 => unfold maxLen; omega
            case c4 => omega
            case c5 => simp; omega
            intro v' w2 hown2 hg2 _
            have hB2 : Below w.heap.size w w2 := (hB.alloc hsz _).grown hg2 (by simp; omega) (fun j hj => (hown.lt j hj).1)
            have hown3 : w2.ownsRow w.heap.size 2 1 v' (metL fs es n sh (k + 1)).length ((metL fs es n sh (k + 1)).map (Value.int .i64)) := by
              rw [HL.out]; simpa using hown2
            clear hown hown2 hg2 hB
            go_wp2
            go_roundw
            case rel => exact ⟨k + 1, by omega, by go_num, hown3, hB2⟩
            case measure => simp [intOf]; omega
          · have hL := metL_no hq
            generalize exA fs es k n = X at hx hbd hq
            have HL := Lib.hid hL; clear hL
            have Hx := Lib.hid hx; clear hx
            have hqb : (((k : Int) + X) == sh) = false := by simpa using hq
            go_wp2_with fail
            refine Hx.out.mono ?_; rintro e w2 ⟨rfl, rfl⟩
            go_wp2_with fail
            go_roundw
            case rel => exact ⟨k + 1, by omega, by go_num, by rw [HL.out]; exact hown, hB⟩
            case measure => simp [intOf]; omega
        · have e : k = 46 := by omega
          subst e
          go_wp2
          go_ret2
          exact ⟨_, rfl, (Mine.of_ints hown), hB⟩

theorem codedInts_any {s : Ers} {v : Value} {c : Int} (h : IsCode s v c) (x : Value) (w : World) (hE : ErrEnv s w) :
    Calls Tryd.prog 56 #[x, v] w fun e w' => e = .returned (.tuple #[x, .int .i64 c]) ∧ w = w' := by
  go_enter Tryd.func56, Tryd.ntmps56
  go_wp2_with fail
  refine (codeOf_any h _ hE).mono ?_; rintro e w1 ⟨rfl, rfl⟩
  go_wp2_with fail
  go_ret2
  exact ⟨rfl, rfl⟩

/-- What comes back inside of the program: a list in memory of the call's own, and an error that stands for a code. -/
def MadeE (s : Ers) (l : List Int) (c : Int) (w : World) (e : Ending) (w' : World) : Prop :=
  ∃ v x, IsCode s x c ∧ e = .returned (.tuple #[v, x]) ∧ Mine w' w.heap.size w'.heap.size 2 1 v l.length (fun j => .int .i64 (l.getD j 0)) ∧ Below w.heap.size w w'

set_option maxRecDepth 100000 in
set_option maxHeartbeats 1000000 in
theorem meteredFor_any (s : Ers) (b n cap : Nat) (fs es : Nat → Int) (sh : Int) (hn : n ≤ 1048576) (hs : Small n fs es) (w : World) (hr : LongRow w b n fs es) (hE : ErrEnv s w) :
    Calls Tryd.prog 57 #[.slice (some ⟨b, 0, none⟩) n cap, .int .i64 sh] w (MadeE s (metR n fs es sh) (extC n fs es sh) w) := by
  obtain ⟨i0, hi, hz0, hz1, hz2⟩ := info_parts i64Info
  rcases h1 : validT n fs es with _ | _
  · rw [(ext_bad h1).1, met_bad h1]
    go_enter Tryd.func57, Tryd.ntmps57
    go_wp2_with fail
    refine (ValidTable_any _ _ _ fs es hn hs _ hr).mono ?_; rintro e w1 ⟨rfl, hb1⟩
    have ce := (hE.below hb1 (Nat.le_refl _)).c_einvalid
    go_wp2_with fail
    go_quiet (fail)
    go_wp2
    go_ret2
    exact ⟨_, _, .einvalid, rfl, .nil _ _ _ _ _ _ _ _, below_drewL hb1 _⟩
  · rcases h2 : inB sh 0 45 with _ | _
    · rw [(ext_far h1 h2).1, met_far h1 h2]
      go_enter Tryd.func57, Tryd.ntmps57
      go_wp2_with fail
      refine (ValidTable_any _ _ _ fs es hn hs _ hr).mono ?_; rintro e w1 ⟨rfl, hb1⟩
      have ce := (hE.below hb1 (Nat.le_refl _)).c_erange
      go_wp2_with fail
      refine (inRange_any _ _ _ _).mono ?_; rintro e w2 ⟨rfl, rfl⟩
      go_wp2_with fail
      go_quiet (fail)
      go_wp2
      go_ret2
      exact ⟨_, _, .erange, rfl, .nil _ _ _ _ _ _ _ _, below_drewL hb1 _⟩
    · rw [(ext_yes h1 h2).1, met_yes h1 h2]
      have ht := validT_tab h1
      have hlt := hr.lt
      have hsb := inB_true.1 h2
      obtain ⟨q, rfl⟩ := Int.eq_ofNat_of_zero_le hsb.1
      have hst := metL_stop (sh := (q : Int)) ht (q + 1) (by omega) (45 - q)
      rw [show q + 1 + (45 - q) = 46 by omega] at hst
      rw [hst]; clear hst
      have Ht := Lib.hid ht; clear ht
      go_enter Tryd.func57, Tryd.ntmps57
      go_wp2_with fail
      refine (ValidTable_any _ _ _ fs es hn hs _ hr).mono ?_; rintro e w1 ⟨rfl, hb1⟩
      have hs1 := hb1.size
      go_wp2_with fail
      refine (inRange_any _ _ _ _).mono ?_; rintro e w2 ⟨rfl, rfl⟩
      go_wp2_with fail
      go_loopw [6, 7] (fun v i wr => ∃ k : Nat, k ≤ q + 1 ∧ i = .int .i64 k ∧ wr.ownsRow w.heap.size 2 1 v (metL fs es n q k).length ((metL fs es n q k).map (Value.int .i64)) ∧ Below w.heap.size w wr) (fun _ i _ => q + 1 - (intOf i).toNat)
      case atStart => exact ⟨0, Nat.zero_le _, rfl, World.ownsRow_lit w1 #[] 0 hs1 (Nat.zero_le _) rfl, hb1.alloc hs1 _⟩
      case round =>
        obtain ⟨k, hk, rfl, hown, hB⟩ := hrel
        have hle := metL_le fs es n q k
        have hsz := hB.size
        by_cases hkn : k ≤ q
        · have hx := extraAt_any b n cap fs es k hn hs Ht.out wr (hr.below hB hlt)
          have hbd := exA_bd (k : Int) Ht.out n (Nat.le_refl _)
          by_cases hq : (k : Int) + exA fs es k n = q
          · have hL := metL_yes hq
            generalize exA fs es k n = X at hx hbd hq
            have HL := Lib.hid hL; clear hL
            have Hx := Lib.hid hx; clear hx
            have hqb : (((k : Int) + X) == (q : Int)) = true := by simpa using hq
            have Hq := Lib.hid hq; clear hq
            go_wp2_with fail
            refine Hx.out.mono ?_; rintro e w2 ⟨rfl, hb2⟩
            have hown1 := own_below hown hb2
            have hB1 := hB.trans (hb2.mono hsz)
            have hsz1 := hB1.size
            clear hown hB hb2
            go_wp2_with (at_builtin; refine wpList_append_own _ rfl _ _ 24 rfl w.heap.size 2 i0 (.int .i64 0) 1 8 Tryd.underlying24 hi hz0 hz1 hz2 rfl (by decide) _ _ _ rfl (hown1.alloc _) ⟨w2.heap.size, 0, none⟩ 1 1 [.int .i64 k] rfl rfl ?c1 ?c2 ?c3 ?c4 ?c5 ?_)
            case c1 =>
              intro j u hj
              match j, hj with
              | 0, hj => simp at hj; subst hj; simp [Addr.add, go_sem]
            case c2 => intro u hu; simp at hu; subst hu; rfl
            case c3 => unfold maxLen; omega
            case c4 => omega
            case c5 => simp; omega
            intro v' w3 hown2 hg2 _
            have hB2 : Below w.heap.size w w3 := (hB1.alloc hsz1 _).grown hg2 (by simp; omega) (fun j hj => (hown1.lt j hj).1)
            have hown3 : w3.ownsRow w.heap.size 2 1 v' (metL fs es n q (k + 1)).length ((metL fs es n q (k + 1)).map (Value.int .i64)) := by
              rw [HL.out]; simpa using hown2
            clear hown1 hown2 hg2 hB1
            go_wp2
            go_roundw
            case rel => exact ⟨k + 1, by omega, by go_num, hown3, hB2⟩
            case measure => simp [intOf]; omega
          · have hL := metL_no hq
            generalize exA fs es k n = X at hx hbd hq
            have HL := Lib.hid hL; clear hL
            have Hx := Lib.hid hx; clear hx
            have hqb : (((k : Int) + X) == (q : Int)) = false := by simpa using hq
            go_wp2_with fail
            refine Hx.out.mono ?_; rintro e w2 ⟨rfl, hb2⟩
            have hown1 := own_below hown hb2
            have hB1 := hB.trans (hb2.mono hsz)
            clear hown hB hb2
            go_wp2_with fail
            go_roundw
            case rel => exact ⟨k + 1, by omega, by go_num, by rw [HL.out]; exact hown1, hB1⟩
            case measure => simp [intOf]; omega
        · have e : k = q + 1 := by omega
          subst e
          go_wp2
          go_ret2
          exact ⟨_, _, .ok, rfl, (Mine.of_ints hown), hB⟩

set_option maxHeartbeats 1000000 in
theorem MeteredFor_any (s : Ers) (b n cap : Nat) (fs es : Nat → Int) (sh : Int) (hn : n ≤ 1048576) (hs : Small n fs es) (w : World) (hr : LongRow w b n fs es) (hE : ErrEnv s w) :
    Calls Tryd.prog 16 #[.slice (some ⟨b, 0, none⟩) n cap, .int .i64 sh] w (MadeL (metR n fs es sh) (extC n fs es sh) w) := by
  go_enter Tryd.func16, Tryd.ntmps16
  go_wp2_with fail
  refine (meteredFor_any s _ _ _ fs es sh hn hs _ hr hE).mono ?_; rintro e w1 ⟨v, x, hv, rfl, hm, hb1⟩
  go_wp2_with fail
  refine (codedInts_any hv _ _ (hE.below hb1 (Nat.le_refl _))).mono ?_; rintro e w2 ⟨rfl, rfl⟩
  go_wp2_with fail
  go_ret2
  exact ⟨_, rfl, hm, hb1⟩
end Go.Proofs.YtakmekidnfeciaaDoor

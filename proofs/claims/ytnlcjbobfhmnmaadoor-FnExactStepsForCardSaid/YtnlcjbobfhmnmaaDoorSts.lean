/-
  The laws' own copying and comparing of lists of steps. Condition: at most 1048576 entries.
-/
import Derived.Test.YtnlcjbobfhmnmaaDoorBase
import Derived.Deep.OwnRows
import Derived.Deep.Slices
import Derived.Deep.Fields
import Derived.ProofKit
import Derived.OpenShut
import Derived.Deep.RegionWith
namespace Go.Proofs.YtnlcjbobfhmnmaaDoor
open Go.RowKit Go.ChangeShapes Go.WideShapes Go.Deep

theorem below_drewSt {B : Nat} {a w : World} (h : Below B a w) (n : Nat) : Below B a (w.drewN n) := ⟨h.os, h.tape, h.output, h.size, h.block⟩
theorem rowIs_belowSt {w w' : World} {b : Nat} {t : TypeId} {n : Nat} {f : Nat → Value} {B : Nat} (h : w.rowIs b t n f) (hb : Below B w w') (hB : b < B) : w'.rowIs b t n f := h.of_block (hb.block b hB)
theorem row_stepSt {w : World} {b : Nat} {t : TypeId} {n k : Nat} {f g : Nat → Value} (h : w.rowIs b t n (fun j => if j < k then f j else g j)) :
    (w.setCell ⟨b, k, none⟩ (f k)).rowIs b t n (fun j => if j < k + 1 then f j else g j) :=
  (h.set k (f k)).congr (fun j _ => by
    by_cases h1 : j = k
    · subst h1; simp
    · by_cases h2 : j < k
      · have h3 : j < k + 1 := by omega
        simp [h1, h2, h3]
      · have h3 : ¬ j < k + 1 := by omega
        simp [h1, h2, h3])

/-- The cells of a list of steps. -/
def stF (fs es : Nat → Int) (j : Nat) : Value := if j % 2 = 0 then .int .u64 (fs (j / 2)) else .int .i8 (es (j / 2))
theorem stF0 (fs es : Nat → Int) (k : Nat) : stF fs es (k * 2) = .int .u64 (fs k) := by
  unfold stF
  rw [if_pos (by omega), show k * 2 / 2 = k by omega]
theorem stF1 (fs es : Nat → Int) (k : Nat) : stF fs es (k * 2 + 1) = .int .i8 (es k) := by
  unfold stF
  rw [if_neg (by omega), show (k * 2 + 1) / 2 = k by omega]
/-- Block b begins with these n steps. -/
def StRow (w : World) (b n : Nat) (fs es : Nat → Int) : Prop := ∃ m h, n * 2 ≤ m ∧ w.rowIs b 60 m h ∧ ∀ j, j < n * 2 → h j = stF fs es j
theorem StRow.cell0 {w : World} {b n : Nat} {fs es : Nat → Int} (h : StRow w b n fs es) {k : Nat} (hk : k < n) : w.cell? ⟨b, k * 2, none⟩ = some (.int .u64 (fs k)) := by
  obtain ⟨m, f, hm, hr, he⟩ := h
  rw [hr.cell (by omega), he _ (by omega), stF0]
theorem StRow.cell1 {w : World} {b n : Nat} {fs es : Nat → Int} (h : StRow w b n fs es) {k : Nat} (hk : k < n) : w.cell? ⟨b, k * 2 + 1, none⟩ = some (.int .i8 (es k)) := by
  obtain ⟨m, f, hm, hr, he⟩ := h
  rw [hr.cell (by omega), he _ (by omega), stF1]
theorem StRow.below {w w' : World} {b n : Nat} {fs es : Nat → Int} {B : Nat} (h : StRow w b n fs es) (hb : Below B w w') (hB : b < B) : StRow w' b n fs es := by
  obtain ⟨m, f, hm, hr, he⟩ := h
  exact ⟨m, f, hm, rowIs_belowSt hr hb hB, he⟩
theorem StRow.lt {w : World} {b n : Nat} {fs es : Nat → Int} (h : StRow w b n fs es) : b < w.heap.size := by
  obtain ⟨_, _, _, hr, _⟩ := h
  exact hr.lt

/-- The numbers of a list of steps are small. -/
def SmallS (n : Nat) (fs es : Nat → Int) : Prop := ∀ j, j < n → (0 ≤ fs j ∧ fs j ≤ 18446744073709551615) ∧ -128 ≤ es j ∧ es j ≤ 127

/-- A list of steps as it came: nil or not. -/
def StsIn (w : World) (A : Option Addr) (n : Nat) (fs es : Nat → Int) : Prop :=
  n = 0 ∨ ∃ b o, A = some ⟨b, o, none⟩ ∧ b < w.heap.size ∧ ∀ j, j < n → w.cell? ⟨b, o + j * 2, none⟩ = some (.int .u64 (fs j)) ∧ w.cell? ⟨b, o + j * 2 + 1, none⟩ = some (.int .i8 (es j))
theorem StsIn.below {w w' : World} {A : Option Addr} {n : Nat} {fs es : Nat → Int} {B : Nat} (h : StsIn w A n fs es) (hb : Below B w w') (hB : w.heap.size ≤ B) : StsIn w' A n fs es := by
  rcases h with h | ⟨b, o, e, hlt, hc⟩
  · exact .inl h
  · exact .inr ⟨b, o, e, by have := hb.size; omega, fun j hj => by
      rw [hb.cell (p := ⟨b, o + j * 2, none⟩) (by show b < B; omega), hb.cell (p := ⟨b, o + j * 2 + 1, none⟩) (by show b < B; omega)]; exact hc j hj⟩

theorem stInfo : (Tryd.prog.info? 60).map (fun i => (i.zero, i.size, i.bytes)) = some (some (.agg #[.int .u64 0, .int .i8 0]), 2, 16) := by kernel_rfl
theorem stMade (w : World) (n : Nat) (t : TypeId) : (w.alloc (.cells (madeCells #[.int .u64 0, .int .i8 0] (n * 2)) t)).rowIs w.heap.size t (n * 2) (stF (fun _ => 0) (fun _ => 0)) := by
  have h := World.rowIs_alloc w (madeCells #[.int .u64 0, .int .i8 0] (n * 2)) t (stF (fun _ => 0) (fun _ => 0)) (fun i hi => by
    rw [size_madeCells] at hi
    have h2 : i % 2 = 0 ∨ i % 2 = 1 := by omega
    rcases h2 with h2 | h2 <;> simp [madeCells, hi, h2, stF])
  rw [size_madeCells] at h
  exact h
theorem run_make_rowSt {P : Program} (t e : TypeId) (i : TypeInfo) (z : Value) (ht : P.underlying t = some (.slice e)) (hi : P.info? e = some i) (hz : i.zero = some z)
    (kl kc : IntKind) (n c : Nat) (hnc : n ≤ c) (hbytes : i.bytes * c ≤ 281474976710656) (h63 : c ≤ 9223372036854775807) (w : World) :
    (Instr.makeSlice t (.int kl (n : Int)) (.int kc (c : Int))).run P w = .ok (.slice (some ⟨w.heap.size, 0, none⟩) n c) (w.alloc (.cells (madeCells z.cells (c * i.size)) e)) := by
  have hb : (i.bytes : Int) * (c : Int) ≤ 281474976710656 := by
    have h : ((i.bytes * c : Nat) : Int) ≤ 281474976710656 := by omega
    rwa [Int.natCast_mul] at h
  have hr := run_make (P := P) w t e i z ht hi hz kl kc n c (by omega) (by omega) hb (by omega)
  simp only [Int.toNat_natCast] at hr
  exact hr

set_option maxHeartbeats 400000 in
theorem toStep_any (f e0 : Int) (w : World) :
    Calls Tryd.prog 26 #[.agg #[.int .u64 f, .int .i8 e0]] w fun e w' => e = .returned (.agg #[.int .u64 f, .int .i8 e0]) ∧ Below w.heap.size w w' := by
  go_enter Tryd.func26, Tryd.ntmps26
  go_wp2
  refine bodyPost_ret (v := .agg #[.int .u64 f, .int .i8 e0]) (by simp [results, Tryd.results26, go_sem]) rfl ⟨rfl, ?_⟩
  repeat (first | exact Below.refl _ _ | assumption | apply Below.drew | apply below_drewSt | (refine Below.alloc ?_ (by first | omega | (simp; done) | (simp; omega)) _) | (refine Below.setCell ?_ (by first | omega | (simp; done) | (simp; omega)) _))

set_option maxHeartbeats 1000000 in
theorem toStepS_any (A : Option Addr) (n cap : Nat) (fs es : Nat → Int) (hn : n ≤ 1048576) (w : World) (hr : StsIn w A n fs es) :
    Calls Tryd.prog 10 #[.slice A n cap] w fun e w' => e = .returned (.slice (some ⟨w.heap.size, 0, none⟩) n n) ∧ StRow w' w.heap.size n fs es ∧ Below w.heap.size w w' := by
  obtain ⟨i0, hi, hz0, hz1, hz2⟩ := info_parts stInfo
  have hmk := fun W => run_make_rowSt (P := Tryd.prog) 36 60 i0 _ Tryd.underlying36 hi hz0 .i64 .i64 n n (Nat.le_refl _) (by rw [hz2]; omega) (by omega) W
  rw [hz1] at hmk
  simp only [Value.cells] at hmk
  have hrow := stMade w n 60
  have hB0 : Below w.heap.size w (w.alloc (.cells (madeCells #[.int .u64 0, .int .i8 0] (n * 2)) 60)) := (Below.refl _ _).alloc (Nat.le_refl _) _
  have hs0 : w.heap.size < (w.alloc (.cells (madeCells #[.int .u64 0, .int .i8 0] (n * 2)) 60)).heap.size := by simp
  rcases hr with h0 | ⟨b, o, rfl, hlt, hc⟩
  rotate_left
  have H0 : Hid (n = 0 ∨ 0 < n) := by show n = 0 ∨ 0 < n; omega
  rotate_left
  have H0 := Lib.hid h0; clear h0
  all_goals
    go_enter Tryd.func10, Tryd.ntmps10
    go_wp2
    go_loopw [4] (fun i wr => ∃ k : Nat, k ≤ n ∧ i = .int .i64 k ∧ wr.rowIs w.heap.size 60 (n * 2) (fun j => if j < k * 2 then stF fs es j else stF (fun _ => 0) (fun _ => 0) j) ∧ Below w.heap.size w wr ∧ w.heap.size < wr.heap.size) (fun i _ => n - (intOf i).toNat)
    case atStart => exact ⟨0, Nat.zero_le _, rfl, hrow.congr (fun j _ => by simp), hB0, hs0⟩
    case round =>
      obtain ⟨k, hk, rfl, hR, hB, hs⟩ := hrel
      by_cases hkn : k < n
      · first
        | (exfalso; have h0 : n = 0 := H0.out; omega)
        | (obtain ⟨c0, c1⟩ := hc k hkn
           have c0 : wr.cell? ⟨b, o + k * 2, none⟩ = some (.int .u64 (fs k)) := by rw [hB.cell (p := ⟨b, o + k * 2, none⟩) hlt]; exact c0
           have c1 : wr.cell? ⟨b, o + k * 2 + 1, none⟩ = some (.int .i8 (es k)) := by rw [hB.cell (p := ⟨b, o + k * 2 + 1, none⟩) hlt]; exact c1
           go_wp2_with fail
           refine (toStep_any _ _ _).mono ?_; rintro e w2 ⟨rfl, hb2⟩
           have hR2 := rowIs_belowSt hR hb2 hs
           have d0 := hR2.cell (i := k * 2) (by omega)
           have d1 := hR2.cell (i := k * 2 + 1) (by omega)
           have g0 := hR2.frozen (k * 2)
           have g1 := hR2.frozen (k * 2 + 1)
           rw [if_neg (by omega), stF0] at d0
           rw [if_neg (by omega), stF1] at d1
           have hB2 := hB.trans (hb2.mono hB.size)
           have hs2 := Nat.lt_of_lt_of_le hs hb2.size
           have hst : ((w2.setCell ⟨w.heap.size, k * 2, none⟩ (.int .u64 (fs k))).setCell ⟨w.heap.size, k * 2 + 1, none⟩ (.int .i8 (es k))).rowIs w.heap.size 60 (n * 2) (fun j => if j < (k + 1) * 2 then stF fs es j else stF (fun _ => 0) (fun _ => 0) j) := by
             have h1 := row_stepSt hR2
             rw [stF0] at h1
             have h2 := row_stepSt h1
             rw [stF1] at h2
             rw [show (k + 1) * 2 = k * 2 + 1 + 1 by omega]; exact h2
           go_wp2_with fail
           go_roundw
           case rel => exact ⟨k + 1, by omega, by go_num, hst, (hB2.setCell (Nat.le_refl _) _).setCell (Nat.le_refl _) _, by simp; exact hs2⟩
           case measure => simp [intOf]; omega)
      · go_wp2
        go_ret
        have e : k = n := by omega
        subst e
        exact ⟨rfl, ⟨_, _, Nat.le_refl _, hR, fun j hj => if_pos hj⟩, hB⟩

set_option maxHeartbeats 400000 in
theorem eqStep_same (f e0 : Int) (w : World) :
    Calls Tryd.prog 30 #[.agg #[.int .u64 f, .int .i8 e0], .agg #[.int .u64 f, .int .i8 e0]] w fun e w' => e = .returned (.bool true) ∧ Below w.heap.size w w' := by
  go_enter Tryd.func30, Tryd.ntmps30
  go_wp2
  go_ret
  refine ⟨rfl, ?_⟩
  repeat (first | exact Below.refl _ _ | assumption | apply Below.drew | apply below_drewSt | (refine Below.alloc ?_ (by first | omega | (simp; done) | (simp; omega)) _) | (refine Below.setCell ?_ (by first | omega | (simp; done) | (simp; omega)) _))

theorem szStepS_any (A : Option Addr) (n cap : Nat) (L : Int) (hL : 0 ≤ L) (hL' : L ≤ 1048576) (hn : n ≤ 9223372036854775807) (w : World) :
    Calls Tryd.prog 6 #[.slice A n cap, .int .i64 L] w fun e w' => e = .returned (.int .i64 (if (n : Int) ≤ L then L - n else -1)) ∧ w = w' := by
  by_cases h : (n : Int) ≤ L
  · rw [if_pos h]
    go_enter Tryd.func6, Tryd.ntmps6
    go_wp2
    all_goals
      first
      | (exfalso; omega)
      | (go_ret; exact ⟨rfl, rfl⟩)
  · rw [if_neg h]
    go_enter Tryd.func6, Tryd.ntmps6
    go_wp2
    all_goals
      first
      | (exfalso; omega)
      | (go_ret; exact ⟨rfl, rfl⟩)

set_option maxHeartbeats 1000000 in
theorem eqStepS_same (b c n cap cap' : Nat) (fs es : Nat → Int) (hn : n ≤ 1048576) (w : World) (h1 : StRow w b n fs es) (h2 : StRow w c n fs es) :
    Calls Tryd.prog 14 #[.slice (some ⟨b, 0, none⟩) n cap, .slice (some ⟨c, 0, none⟩) n cap'] w fun e w' => e = .returned (.bool true) ∧ Below w.heap.size w w' := by
  go_enter Tryd.func14, Tryd.ntmps14
  go_wp2
  go_loopw [5] (fun i wr => ∃ k : Nat, k ≤ n ∧ i = .int .i64 k ∧ Below w.heap.size w wr) (fun i _ => n - (intOf i).toNat)
  case atStart => exact ⟨0, Nat.zero_le _, rfl, Below.refl _ _⟩
  case round =>
    obtain ⟨k, hk, rfl, hB⟩ := hrel
    by_cases hkn : k < n
    · have c0 := (h1.below hB h1.lt).cell0 hkn
      have c1 := (h1.below hB h1.lt).cell1 hkn
      have d0 := (h2.below hB h2.lt).cell0 hkn
      have d1 := (h2.below hB h2.lt).cell1 hkn
      go_wp2_with fail
      go_region_with (go_at_call 30; refine (eqStep_same _ _ _).mono ?_; rintro e w2 ⟨rfl, hb2⟩)
      all_goals
        go_wp2
        go_roundw
        case rel => exact ⟨k + 1, by omega, by go_num, hB.trans (Below.trans ((Below.refl _ _).drew) (Below.mono (by assumption) hB.size))⟩
        case measure => simp [intOf]; omega
    · go_wp2
      go_ret
      exact ⟨rfl, hB⟩
end Go.Proofs.YtnlcjbobfhmnmaaDoor

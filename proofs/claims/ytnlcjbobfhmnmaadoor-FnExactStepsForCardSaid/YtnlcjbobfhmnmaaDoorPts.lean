/-
  The laws' own copying and comparing of lists of points. Condition: at most 1048576 entries.
-/
import Derived.Test.YtnlcjbobfhmnmaaDoorBase
import Derived.Deep.OwnRows
import Derived.Deep.Slices
import Derived.Deep.Fields
import Derived.ProofKit
import Derived.OpenShut
import Derived.Deep.RegionWith
namespace Go.Proofs.YtnlcjbobfhmnmaaDoor
open Go.RowKit Go.ChangeShapes Go.WideShapes Go.Deep

theorem below_drewL {B : Nat} {a w : World} (h : Below B a w) (n : Nat) : Below B a (w.drewN n) := ⟨h.os, h.tape, h.output, h.size, h.block⟩
theorem rowIs_belowL {w w' : World} {b : Nat} {t : TypeId} {n : Nat} {f : Nat → Value} {B : Nat} (h : w.rowIs b t n f) (hb : Below B w w') (hB : b < B) : w'.rowIs b t n f := h.of_block (hb.block b hB)
theorem row_stepL {w : World} {b : Nat} {t : TypeId} {n k : Nat} {f g : Nat → Value} (h : w.rowIs b t n (fun j => if j < k then f j else g j)) :
    (w.setCell ⟨b, k, none⟩ (f k)).rowIs b t n (fun j => if j < k + 1 then f j else g j) :=
  (h.set k (f k)).congr (fun j _ => by
    by_cases h1 : j = k
    · subst h1; simp
    · by_cases h2 : j < k
      · have h3 : j < k + 1 := by omega
        simp [h1, h2, h3]
      · have h3 : ¬ j < k + 1 := by omega
        simp [h1, h2, h3])

/-- The cells of a list of points. -/
def ptF (fs es : Nat → Int) (j : Nat) : Value := if j % 2 = 0 then .int .i16 (fs (j / 2)) else .int .i16 (es (j / 2))
theorem ptF0 (fs es : Nat → Int) (k : Nat) : ptF fs es (k * 2) = .int .i16 (fs k) := by
  unfold ptF
  rw [if_pos (by omega), show k * 2 / 2 = k by omega]
theorem ptF1 (fs es : Nat → Int) (k : Nat) : ptF fs es (k * 2 + 1) = .int .i16 (es k) := by
  unfold ptF
  rw [if_neg (by omega), show (k * 2 + 1) / 2 = k by omega]
/-- Block b begins with these n points. -/
def PtRow (w : World) (b n : Nat) (fs es : Nat → Int) : Prop := ∃ m h, n * 2 ≤ m ∧ w.rowIs b 54 m h ∧ ∀ j, j < n * 2 → h j = ptF fs es j
theorem PtRow.cell0 {w : World} {b n : Nat} {fs es : Nat → Int} (h : PtRow w b n fs es) {k : Nat} (hk : k < n) : w.cell? ⟨b, k * 2, none⟩ = some (.int .i16 (fs k)) := by
  obtain ⟨m, f, hm, hr, he⟩ := h
  rw [hr.cell (by omega), he _ (by omega), ptF0]
theorem PtRow.cell1 {w : World} {b n : Nat} {fs es : Nat → Int} (h : PtRow w b n fs es) {k : Nat} (hk : k < n) : w.cell? ⟨b, k * 2 + 1, none⟩ = some (.int .i16 (es k)) := by
  obtain ⟨m, f, hm, hr, he⟩ := h
  rw [hr.cell (by omega), he _ (by omega), ptF1]
theorem PtRow.below {w w' : World} {b n : Nat} {fs es : Nat → Int} {B : Nat} (h : PtRow w b n fs es) (hb : Below B w w') (hB : b < B) : PtRow w' b n fs es := by
  obtain ⟨m, f, hm, hr, he⟩ := h
  exact ⟨m, f, hm, rowIs_belowL hr hb hB, he⟩
theorem PtRow.lt {w : World} {b n : Nat} {fs es : Nat → Int} (h : PtRow w b n fs es) : b < w.heap.size := by
  obtain ⟨_, _, _, hr, _⟩ := h
  exact hr.lt

/-- The numbers of a list of points are small. -/
def SmallP (n : Nat) (fs es : Nat → Int) : Prop := ∀ j, j < n → (-32768 ≤ fs j ∧ fs j ≤ 32767) ∧ -32768 ≤ es j ∧ es j ≤ 32767

/-- A list of points as it came: nil or not. -/
def PtsIn (w : World) (A : Option Addr) (n : Nat) (fs es : Nat → Int) : Prop :=
  n = 0 ∨ ∃ b o, A = some ⟨b, o, none⟩ ∧ b < w.heap.size ∧ ∀ j, j < n → w.cell? ⟨b, o + j * 2, none⟩ = some (.int .i16 (fs j)) ∧ w.cell? ⟨b, o + j * 2 + 1, none⟩ = some (.int .i16 (es j))
theorem PtsIn.below {w w' : World} {A : Option Addr} {n : Nat} {fs es : Nat → Int} {B : Nat} (h : PtsIn w A n fs es) (hb : Below B w w') (hB : w.heap.size ≤ B) : PtsIn w' A n fs es := by
  rcases h with h | ⟨b, o, e, hlt, hc⟩
  · exact .inl h
  · exact .inr ⟨b, o, e, by have := hb.size; omega, fun j hj => by
      rw [hb.cell (p := ⟨b, o + j * 2, none⟩) (by show b < B; omega), hb.cell (p := ⟨b, o + j * 2 + 1, none⟩) (by show b < B; omega)]; exact hc j hj⟩

theorem ptInfo : (Tryd.prog.info? 54).map (fun i => (i.zero, i.size, i.bytes)) = some (some (.agg #[.int .i16 0, .int .i16 0]), 2, 4) := by kernel_rfl
theorem ptMade (w : World) (n : Nat) (t : TypeId) : (w.alloc (.cells (madeCells #[.int .i16 0, .int .i16 0] (n * 2)) t)).rowIs w.heap.size t (n * 2) (fun _ => .int .i16 0) := by
  have h := World.rowIs_alloc w (madeCells #[.int .i16 0, .int .i16 0] (n * 2)) t (fun _ => .int .i16 0) (fun i hi => by
    rw [size_madeCells] at hi
    have h2 : i % 2 = 0 ∨ i % 2 = 1 := by omega
    rcases h2 with h2 | h2 <;> simp [madeCells, hi, h2])
  rw [size_madeCells] at h
  exact h
theorem run_make_rowL {P : Program} (t e : TypeId) (i : TypeInfo) (z : Value) (ht : P.underlying t = some (.slice e)) (hi : P.info? e = some i) (hz : i.zero = some z)
    (kl kc : IntKind) (n c : Nat) (hnc : n ≤ c) (hbytes : i.bytes * c ≤ 281474976710656) (h63 : c ≤ 9223372036854775807) (w : World) :
    (Instr.makeSlice t (.int kl (n : Int)) (.int kc (c : Int))).run P w = .ok (.slice (some ⟨w.heap.size, 0, none⟩) n c) (w.alloc (.cells (madeCells z.cells (c * i.size)) e)) := by
  have hb : (i.bytes : Int) * (c : Int) ≤ 281474976710656 := by
    have h : ((i.bytes * c : Nat) : Int) ≤ 281474976710656 := by omega
    rwa [Int.natCast_mul] at h
  have hr := run_make (P := P) w t e i z ht hi hz kl kc n c (by omega) (by omega) hb (by omega)
  simp only [Int.toNat_natCast] at hr
  exact hr

set_option maxHeartbeats 400000 in
theorem toPoint_any (f e0 : Int) (w : World) :
    Calls Tryd.prog 25 #[.agg #[.int .i16 f, .int .i16 e0]] w fun e w' => e = .returned (.agg #[.int .i16 f, .int .i16 e0]) ∧ Below w.heap.size w w' := by
  go_enter Tryd.func25, Tryd.ntmps25
  go_wp2
  refine bodyPost_ret (v := .agg #[.int .i16 f, .int .i16 e0]) (by simp [results, Tryd.results25, go_sem]) rfl ⟨rfl, ?_⟩
  repeat (first | exact Below.refl _ _ | assumption | apply Below.drew | apply below_drewL | (refine Below.alloc ?_ (by first | omega | (simp; done) | (simp; omega)) _) | (refine Below.setCell ?_ (by first | omega | (simp; done) | (simp; omega)) _))

set_option maxHeartbeats 1000000 in
theorem toCurve_any (A : Option Addr) (n cap : Nat) (fs es : Nat → Int) (hn : n ≤ 1048576) (w : World) (hr : PtsIn w A n fs es) :
    Calls Tryd.prog 9 #[.slice A n cap] w fun e w' => e = .returned (.slice (some ⟨w.heap.size, 0, none⟩) n n) ∧ PtRow w' w.heap.size n fs es ∧ Below w.heap.size w w' := by
  obtain ⟨i0, hi, hz0, hz1, hz2⟩ := info_parts ptInfo
  have hmk := fun W => run_make_rowL (P := Tryd.prog) 34 54 i0 _ Tryd.underlying34 hi hz0 .i64 .i64 n n (Nat.le_refl _) (by rw [hz2]; omega) (by omega) W
  rw [hz1] at hmk
  simp only [Value.cells] at hmk
  have hrow := ptMade w n 54
  have hB0 : Below w.heap.size w (w.alloc (.cells (madeCells #[.int .i16 0, .int .i16 0] (n * 2)) 54)) := (Below.refl _ _).alloc (Nat.le_refl _) _
  have hs0 : w.heap.size < (w.alloc (.cells (madeCells #[.int .i16 0, .int .i16 0] (n * 2)) 54)).heap.size := by simp
  rcases hr with h0 | ⟨b, o, rfl, hlt, hc⟩
  rotate_left
  have H0 : Hid (n = 0 ∨ 0 < n) := by show n = 0 ∨ 0 < n; omega
  rotate_left
  have H0 := Lib.hid h0; clear h0
  all_goals
    go_enter Tryd.func9, Tryd.ntmps9
    go_wp2
    go_loopw [4] (fun i wr => ∃ k : Nat, k ≤ n ∧ i = .int .i64 k ∧ wr.rowIs w.heap.size 54 (n * 2) (fun j => if j < k * 2 then ptF fs es j else .int .i16 0) ∧ Below w.heap.size w wr ∧ w.heap.size < wr.heap.size) (fun i _ => n - (intOf i).toNat)
    case atStart => exact ⟨0, Nat.zero_le _, rfl, hrow.congr (fun j _ => by simp), hB0, hs0⟩
    case round =>
      obtain ⟨k, hk, rfl, hR, hB, hs⟩ := hrel
      by_cases hkn : k < n
      · first
        | (exfalso; have h0 : n = 0 := H0.out; omega)
        | (obtain ⟨c0, c1⟩ := hc k hkn
           have c0 : wr.cell? ⟨b, o + k * 2, none⟩ = some (.int .i16 (fs k)) := by rw [hB.cell (p := ⟨b, o + k * 2, none⟩) hlt]; exact c0
           have c1 : wr.cell? ⟨b, o + k * 2 + 1, none⟩ = some (.int .i16 (es k)) := by rw [hB.cell (p := ⟨b, o + k * 2 + 1, none⟩) hlt]; exact c1
           go_wp2_with fail
           refine (toPoint_any _ _ _).mono ?_; rintro e w2 ⟨rfl, hb2⟩
           have hR2 := rowIs_belowL hR hb2 hs
           have d0 := hR2.cell (i := k * 2) (by omega)
           have d1 := hR2.cell (i := k * 2 + 1) (by omega)
           have g0 := hR2.frozen (k * 2)
           have g1 := hR2.frozen (k * 2 + 1)
           rw [if_neg (by omega)] at d0 d1
           have hB2 := hB.trans (hb2.mono hB.size)
           have hs2 := Nat.lt_of_lt_of_le hs hb2.size
           have hst : ((w2.setCell ⟨w.heap.size, k * 2, none⟩ (.int .i16 (fs k))).setCell ⟨w.heap.size, k * 2 + 1, none⟩ (.int .i16 (es k))).rowIs w.heap.size 54 (n * 2) (fun j => if j < (k + 1) * 2 then ptF fs es j else .int .i16 0) := by
             have h1 := row_stepL hR2
             rw [ptF0] at h1
             have h2 := row_stepL h1
             rw [ptF1] at h2
             rw [show (k + 1) * 2 = k * 2 + 1 + 1 by omega]; exact h2
           go_wp2_with fail
           go_roundw
           case rel => exact ⟨k + 1, by omega, by go_num, hst, (hB2.setCell (Nat.le_refl _) _).setCell (Nat.le_refl _) _, by simp; exact hs2⟩
           case measure => simp [intOf]; omega)
      · go_wp2
        go_ret
        have e : k = n := by omega
        subst e
        exact ⟨rfl, ⟨_, _, Nat.le_refl _, hR, fun j hj => if_pos hj⟩, hB⟩

set_option maxHeartbeats 400000 in
theorem eqPoint_same (f e0 : Int) (w : World) :
    Calls Tryd.prog 29 #[.agg #[.int .i16 f, .int .i16 e0], .agg #[.int .i16 f, .int .i16 e0]] w fun e w' => e = .returned (.bool true) ∧ Below w.heap.size w w' := by
  go_enter Tryd.func29, Tryd.ntmps29
  go_wp2
  go_ret
  refine ⟨rfl, ?_⟩
  repeat (first | exact Below.refl _ _ | assumption | apply Below.drew | apply below_drewL | (refine Below.alloc ?_ (by first | omega | (simp; done) | (simp; omega)) _) | (refine Below.setCell ?_ (by first | omega | (simp; done) | (simp; omega)) _))

theorem szCurve_any (A : Option Addr) (n cap : Nat) (L : Int) (hL : 0 ≤ L) (hL' : L ≤ 1048576) (hn : n ≤ 9223372036854775807) (w : World) :
    Calls Tryd.prog 5 #[.slice A n cap, .int .i64 L] w fun e w' => e = .returned (.int .i64 (if (n : Int) ≤ L then L - n else -1)) ∧ w = w' := by
  by_cases h : (n : Int) ≤ L
  · rw [if_pos h]
    go_enter Tryd.func5, Tryd.ntmps5
    go_wp2
    all_goals
      first
      | (exfalso; omega)
      | (go_ret; exact ⟨rfl, rfl⟩)
  · rw [if_neg h]
    go_enter Tryd.func5, Tryd.ntmps5
    go_wp2
    all_goals
      first
      | (exfalso; omega)
      | (go_ret; exact ⟨rfl, rfl⟩)

set_option maxHeartbeats 1000000 in
theorem eqCurve_same (b c n cap cap' : Nat) (fs es : Nat → Int) (hn : n ≤ 1048576) (w : World) (h1 : PtRow w b n fs es) (h2 : PtRow w c n fs es) :
    Calls Tryd.prog 13 #[.slice (some ⟨b, 0, none⟩) n cap, .slice (some ⟨c, 0, none⟩) n cap'] w fun e w' => e = .returned (.bool true) ∧ Below w.heap.size w w' := by
  go_enter Tryd.func13, Tryd.ntmps13
  go_wp2
  go_loopw [5] (fun i wr => ∃ k : Nat, k ≤ n ∧ i = .int .i64 k ∧ Below w.heap.size w wr) (fun i _ => n - (intOf i).toNat)
  case atStart => exact ⟨0, Nat.zero_le _, rfl, Below.refl _ _⟩
  case round =>
    obtain ⟨k, hk, rfl, hB⟩ := hrel
    by_cases hkn : k < n
    · have c0 := (h1.below hB h1.lt).cell0 hkn
      have c1 := (h1.below hB h1.lt).cell1 hkn
      have d0 := (h2.below hB h2.lt).cell0 hkn
      have d1 := (h2.below hB h2.lt).cell1 hkn
      go_wp2_with fail
      go_region_with (go_at_call 29; refine (eqPoint_same _ _ _).mono ?_; rintro e w2 ⟨rfl, hb2⟩)
      all_goals
        go_wp2
        go_roundw
        case rel => exact ⟨k + 1, by omega, by go_num, hB.trans (Below.trans ((Below.refl _ _).drew) (Below.mono (by assumption) hB.size))⟩
        case measure => simp [intOf]; omega
    · go_wp2
      go_ret
      exact ⟨rfl, hB⟩
end Go.Proofs.YtnlcjbobfhmnmaaDoor

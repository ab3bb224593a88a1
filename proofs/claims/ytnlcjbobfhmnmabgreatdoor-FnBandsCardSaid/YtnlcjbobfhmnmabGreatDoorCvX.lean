/-
  The laws' own copying and comparing of lists of points. Condition: at most 1048576 entries.
-/
import Derived.Test.YtnlcjbobfhmnmabGreatDoorBase
import Derived.Deep.OwnRows
import Derived.Deep.Slices
import Derived.Deep.Fields
import Derived.ProofKit
import Derived.OpenShut
import Derived.Deep.RegionWith
import Derived.Test.YtnlcjbobfhmnmabGreatDoorPlainCurves
import Derived.Test.YtnlcjbobfhmnmabGreatDoorQX
namespace Go.Proofs.YtnlcjbobfhmnmabGreatDoor
open Go.RowKit Go.ChangeShapes Go.WideShapes Go.Deep

theorem below_drewL {B : Nat} {a w : World} (h : Below B a w) (n : Nat) : Below B a (w.drewN n) := ⟨h.os, h.tape, h.output, h.size, h.block⟩
theorem rowIs_belowL {w w' : World} {b : Nat} {t : TypeId} {n : Nat} {f : Nat → Value} {B : Nat} (h : w.rowIs b t n f) (hb : Below B w w') (hB : b < B) : w'.rowIs b t n f := h.of_block (hb.block b hB)
theorem row_stepL {w : World} {b : Nat} {t : TypeId} {n k : Nat} {f g : Nat → Value} (h : w.rowIs b t n (fun j => if j < k then f j else g j)) :
    (w.setCell ⟨b, k, none⟩ (f k)).rowIs b t n (fun j => if j < k + 1 then f j else g j) :=
  (h.set k (f k)).congr (fun j _ => by
    by_cases h1 : j = k
    · subst h1; simp
    · by_cases h2 : j < k
      · have h3 : j < k + 1 := by omega
        simp [h1, h2, h3]
      · have h3 : ¬ j < k + 1 := by omega
        simp [h1, h2, h3])

/-- The cells of a list of points. -/
def ptF (fs es : Nat → Int) (j : Nat) : Value := if j % 2 = 0 then .int .i16 (fs (j / 2)) else .int .i16 (es (j / 2))
theorem ptF0 (fs es : Nat → Int) (k : Nat) : ptF fs es (k * 2) = .int .i16 (fs k) := by
  unfold ptF
  rw [if_pos (by omega), show k * 2 / 2 = k by omega]
theorem ptF1 (fs es : Nat → Int) (k : Nat) : ptF fs es (k * 2 + 1) = .int .i16 (es k) := by
  unfold ptF
  rw [if_neg (by omega), show (k * 2 + 1) / 2 = k by omega]
/-- Block b begins with these n points. -/
def PtRow (w : World) (b n : Nat) (fs es : Nat → Int) : Prop := ∃ m h, n * 2 ≤ m ∧ w.rowIs b 90 m h ∧ ∀ j, j < n * 2 → h j = ptF fs es j
theorem PtRow.cell0 {w : World} {b n : Nat} {fs es : Nat → Int} (h : PtRow w b n fs es) {k : Nat} (hk : k < n) : w.cell? ⟨b, k * 2, none⟩ = some (.int .i16 (fs k)) := by
  obtain ⟨m, f, hm, hr, he⟩ := h
  rw [hr.cell (by omega), he _ (by omega), ptF0]
theorem PtRow.cell1 {w : World} {b n : Nat} {fs es : Nat → Int} (h : PtRow w b n fs es) {k : Nat} (hk : k < n) : w.cell? ⟨b, k * 2 + 1, none⟩ = some (.int .i16 (es k)) := by
  obtain ⟨m, f, hm, hr, he⟩ := h
  rw [hr.cell (by omega), he _ (by omega), ptF1]
theorem PtRow.below {w w' : World} {b n : Nat} {fs es : Nat → Int} {B : Nat} (h : PtRow w b n fs es) (hb : Below B w w') (hB : b < B) : PtRow w' b n fs es := by
  obtain ⟨m, f, hm, hr, he⟩ := h
  exact ⟨m, f, hm, rowIs_belowL hr hb hB, he⟩
theorem PtRow.lt {w : World} {b n : Nat} {fs es : Nat → Int} (h : PtRow w b n fs es) : b < w.heap.size := by
  obtain ⟨_, _, _, hr, _⟩ := h
  exact hr.lt

/-- The numbers of a list of points are small. -/
def SmallP (n : Nat) (fs es : Nat → Int) : Prop := ∀ j, j < n → (-32768 ≤ fs j ∧ fs j ≤ 32767) ∧ -32768 ≤ es j ∧ es j ≤ 32767

/-- A list of points as it came: nil or not. -/
def PtsIn (w : World) (A : Option Addr) (n : Nat) (fs es : Nat → Int) : Prop :=
  n = 0 ∨ ∃ b o, A = some ⟨b, o, none⟩ ∧ b < w.heap.size ∧ ∀ j, j < n → w.cell? ⟨b, o + j * 2, none⟩ = some (.int .i16 (fs j)) ∧ w.cell? ⟨b, o + j * 2 + 1, none⟩ = some (.int .i16 (es j))
theorem PtsIn.below {w w' : World} {A : Option Addr} {n : Nat} {fs es : Nat → Int} {B : Nat} (h : PtsIn w A n fs es) (hb : Below B w w') (hB : w.heap.size ≤ B) : PtsIn w' A n fs es := by
  rcases h with h | ⟨b, o, e, hlt, hc⟩
  · exact .inl h
  · exact .inr ⟨b, o, e, by have := hb.size; omega, fun j hj => by
      rw [hb.cell (p := ⟨b, o + j * 2, none⟩) (by show b < B; omega), hb.cell (p := ⟨b, o + j * 2 + 1, none⟩) (by show b < B; omega)]; exact hc j hj⟩

theorem ptInfo : (Tryz.prog.info? 90).map (fun i => (i.zero, i.size, i.bytes)) = some (some (.agg #[.int .i16 0, .int .i16 0]), 2, 4) := by kernel_rfl
theorem ptMade (w : World) (n : Nat) (t : TypeId) : (w.alloc (.cells (madeCells #[.int .i16 0, .int .i16 0] (n * 2)) t)).rowIs w.heap.size t (n * 2) (fun _ => .int .i16 0) := by
  have h := World.rowIs_alloc w (madeCells #[.int .i16 0, .int .i16 0] (n * 2)) t (fun _ => .int .i16 0) (fun i hi => by
    rw [size_madeCells] at hi
    have h2 : i % 2 = 0 ∨ i % 2 = 1 := by omega
    rcases h2 with h2 | h2 <;> simp [madeCells, hi, h2])
  rw [size_madeCells] at h
  exact h
theorem run_make_rowL {P : Program} (t e : TypeId) (i : TypeInfo) (z : Value) (ht : P.underlying t = some (.slice e)) (hi : P.info? e = some i) (hz : i.zero = some z)
    (kl kc : IntKind) (n c : Nat) (hnc : n ≤ c) (hbytes : i.bytes * c ≤ 281474976710656) (h63 : c ≤ 9223372036854775807) (w : World) :
    (Instr.makeSlice t (.int kl (n : Int)) (.int kc (c : Int))).run P w = .ok (.slice (some ⟨w.heap.size, 0, none⟩) n c) (w.alloc (.cells (madeCells z.cells (c * i.size)) e)) := by
  have hb : (i.bytes : Int) * (c : Int) ≤ 281474976710656 := by
    have h : ((i.bytes * c : Nat) : Int) ≤ 281474976710656 := by omega
    rwa [Int.natCast_mul] at h
  have hr := run_make (P := P) w t e i z ht hi hz kl kc n c (by omega) (by omega) hb (by omega)
  simp only [Int.toNat_natCast] at hr
  exact hr

end Go.Proofs.YtnlcjbobfhmnmabGreatDoor


namespace Go.Proofs.YtnlcjbobfhmnmabGreatDoor
open Go.RowKit

theorem isPlace_any (x : Int) (w : World) : Calls Tryz.prog 137 #[.int .i64 x] w fun e w' => e = .returned (.bool (inB x (-200) 200)) ∧ w = w' := by
  go_enter Tryz.func137, Tryz.ntmps137
  go_wp2_with fail
  refine (inRange_any _ _ _ _).mono ?_; rintro e w1 ⟨rfl, rfl⟩
  go_wp2_with fail
  go_ret
  exact ⟨rfl, rfl⟩

theorem isDensity_any (x : Int) (w : World) : Calls Tryz.prog 71 #[.int .i64 x] w fun e w' => e = .returned (.bool (inB x 0 400)) ∧ w = w' := by
  go_enter Tryz.func71, Tryz.ntmps71
  go_wp2_with fail
  refine (inRange_any _ _ _ _).mono ?_; rintro e w1 ⟨rfl, rfl⟩
  go_wp2_with fail
  go_ret
  exact ⟨rfl, rfl⟩

theorem isPoint_any (x y : Int) (w : World) : Calls Tryz.prog 127 #[.int .i64 x, .int .i64 y] w fun e w' => e = .returned (.bool (ptOk x y)) ∧ w = w' := by
  have hp := fun W => isPlace_any x W
  rcases h1 : inB x (-200) 200 with _ | _
  · have e : ptOk x y = false := by simp [ptOk, h1]
    rw [e]; rw [h1] at hp
    have Hp := Lib.hid hp; clear hp h1 e
    go_enter Tryz.func127, Tryz.ntmps127
    go_wp2_with fail
    refine (Hp.out _).mono ?_; rintro e w1 ⟨rfl, rfl⟩
    go_wp2_with fail
    go_ret
    exact ⟨rfl, rfl⟩
  · have e : ptOk x y = inB y 0 400 := by simp [ptOk, h1]
    rw [e]; rw [h1] at hp
    have Hp := Lib.hid hp; clear hp h1 e
    go_enter Tryz.func127, Tryz.ntmps127
    go_wp2_with fail
    refine (Hp.out _).mono ?_; rintro e w1 ⟨rfl, rfl⟩
    go_wp2_with fail
    refine (isDensity_any y _).mono ?_; rintro e w1 ⟨rfl, rfl⟩
    go_wp2_with fail
    go_ret
    exact ⟨rfl, rfl⟩

theorem hasPoints_any (A : Option Addr) (n cap : Nat) (w : World) : Calls Tryz.prog 107 #[.slice A n cap] w fun e w' => e = .returned (.bool (decide (0 < n))) ∧ w = w' := by
  go_enter Tryz.func107, Tryz.ntmps107
  go_wp2
  go_ret
  exact ⟨ret_bool (by simp), rfl⟩

/-- A part of a curve as a value. -/
def partV (x0 y0 x1 y1 : Int) : Value := .agg #[.int .i16 x0, .int .i16 y0, .int .i16 x1, .int .i16 y1]

set_option maxHeartbeats 1000000 in
theorem partRun_any (x0 y0 x1 y1 : Int) (h0 : -32768 ≤ x0 ∧ x0 ≤ 32767) (h1 : -32768 ≤ x1 ∧ x1 ≤ 32767) (w : World) :
    Calls Tryz.prog 129 #[partV x0 y0 x1 y1] w fun e w' => e = .returned (.int .i64 (x1 - x0)) ∧ Below w.heap.size w w' := by
  unfold partV
  go_enter Tryz.func129, Tryz.ntmps129
  go_wp2
  go_ret
  exact ⟨rfl, by (repeat (first | exact Below.refl _ _ | assumption | apply Below.drew | apply below_drewL | apply below_drewP | (refine Below.alloc ?_ (by first | omega | (simp; done) | (simp; omega)) _) | (refine Below.setCell ?_ (by first | omega | (simp; done) | (simp; omega)) _)))⟩

set_option maxHeartbeats 1000000 in
theorem partRise_any (x0 y0 x1 y1 : Int) (h0 : -32768 ≤ y0 ∧ y0 ≤ 32767) (h1 : -32768 ≤ y1 ∧ y1 ≤ 32767) (w : World) :
    Calls Tryz.prog 130 #[partV x0 y0 x1 y1] w fun e w' => e = .returned (.int .i64 (y1 - y0)) ∧ Below w.heap.size w w' := by
  unfold partV
  go_enter Tryz.func130, Tryz.ntmps130
  go_wp2
  go_ret
  exact ⟨rfl, by (repeat (first | exact Below.refl _ _ | assumption | apply Below.drew | apply below_drewL | apply below_drewP | (refine Below.alloc ?_ (by first | omega | (simp; done) | (simp; omega)) _) | (refine Below.setCell ?_ (by first | omega | (simp; done) | (simp; omega)) _)))⟩

set_option maxHeartbeats 1000000 in
theorem isOnScale_any (b n cap : Nat) (xs ys : Nat → Int) (hn : n ≤ 1048576) (hs : SmallP n xs ys) (w : World) (hr : PtRow w b n xs ys) :
    Calls Tryz.prog 108 #[.slice (some ⟨b, 0, none⟩) n cap] w fun e w' => e = .returned (.bool (scaleB xs ys n)) ∧ Below w.heap.size w w' := by
  go_enter Tryz.func108, Tryz.ntmps108
  go_wp2
  go_loopw [7] (fun i wr => ∃ k : Nat, k ≤ n ∧ i = .int .i64 k ∧ scaleB xs ys k = true ∧ Below w.heap.size w wr) (fun i _ => n - (intOf i).toNat)
  case atStart => exact ⟨0, Nat.zero_le _, rfl, rfl, Below.refl _ _⟩
  case round =>
    obtain ⟨k, hk, rfl, hp, hB⟩ := hrel
    have Hp := Lib.hid hp; clear hp
    by_cases hkn : k < n
    · have hR := hr.below hB hr.lt
      have hz := hB.size
      have c0 := hR.cell0 hkn
      have c1 := hR.cell1 hkn
      have hsk := hs k hkn
      have hq := fun W => isPoint_any (xs k) (ys k) W
      rcases h1 : ptOk (xs k) (ys k) with _ | _
      · have hno : scaleB xs ys n = false := by
          rcases h : scaleB xs ys n with _ | _
          · rfl
          · rw [scaleB_iff.1 h k hkn] at h1; cases h1
        rw [h1] at hq
        have Hno := Lib.hid hno; clear hno
        have Hq := Lib.hid hq; clear hq h1
        go_wp2_with fail
        refine (Hq.out _).mono ?_; rintro e w2 ⟨rfl, rfl⟩
        go_wp2_with fail
        go_ret
        exact ⟨ret_bool Hno.out.symm, by (repeat (first | exact Below.refl _ _ | assumption | apply Below.drew | apply below_drewL | apply below_drewP | (refine Below.alloc ?_ (by first | omega | (simp; done) | (simp; omega)) _) | (refine Below.setCell ?_ (by first | omega | (simp; done) | (simp; omega)) _)))⟩
      · have hy : scaleB xs ys (k + 1) = true := by rw [scaleB, Hp.out, h1]; rfl
        rw [h1] at hq
        have Hy := Lib.hid hy; clear hy
        have Hq := Lib.hid hq; clear hq h1
        go_wp2_with fail
        refine (Hq.out _).mono ?_; rintro e w2 ⟨rfl, rfl⟩
        go_wp2_with fail
        go_roundw
        case rel => exact ⟨k + 1, by omega, by go_num, Hy.out, by (repeat (first | exact Below.refl _ _ | assumption | apply Below.drew | apply below_drewL | apply below_drewP | (refine Below.alloc ?_ (by first | omega | (simp; done) | (simp; omega)) _) | (refine Below.setCell ?_ (by first | omega | (simp; done) | (simp; omega)) _)))⟩
        case measure => simp [intOf]; omega
    · have e : k = n := by omega
      subst e
      go_wp2
      go_ret
      exact ⟨ret_bool Hp.out.symm, hB⟩
end Go.Proofs.YtnlcjbobfhmnmabGreatDoor

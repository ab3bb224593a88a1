/-
  Scenes by value: the laws' copies, and what both sides' tests return. Condition of the reference's: int8 numbers.
-/
import Derived.Test.YtmphmpddlgcofaaDoorPlc
import Derived.Test.YtmphmpddlgcofaaDoorDense
import Derived.Test.YtmphmpddlgcofaaDoorArrTools
namespace Go.Proofs.YtmphmpddlgcofaaDoor
open Go.RowKit

/-- Numbers of int8. -/
def S8 (f : Nat → Int) : Prop := ∀ k, k < 24 → -128 ≤ f k ∧ f k ≤ 127
/-- Are 24 numbers readings? -/
def scnB (f : Nat → Int) : Bool := (List.range 24).all fun k => inB (f k) 0 60
theorem scnB_iff {f : Nat → Int} : scnB f = true ↔ ∀ k, k < 24 → inB (f k) 0 60 = true := by simp [scnB]
theorem scnB_no {f : Nat → Int} {k : Nat} (hk : k < 24) (h : inB (f k) 0 60 = false) : scnB f = false := by
  rcases h' : scnB f with _ | _
  · rfl
  · rw [scnB_iff.1 h' k hk] at h; cases h
theorem scnB_bd {f : Nat → Int} (h : scnB f = true) {k : Nat} (hk : k < 24) : 0 ≤ f k ∧ f k ≤ 60 := inB_true.1 (scnB_iff.1 h k hk)
/-- What is put back onto the scale. -/
def clampS (f : Nat → Int) : Nat → Int := fun k => min (max (f k) 0) 60
theorem eqN_clampS (f : Nat → Int) : eqN (clampS f) f 24 = scnB f := by
  rw [Bool.eq_iff_iff, eqN_iff, scnB_iff]
  constructor
  · intro h k hk
    have := h k hk
    unfold clampS at this
    exact inB_true.2 ⟨by omega, by omega⟩
  · intro h k hk
    have := inB_true.1 (h k hk)
    show min (max (f k) 0) 60 = f k
    omega

theorem zeroArr8 : #[.int .i8 0, .int .i8 0, .int .i8 0, .int .i8 0, .int .i8 0, .int .i8 0, .int .i8 0, .int .i8 0, .int .i8 0, .int .i8 0, .int .i8 0, .int .i8 0, .int .i8 0, .int .i8 0, .int .i8 0, .int .i8 0, .int .i8 0, .int .i8 0, .int .i8 0, .int .i8 0, .int .i8 0, .int .i8 0, .int .i8 0, .int .i8 0] = arrV .i8 24 fun _ => 0 := by kernel_rfl

theorem size8 : (Tryd.prog.info? 22).map (·.size) = some 1 := by kernel_rfl

theorem info8 : ∃ i, Tryd.prog.info? 22 = some i := by
  have h := size8
  cases hq : Tryd.prog.info? 22 with
  | none => simp [hq] at h
  | some i => exact ⟨i, rfl⟩

theorem sizeA24 : (Tryd.prog.info? 23).map (·.size) = some 24 := by kernel_rfl

theorem sizeScn : (Tryd.prog.info? 28).map (·.size) = some 24 := by kernel_rfl

theorem HasArr.zeroS (w : World) (T : TypeId) {b : Nat} (hb : b = w.heap.size) : HasArr (w.alloc (.cells #[.int .i8 0, .int .i8 0, .int .i8 0, .int .i8 0, .int .i8 0, .int .i8 0, .int .i8 0, .int .i8 0, .int .i8 0, .int .i8 0, .int .i8 0, .int .i8 0, .int .i8 0, .int .i8 0, .int .i8 0, .int .i8 0, .int .i8 0, .int .i8 0, .int .i8 0, .int .i8 0, .int .i8 0, .int .i8 0, .int .i8 0, .int .i8 0] T)) b T .i8 24 fun _ => 0 := by
  subst hb; rw [zeroArr8]; exact HasArr.new w T .i8 24 _

set_option maxRecDepth 100000 in
set_option maxHeartbeats 1000000 in
theorem toScene_any (f : Nat → Int) (w : World) :
    Calls Tryd.prog 11 #[.agg (arrV .i8 24 f)] w fun e w' => e = .returned (.agg (arrV .i8 24 f)) ∧ Below w.heap.size w w' := by
  go_enter Tryd.func11, Tryd.ntmps11
  go_wp2_with fail
  go_loopw [4] (fun i wr => ∃ k : Nat, k ≤ 24 ∧ i = .int .i64 k ∧ HasArr wr w.heap.size 23 .i8 24 f ∧ HasArr wr (w.heap.size + 1) 28 .i8 24 (fun _ => 0) ∧ HasArr wr (w.heap.size + 1 + 1) 28 .i8 24 (mixN f k) ∧ Below w.heap.size w wr) (fun i _ => 24 - (intOf i).toNat)
  case atStart =>
    exact ⟨0, by omega, rfl, ((HasArr.new w _ _ _ _).alloc _).alloc _, (HasArr.zeroS _ _ (by simp)).alloc _, (HasArr.zeroS _ _ (by simp)).congr (fun j _ => by simp [mixN]), (((Below.refl _ _).alloc (Nat.le_refl _) _).alloc (by simp) _).alloc (by simp; omega) _⟩
  case round =>
    obtain ⟨k, hk, rfl, h1, h2, h3, hB⟩ := hrel
    by_cases hkn : k < 24
    · have c1 := h1.cell hkn
      have c3 := h3.cell hkn
      have f3 := h3.free k
      have k3 := (h3.set k (f k)).congr (fun j _ => mixN_step f k j)
      have k2 := h2.other (a := ⟨w.heap.size + 1 + 1, k, none⟩) (by simp) (.int .i8 (f k))
      have k1 := h1.other (a := ⟨w.heap.size + 1 + 1, k, none⟩) (by simp; omega) (.int .i8 (f k))
      have kB := hB.setCell (p := ⟨w.heap.size + 1 + 1, k, none⟩) (by simp; omega) (.int .i8 (f k))
      have K := Lib.hid (And.intro k1 (And.intro k2 (And.intro k3 kB)))
      clear k1 k2 k3 kB h1 h2 h3 hB
      go_wp2
      go_roundw
      case rel => exact ⟨k + 1, by omega, by go_num, K.out⟩
      case measure => simp [intOf]; omega
    · obtain rfl : k = 24 := by omega
      have h3 := h3.congr (g := f) (fun j hj => by simp [mixN, hj])
      have h2' := h2.setRow .i8 f
      have hB' := below_setRow hB (b := w.heap.size + 1) (by omega) (arrV .i8 24 f)
      go_wp2_with (first | (refine wpList_load_arr h3 _ _ rfl rfl rfl Tryd.underlying28 sizeScn ?_) | (refine wpList_store_arr h2 _ _ _ rfl rfl rfl rfl sizeScn ?_))
      refine bodyPost_ret (v := .agg (arrV .i8 24 f)) ?_ rfl ⟨rfl, hB'⟩
      exact results_cell_row rfl _ _ _ _ _ _ _ rfl h2' Tryd.underlying28 rfl (by rw [arrV_size]; exact sizeScn)

set_option maxHeartbeats 1000000 in
theorem l06Ok_any (b : Nat) (T : TypeId) (f : Nat → Int) (hf : S8 f) (w : World) (h : HasArr w b T .i8 24 f) :
    Calls Tryd.prog 48 #[.pointer (some ⟨b, 0, none⟩)] w fun e w' => e = .returned (.bool (scnB f)) ∧ w = w' := by
  go_enter Tryd.func48, Tryd.ntmps48
  go_wp2_with fail
  go_loop [3] (fun i => ∃ k : Nat, k ≤ 24 ∧ i = .int .i64 k ∧ ∀ j, j < k → inB (f j) 0 60 = true) (fun i => 24 - (intOf i).toNat)
  case atStart => exact ⟨0, by omega, rfl, fun j hj => by omega⟩
  case round =>
    obtain ⟨k, hk, rfl, hj⟩ := hrel
    have HJ := Lib.hid hj; clear hj
    by_cases hkn : k < 24
    · have c1 := h.cell hkn
      have b1 := (hf k hkn).1
      have b2 := (hf k hkn).2
      have hd := l06Reading_any (f k)
      rcases hv : inB (f k) 0 60 with _ | _
      · have hz := scnB_no hkn hv
        rw [hv] at hd
        have Hd := Lib.hid hd; clear hd
        have Hz := Lib.hid hz; clear hz hv
        generalize f k = X at *
        go_wp2_with fail
        refine (Hd.out _).mono ?_; rintro e w1 ⟨rfl, rfl⟩
        go_wp2_with fail
        go_ret
        exact ⟨ret_bool Hz.out.symm, rfl⟩
      · rw [hv] at hd
        have Hd := Lib.hid hd; clear hd
        have HV := Lib.hid hv; clear hv
        generalize hX : f k = X at *
        have HX := Lib.hid hX; clear hX
        go_wp2_with fail
        refine (Hd.out _).mono ?_; rintro e w1 ⟨rfl, rfl⟩
        go_wp2_with fail
        go_round
        case rel => exact ⟨k + 1, by omega, by go_num, fun j hj => by
          by_cases e : j = k
          · subst e; rw [HX.out]; exact HV.out
          · exact HJ.out j (by omega)⟩
        case measure => simp [intOf]; omega
    · obtain rfl : k = 24 := by omega
      have hz : scnB f = true := scnB_iff.2 HJ.out
      have Hz := Lib.hid hz; clear hz
      go_wp2_with fail
      go_ret
      exact ⟨ret_bool Hz.out.symm, rfl⟩

set_option maxRecDepth 100000 in
set_option maxHeartbeats 1000000 in
theorem ValidScene_any (f : Nat → Int) (w : World) :
    Calls Tryd.prog 59 #[.agg (arrV .i8 24 f)] w fun e w' => e = .returned (.bool (scnB f)) ∧ Below w.heap.size w w' := by
  obtain ⟨i0, hi0⟩ := info8
  have hcl : Tryd.prog.cellsOf 22 = 1 := by kernel_rfl
  have heq := fun W => run_equal_arr (P := Tryd.prog) W (clampS f) f Tryd.underlying28 Tryd.underlying22 hi0 hcl
  rw [eqN_clampS] at heq
  have Heq := Lib.hid heq; clear heq
  have hix := fun k (hk : k < 24) W => run_index_arr (P := Tryd.prog) (κ' := .i64) f Tryd.underlying28 Tryd.underlying22 size8 hk W
  have Hix := Lib.hid hix; clear hix
  have a1 := HasArr.new w 28 .i8 24 f
  have a2 := HasArr.zeroS (w.alloc (.cells (arrV .i8 24 f) 28)) 28 (b := w.heap.size + 1) (by simp)
  have a3 := (a1.alloc (.cells #[.int .i8 0, .int .i8 0, .int .i8 0, .int .i8 0, .int .i8 0, .int .i8 0, .int .i8 0, .int .i8 0, .int .i8 0, .int .i8 0, .int .i8 0, .int .i8 0, .int .i8 0, .int .i8 0, .int .i8 0, .int .i8 0, .int .i8 0, .int .i8 0, .int .i8 0, .int .i8 0, .int .i8 0, .int .i8 0, .int .i8 0, .int .i8 0] 28)).rowOther (b' := w.heap.size + 1) (by omega) (arrV .i8 24 f)
  have a4 := a2.setRow .i8 f
  have kB := below_setRow (((Below.refl w.heap.size w).alloc (Nat.le_refl _) (.cells (arrV .i8 24 f) 28)).alloc (by simp) (.cells #[.int .i8 0, .int .i8 0, .int .i8 0, .int .i8 0, .int .i8 0, .int .i8 0, .int .i8 0, .int .i8 0, .int .i8 0, .int .i8 0, .int .i8 0, .int .i8 0, .int .i8 0, .int .i8 0, .int .i8 0, .int .i8 0, .int .i8 0, .int .i8 0, .int .i8 0, .int .i8 0, .int .i8 0, .int .i8 0, .int .i8 0, .int .i8 0] 28)) (b := w.heap.size + 1) (by omega) (arrV .i8 24 f)
  have K0 := Lib.hid (And.intro a3 (And.intro (a4.congr (fun j _ => mixFN_0 (clampS f) f j)) kB))
  clear a4 kB
  go_enter Tryd.func59, Tryd.ntmps59
  go_wp2_with (first | (refine wpList_load_arr a1 _ _ rfl rfl rfl Tryd.underlying28 sizeScn ?_) | (refine wpList_store_arr a2 _ _ _ rfl rfl rfl rfl sizeScn ?_) | (refine wpList_load_arr a3 _ _ rfl rfl rfl Tryd.underlying28 sizeScn ?_))
  clear a1 a2 a3
  go_loopw [8] (fun i wr => ∃ k : Nat, k ≤ 24 ∧ i = .int .i64 k ∧ HasArr wr w.heap.size 28 .i8 24 f ∧ HasArr wr (w.heap.size + 1) 28 .i8 24 (mixFN (clampS f) f k) ∧ Below w.heap.size w wr) (fun i _ => 24 - (intOf i).toNat)
  case atStart => exact ⟨0, by omega, rfl, K0.out⟩
  case round =>
    obtain ⟨k, hk, rfl, h1, h2, hB⟩ := hrel
    by_cases hkn : k < 24
    · have ix := Hix.out k hkn wr
      have c2 := h2.cell hkn
      have f2 := h2.free k
      have k2 := (h2.set k (clampS f k)).congr (fun j _ => mixFN_step (clampS f) f k j)
      have k1 := h1.other (a := ⟨w.heap.size + 1, k, none⟩) (by simp) (.int .i8 (clampS f k))
      have kB := hB.setCell (p := ⟨w.heap.size + 1, k, none⟩) (by simp) (.int .i8 (clampS f k))
      have K := Lib.hid (And.intro k1 (And.intro k2 kB))
      clear k1 k2 kB h1 h2 hB
      go_wp2
      go_roundw
      case rel => exact ⟨k + 1, by omega, by go_num, K.out⟩
      case measure => simp [intOf]; omega
    · obtain rfl : k = 24 := by omega
      have h2 := h2.congr (g := clampS f) (fun j hj => mixFN_n _ _ hj)
      have q := Heq.out wr
      go_wp2_with (first | (refine wpList_load_arr h2 _ _ rfl rfl rfl Tryd.underlying28 sizeScn ?_) | (refine wpList_load_arr h1 _ _ rfl rfl rfl Tryd.underlying28 sizeScn ?_))
      go_ret
      exact ⟨rfl, hB⟩

set_option maxHeartbeats 400000 in
theorem readingS_any (f : Nat → Int) (k : Nat) (hk : k < 24) (hf : S8 f) (w : World) :
    Calls Tryd.prog 148 #[.agg (arrV .i8 24 f), .int .i64 (k : Int)] w fun e w' => e = .returned (.int .i64 (f k)) ∧ Below w.heap.size w w' := by
  have c1 := (HasArr.new w 28 .i8 24 f).cell hk
  have b1 := hf k hk
  have w1 : (k : Int) < 24 := by omega
  have k0 := (Below.refl w.heap.size w).alloc (Nat.le_refl _) (.cells (arrV .i8 24 f) 28)
  have K0 := Lib.hid k0; clear k0 hf
  generalize f k = X at *
  go_enter Tryd.func148, Tryd.ntmps148
  go_wp2
  go_ret
  exact ⟨rfl, K0.out⟩
end Go.Proofs.YtmphmpddlgcofaaDoor

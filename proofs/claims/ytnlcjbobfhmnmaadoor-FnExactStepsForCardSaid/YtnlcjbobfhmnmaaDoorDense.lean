/-
  Densities of cells: what both sides' tests of 64 numbers return. No condition.
-/
import Derived.Test.YtnlcjbobfhmnmaaDoorArr
import Derived.Lib.MinMax
namespace Go.Proofs.YtnlcjbobfhmnmaaDoor
open Go.RowKit

/-- Are 64 numbers densities? -/
def dnsB (f : Nat → Int) : Bool := (List.range 64).all fun k => inB (f k) 0 400
theorem dnsB_iff {f : Nat → Int} : dnsB f = true ↔ ∀ k, k < 64 → inB (f k) 0 400 = true := by simp [dnsB]
theorem dnsB_no {f : Nat → Int} {k : Nat} (hk : k < 64) (h : inB (f k) 0 400 = false) : dnsB f = false := by
  rcases h' : dnsB f with _ | _
  · rfl
  · rw [dnsB_iff.1 h' k hk] at h; cases h
theorem dnsB_bd {f : Nat → Int} (h : dnsB f = true) {k : Nat} (hk : k < 64) : 0 ≤ f k ∧ f k ≤ 400 := inB_true.1 (dnsB_iff.1 h k hk)
/-- What is put back onto the scale. -/
def clampF (f : Nat → Int) : Nat → Int := fun k => min (max (f k) 0) 400
theorem eqN_clamp (f : Nat → Int) : eqN (clampF f) f 64 = dnsB f := by
  rw [Bool.eq_iff_iff, eqN_iff, dnsB_iff]
  constructor
  · intro h k hk
    have := h k hk
    unfold clampF at this
    exact inB_true.2 ⟨by omega, by omega⟩
  · intro h k hk
    have := inB_true.1 (h k hk)
    show min (max (f k) 0) 400 = f k
    omega
/-- The first k numbers are g's, the others f's. -/
def mixFN (g f : Nat → Int) (k : Nat) : Nat → Int := fun j => if j < k then g j else f j
theorem mixFN_step (g f : Nat → Int) (k j : Nat) : upd (mixFN g f k) k (g k) j = mixFN g f (k + 1) j := by
  unfold upd mixFN
  split
  · rename_i h; subst h; simp
  · rename_i h
    have : j < k ↔ j < k + 1 := by omega
    simp [this]
theorem mixFN_0 (g f : Nat → Int) (j : Nat) : f j = mixFN g f 0 j := by simp [mixFN]
theorem mixFN_n (g f : Nat → Int) {n j : Nat} (h : j < n) : mixFN g f n j = g j := by simp [mixFN, h]

section
variable {P : Program}
theorem run_index_arr {t e : TypeId} {κ κ' : IntKind} {n k : Nat} (f : Nat → Int) (hu : P.underlying t = some (.array n e)) (he : P.underlying e = some (.int κ)) (hi : (P.info? e).map (·.size) = some 1) (hk : k < n) (w : World) :
    (Instr.index t (.agg (arrV κ n f)) (.int κ' (k : Int))).run P w = .ok (.int κ (f k)) w := by
  cases hq : P.info? e with
  | none => simp [hq] at hi
  | some i =>
    have hs : i.size = 1 := by simpa [hq] using hi
    have hp := run_part_arr (P := P) w (e := e) (κ := κ) (f := f) he hk
    have h1 : ¬ n ≤ k := by omega
    simp [Instr.index, run_underlying hu, asIntOf, hk, h1, sizeOf, typeInfo, hq, hs, hp]
theorem run_eql_arr {t e : TypeId} {κ : IntKind} {n : Nat} {i : TypeInfo} (f g : Nat → Int) (hu : P.underlying t = some (.array n e)) (he : P.underlying e = some (.int κ)) (hi : P.info? e = some i) (hc : P.cellsOf e = 1) (w : World) :
    (binOp .eql t (.agg (arrV κ n f)) (.agg (arrV κ n g))).run P w = .ok (.bool (eqN f g n)) w := by
  simp only [binOp]
  simp [Op.equal, Op.maxDepth, run_equal_arr w f g hu he hi hc]
theorem run_neq_arr {t e : TypeId} {κ : IntKind} {n : Nat} {i : TypeInfo} (f g : Nat → Int) (hu : P.underlying t = some (.array n e)) (he : P.underlying e = some (.int κ)) (hi : P.info? e = some i) (hc : P.cellsOf e = 1) (w : World) :
    (binOp .neq t (.agg (arrV κ n f)) (.agg (arrV κ n g))).run P w = .ok (.bool !(eqN f g n)) w := by
  simp only [binOp]
  simp [Op.equal, Op.maxDepth, run_equal_arr w f g hu he hi hc]
end

theorem size16 : (Tryd.prog.info? 22).map (·.size) = some 1 := by kernel_rfl

theorem info16 : ∃ i, Tryd.prog.info? 22 = some i := by
  have h := size16
  cases hq : Tryd.prog.info? 22 with
  | none => simp [hq] at h
  | some i => exact ⟨i, rfl⟩

theorem l02Density_16 (x : Int) (w : World) : Calls Tryd.prog 50 #[.int .i64 x] w fun e w' => e = .returned (.bool (inB x 0 400)) ∧ w = w' := by
  go_enter Tryd.func50, Tryd.ntmps50
  go_wp2_with (go_at_call 52; refine (l00In_any _ _ _ _).mono ?_; rintro e w' ⟨rfl, rfl⟩)
  go_ret
  exact ⟨rfl, rfl⟩

set_option maxHeartbeats 1000000 in
theorem l03Dense_any (b : Nat) (T : TypeId) (f : Nat → Int) (hf : ∀ k, k < 64 → -32768 ≤ f k ∧ f k ≤ 32767) (w : World) (h : HasArr w b T .i16 64 f) :
    Calls Tryd.prog 35 #[.pointer (some ⟨b, 0, none⟩)] w fun e w' => e = .returned (.bool (dnsB f)) ∧ w = w' := by
  go_enter Tryd.func35, Tryd.ntmps35
  go_wp2_with fail
  go_loop [3] (fun i => ∃ k : Nat, k ≤ 64 ∧ i = .int .i64 k ∧ ∀ j, j < k → inB (f j) 0 400 = true) (fun i => 64 - (intOf i).toNat)
  case atStart => exact ⟨0, by omega, rfl, fun j hj => by omega⟩
  case round =>
    obtain ⟨k, hk, rfl, hj⟩ := hrel
    have HJ := Lib.hid hj; clear hj
    by_cases hkn : k < 64
    · have c1 := h.cell hkn
      have b1 := (hf k hkn).1
      have b2 := (hf k hkn).2
      have hd := l02Density_16 (f k)
      rcases hv : inB (f k) 0 400 with _ | _
      · have hz := dnsB_no hkn hv
        rw [hv] at hd
        have Hd := Lib.hid hd; clear hd
        have Hz := Lib.hid hz; clear hz hv
        generalize f k = X at *
        go_wp2_with fail
        refine (Hd.out _).mono ?_; rintro e w1 ⟨rfl, rfl⟩
        go_wp2_with fail
        go_ret
        exact ⟨ret_bool Hz.out.symm, rfl⟩
      · rw [hv] at hd
        have Hd := Lib.hid hd; clear hd
        have HV := Lib.hid hv; clear hv
        generalize hX : f k = X at *
        have HX := Lib.hid hX; clear hX
        go_wp2_with fail
        refine (Hd.out _).mono ?_; rintro e w1 ⟨rfl, rfl⟩
        go_wp2_with fail
        go_round
        case rel => exact ⟨k + 1, by omega, by go_num, fun j hj => by
          by_cases e : j = k
          · subst e; rw [HX.out]; exact HV.out
          · exact HJ.out j (by omega)⟩
        case measure => simp [intOf]; omega
    · obtain rfl : k = 64 := by omega
      have hz : dnsB f = true := dnsB_iff.2 HJ.out
      have Hz := Lib.hid hz; clear hz
      go_wp2_with fail
      go_ret
      exact ⟨ret_bool Hz.out.symm, rfl⟩

set_option maxRecDepth 100000 in
set_option maxHeartbeats 1000000 in
theorem areOnScale_any (f : Nat → Int) (w : World) :
    Calls Tryd.prog 56 #[.agg (arrV .i16 64 f)] w fun e w' => e = .returned (.bool (dnsB f)) ∧ Below w.heap.size w w' := by
  obtain ⟨i0, hi0⟩ := info16
  have hcl : Tryd.prog.cellsOf 22 = 1 := by kernel_rfl
  have heq := fun W => run_equal_arr (P := Tryd.prog) W (clampF f) f Tryd.underlying86 Tryd.underlying22 hi0 hcl
  rw [eqN_clamp] at heq
  have Heq := Lib.hid heq; clear heq
  have hix := fun k (hk : k < 64) W => run_index_arr (P := Tryd.prog) (κ' := .i64) f Tryd.underlying86 Tryd.underlying22 size16 hk W
  have Hix := Lib.hid hix; clear hix
  have a1 := HasArr.new w 86 .i16 64 f
  have a2 := HasArr.zero (w.alloc (.cells (arrV .i16 64 f) 86)) 86 (b := w.heap.size + 1) (by simp)
  have a3 := (a1.alloc (.cells #[.int .i16 0, .int .i16 0, .int .i16 0, .int .i16 0, .int .i16 0, .int .i16 0, .int .i16 0, .int .i16 0, .int .i16 0, .int .i16 0, .int .i16 0, .int .i16 0, .int .i16 0, .int .i16 0, .int .i16 0, .int .i16 0, .int .i16 0, .int .i16 0, .int .i16 0, .int .i16 0, .int .i16 0, .int .i16 0, .int .i16 0, .int .i16 0, .int .i16 0, .int .i16 0, .int .i16 0, .int .i16 0, .int .i16 0, .int .i16 0, .int .i16 0, .int .i16 0, .int .i16 0, .int .i16 0, .int .i16 0, .int .i16 0, .int .i16 0, .int .i16 0, .int .i16 0, .int .i16 0, .int .i16 0, .int .i16 0, .int .i16 0, .int .i16 0, .int .i16 0, .int .i16 0, .int .i16 0, .int .i16 0, .int .i16 0, .int .i16 0, .int .i16 0, .int .i16 0, .int .i16 0, .int .i16 0, .int .i16 0, .int .i16 0, .int .i16 0, .int .i16 0, .int .i16 0, .int .i16 0, .int .i16 0, .int .i16 0, .int .i16 0, .int .i16 0] 86)).rowOther (b' := w.heap.size + 1) (by omega) (arrV .i16 64 f)
  have a4 := a2.setRow .i16 f
  have kB := below_setRow (((Below.refl w.heap.size w).alloc (Nat.le_refl _) (.cells (arrV .i16 64 f) 86)).alloc (by simp) (.cells #[.int .i16 0, .int .i16 0, .int .i16 0, .int .i16 0, .int .i16 0, .int .i16 0, .int .i16 0, .int .i16 0, .int .i16 0, .int .i16 0, .int .i16 0, .int .i16 0, .int .i16 0, .int .i16 0, .int .i16 0, .int .i16 0, .int .i16 0, .int .i16 0, .int .i16 0, .int .i16 0, .int .i16 0, .int .i16 0, .int .i16 0, .int .i16 0, .int .i16 0, .int .i16 0, .int .i16 0, .int .i16 0, .int .i16 0, .int .i16 0, .int .i16 0, .int .i16 0, .int .i16 0, .int .i16 0, .int .i16 0, .int .i16 0, .int .i16 0, .int .i16 0, .int .i16 0, .int .i16 0, .int .i16 0, .int .i16 0, .int .i16 0, .int .i16 0, .int .i16 0, .int .i16 0, .int .i16 0, .int .i16 0, .int .i16 0, .int .i16 0, .int .i16 0, .int .i16 0, .int .i16 0, .int .i16 0, .int .i16 0, .int .i16 0, .int .i16 0, .int .i16 0, .int .i16 0, .int .i16 0, .int .i16 0, .int .i16 0, .int .i16 0, .int .i16 0] 86)) (b := w.heap.size + 1) (by omega) (arrV .i16 64 f)
  have K0 := Lib.hid (And.intro a3 (And.intro (a4.congr (fun j _ => mixFN_0 (clampF f) f j)) kB))
  clear a4 kB
  go_enter Tryd.func56, Tryd.ntmps56
  go_wp2_with (first | (refine wpList_load_arr a1 _ _ rfl rfl rfl Tryd.underlying86 sizeCells ?_) | (refine wpList_store_arr a2 _ _ _ rfl rfl rfl rfl sizeCells ?_) | (refine wpList_load_arr a3 _ _ rfl rfl rfl Tryd.underlying86 sizeCells ?_))
  clear a1 a2 a3
  go_loopw [8] (fun i wr => ∃ k : Nat, k ≤ 64 ∧ i = .int .i64 k ∧ HasArr wr w.heap.size 86 .i16 64 f ∧ HasArr wr (w.heap.size + 1) 86 .i16 64 (mixFN (clampF f) f k) ∧ Below w.heap.size w wr) (fun i _ => 64 - (intOf i).toNat)
  case atStart => exact ⟨0, by omega, rfl, K0.out⟩
  case round =>
    obtain ⟨k, hk, rfl, h1, h2, hB⟩ := hrel
    by_cases hkn : k < 64
    · have ix := Hix.out k hkn wr
      have c2 := h2.cell hkn
      have f2 := h2.free k
      have k2 := (h2.set k (clampF f k)).congr (fun j _ => mixFN_step (clampF f) f k j)
      have k1 := h1.other (a := ⟨w.heap.size + 1, k, none⟩) (by simp) (.int .i16 (clampF f k))
      have kB := hB.setCell (p := ⟨w.heap.size + 1, k, none⟩) (by simp) (.int .i16 (clampF f k))
      have K := Lib.hid (And.intro k1 (And.intro k2 kB))
      clear k1 k2 kB h1 h2 hB
      go_wp2
      go_roundw
      case rel => exact ⟨k + 1, by omega, by go_num, K.out⟩
      case measure => simp [intOf]; omega
    · obtain rfl : k = 64 := by omega
      have h2 := h2.congr (g := clampF f) (fun j hj => mixFN_n _ _ hj)
      have q := Heq.out wr
      go_wp2_with (first | (refine wpList_load_arr h2 _ _ rfl rfl rfl Tryd.underlying86 sizeCells ?_) | (refine wpList_load_arr h1 _ _ rfl rfl rfl Tryd.underlying86 sizeCells ?_))
      go_ret
      exact ⟨rfl, hB⟩
end Go.Proofs.YtnlcjbobfhmnmaaDoor

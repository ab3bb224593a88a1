/-
  Changed negatives: what the program's functions return. Condition: its variables hold their own errors.
-/
import Derived.Test.YtfnefeaplghgcaaDoorArrTools
import Derived.Test.YtfnefeaplghgcaaDoorPerm
namespace Go.Proofs.YtfnefeaplghgcaaDoor
open Go.RowKit

theorem cellAt_any (x y : Int) (hx : 0 ≤ x) (hx' : x ≤ 7) (hy : 0 ≤ y) (hy' : y ≤ 7) (w : World) : Calls Tryd.prog 52 #[.int .i64 x, .int .i64 y] w fun e w' => e = .returned (.int .i64 (x + 8 * y)) ∧ w = w' := by
  go_enter Tryd.func52, Tryd.ntmps52
  go_wp2
  go_ret
  exact ⟨rfl, rfl⟩

theorem mirror1_any (x y : Int) (hx : 0 ≤ x) (hx' : x ≤ 7) (w : World) : Calls Tryd.prog 22 #[.int .i64 x, .int .i64 y] w fun e w' => e = .returned (.tuple #[.int .i64 (7 - x), .int .i64 y]) ∧ w = w' := by
  go_enter Tryd.func22, Tryd.ntmps22
  go_wp2
  go_ret2
  exact ⟨rfl, rfl⟩

theorem turn1_any (x y : Int) (hx : 0 ≤ x) (hx' : x ≤ 7) (w : World) : Calls Tryd.prog 24 #[.int .i64 x, .int .i64 y] w fun e w' => e = .returned (.tuple #[.int .i64 y, .int .i64 (7 - x)]) ∧ w = w' := by
  go_enter Tryd.func24, Tryd.ntmps24
  go_wp2
  go_ret2
  exact ⟨rfl, rfl⟩

set_option maxHeartbeats 1000000 in
theorem enlarge1_any (x y X Y : Int) (hx : 0 ≤ x) (hx' : x ≤ 7) (hy : 0 ≤ y) (hy' : y ≤ 7) (hX : 0 ≤ X) (hX' : X ≤ 4) (hY : 0 ≤ Y) (hY' : Y ≤ 4) (p q : Nat) (w : World) (c0 : w.cell? ⟨p, 0, none⟩ = some (.int .i64 X)) (c1 : w.cell? ⟨q, 0, none⟩ = some (.int .i64 Y)) :
    Calls Tryd.prog 42 #[.int .i64 x, .int .i64 y, .pointer (some ⟨p, 0, none⟩), .pointer (some ⟨q, 0, none⟩)] w fun e w' => e = .returned (.tuple #[.int .i64 (X + x * 4 / 8), .int .i64 (Y + y * 4 / 8)]) ∧ Below w.heap.size w w' := by
  have e1 : IntKind.i64.wrap (x * 4) = x * 4 := IntWalk.i64_in _ (by omega)
  have e2 : IntKind.i64.wrap (y * 4) = y * 4 := IntWalk.i64_in _ (by omega)
  go_enter Tryd.func42, Tryd.ntmps42
  go_wp2_with fail
  go_quiet (fail)
  go_wp2
  go_ret2
  exact ⟨rfl, below_drewA (Below.refl _ _) _⟩

set_option maxRecDepth 100000 in
set_option maxHeartbeats 1000000 in
theorem codedNeg_any {s : Ers} {v : Value} {c : Int} (h : IsCode s v c) (f : Nat → Int) (w : World) (hE : ErrEnv s w) :
    Calls Tryd.prog 20 #[.agg (arrV .i16 64 f), v] w fun e w' => e = .returned (.tuple #[.agg (arrV .i16 64 f), .int .i64 c]) ∧ Below w.heap.size w w' := by
  have a1 := (HasArr.new w 26 .i16 64 f).alloc (.cells #[.int .i16 0, .int .i16 0, .int .i16 0, .int .i16 0, .int .i16 0, .int .i16 0, .int .i16 0, .int .i16 0, .int .i16 0, .int .i16 0, .int .i16 0, .int .i16 0, .int .i16 0, .int .i16 0, .int .i16 0, .int .i16 0, .int .i16 0, .int .i16 0, .int .i16 0, .int .i16 0, .int .i16 0, .int .i16 0, .int .i16 0, .int .i16 0, .int .i16 0, .int .i16 0, .int .i16 0, .int .i16 0, .int .i16 0, .int .i16 0, .int .i16 0, .int .i16 0, .int .i16 0, .int .i16 0, .int .i16 0, .int .i16 0, .int .i16 0, .int .i16 0, .int .i16 0, .int .i16 0, .int .i16 0, .int .i16 0, .int .i16 0, .int .i16 0, .int .i16 0, .int .i16 0, .int .i16 0, .int .i16 0, .int .i16 0, .int .i16 0, .int .i16 0, .int .i16 0, .int .i16 0, .int .i16 0, .int .i16 0, .int .i16 0, .int .i16 0, .int .i16 0, .int .i16 0, .int .i16 0, .int .i16 0, .int .i16 0, .int .i16 0, .int .i16 0] 26)
  have a2 := HasArr.zero (w.alloc (.cells (arrV .i16 64 f) 26)) 26 (b := w.heap.size + 1) (by simp)
  have k0 := ((Below.refl w.heap.size w).alloc (Nat.le_refl _) (.cells (arrV .i16 64 f) 26)).alloc (by simp) (.cells #[.int .i16 0, .int .i16 0, .int .i16 0, .int .i16 0, .int .i16 0, .int .i16 0, .int .i16 0, .int .i16 0, .int .i16 0, .int .i16 0, .int .i16 0, .int .i16 0, .int .i16 0, .int .i16 0, .int .i16 0, .int .i16 0, .int .i16 0, .int .i16 0, .int .i16 0, .int .i16 0, .int .i16 0, .int .i16 0, .int .i16 0, .int .i16 0, .int .i16 0, .int .i16 0, .int .i16 0, .int .i16 0, .int .i16 0, .int .i16 0, .int .i16 0, .int .i16 0, .int .i16 0, .int .i16 0, .int .i16 0, .int .i16 0, .int .i16 0, .int .i16 0, .int .i16 0, .int .i16 0, .int .i16 0, .int .i16 0, .int .i16 0, .int .i16 0, .int .i16 0, .int .i16 0, .int .i16 0, .int .i16 0, .int .i16 0, .int .i16 0, .int .i16 0, .int .i16 0, .int .i16 0, .int .i16 0, .int .i16 0, .int .i16 0, .int .i16 0, .int .i16 0, .int .i16 0, .int .i16 0, .int .i16 0, .int .i16 0, .int .i16 0, .int .i16 0] 26)
  go_enter Tryd.func20, Tryd.ntmps20
  go_wp2_with fail
  refine wp_region_quiet_tail 3 (fun w' => ∃ q, w' = ((w.alloc (.cells (arrV .i16 64 f) 26)).alloc (.cells #[.int .i16 0, .int .i16 0, .int .i16 0, .int .i16 0, .int .i16 0, .int .i16 0, .int .i16 0, .int .i16 0, .int .i16 0, .int .i16 0, .int .i16 0, .int .i16 0, .int .i16 0, .int .i16 0, .int .i16 0, .int .i16 0, .int .i16 0, .int .i16 0, .int .i16 0, .int .i16 0, .int .i16 0, .int .i16 0, .int .i16 0, .int .i16 0, .int .i16 0, .int .i16 0, .int .i16 0, .int .i16 0, .int .i16 0, .int .i16 0, .int .i16 0, .int .i16 0, .int .i16 0, .int .i16 0, .int .i16 0, .int .i16 0, .int .i16 0, .int .i16 0, .int .i16 0, .int .i16 0, .int .i16 0, .int .i16 0, .int .i16 0, .int .i16 0, .int .i16 0, .int .i16 0, .int .i16 0, .int .i16 0, .int .i16 0, .int .i16 0, .int .i16 0, .int .i16 0, .int .i16 0, .int .i16 0, .int .i16 0, .int .i16 0, .int .i16 0, .int .i16 0, .int .i16 0, .int .i16 0, .int .i16 0, .int .i16 0, .int .i16 0, .int .i16 0] 26)).drewN q) (by kernel_rfl) (by kernel_rfl) ⟨1, rfl⟩ ?_
  simp only [List.take_succ_cons, List.take_zero, List.drop_succ_cons, List.drop_zero]
  refine wpQuiet_load_arr (fun W hW => by obtain ⟨q, rfl⟩ := hW; exact a1.drewN q) 26 (.tmp 2) rfl rfl rfl Tryd.underlying26 sizeNeg ?_
  quiet_step (fail)
  refine BigFrame.wpQuiet_want (by rfl) fun K hK => ⟨.int .i64 c, fun W hW => ?_, hK _ ?_⟩
  · obtain ⟨q, rfl⟩ := hW
    go_simp
    exact (codeOf_any h _ (((hE.alloc _).alloc _).drewN q)).mono fun e w' ⟨he, hw⟩ => ⟨he, q, hw.symm⟩
  refine wpQuiet_nil ?_
  rintro _ ⟨q, rfl⟩
  go_wp2_with (refine wpList_store_arr (a2.drewN q) _ _ _ rfl rfl rfl rfl sizeNeg ?_)
  refine bodyPost_ret (v := .tuple #[.agg (arrV .i16 64 f), .int .i64 c]) ?_ rfl ⟨rfl, below_setRow (below_drewA k0 q) (by omega) _⟩
  exact results_row_tmp rfl _ _ _ _ _ _ _ rfl ((a2.drewN q).setRow .i16 f) Tryd.underlying26 rfl (by rw [arrV_size]; exact sizeNeg) _ rfl
/-! ### ARRANGED -/
/-- A test and its two ways. -/
theorem arr_no : (ngV false) = fun _ _ _ => 0 := rfl

/-- What a function hands out that gives a negative and an error. -/
def NegOut (s : Ers) (w : World) (ok : Bool) (g : Nat → Int) (c : Int) (e : Ending) (w' : World) : Prop :=
  ∃ h v, e = .returned (.tuple #[.agg (arrV .i16 64 h), v]) ∧ IsCode s v c ∧ (h = if ok = true then g else fun _ => 0) ∧ Below w.heap.size w w'

set_option maxRecDepth 100000 in
set_option maxHeartbeats 2000000 in
theorem arranged_MirrorNegative (f : Nat → Int) (p : Nat → Nat) (X Y : Nat → Int) (w : World) (hp : ∀ k, k < 64 → p k < 64 ∧ (0 ≤ X k ∧ X k ≤ 7) ∧ (0 ≤ Y k ∧ Y k ≤ 7) ∧ X k + 8 * Y k = (p k : Int))
    (hcl : ∀ k : Nat, k < 64 → ∀ W, Below w.heap.size w W → Calls Tryd.prog 22 #[.int .i64 ((k : Int) % 8), .int .i64 ((k : Int) / 8)] W fun e w' => e = .returned (.tuple #[.int .i64 (X k), .int .i64 (Y k)]) ∧ Below W.heap.size W w') :
    Calls Tryd.prog 38 #[.agg (arrV .i16 64 f), .func (.func 22) #[] #[]] w fun e w' => e = .returned (.agg (arrV .i16 64 fun k => f (p k))) ∧ Below w.heap.size w w' := by
  have a1 := ((HasArr.new w 65 .i16 64 f).alloc (.cells #[.int .i16 0, .int .i16 0, .int .i16 0, .int .i16 0, .int .i16 0, .int .i16 0, .int .i16 0, .int .i16 0, .int .i16 0, .int .i16 0, .int .i16 0, .int .i16 0, .int .i16 0, .int .i16 0, .int .i16 0, .int .i16 0, .int .i16 0, .int .i16 0, .int .i16 0, .int .i16 0, .int .i16 0, .int .i16 0, .int .i16 0, .int .i16 0, .int .i16 0, .int .i16 0, .int .i16 0, .int .i16 0, .int .i16 0, .int .i16 0, .int .i16 0, .int .i16 0, .int .i16 0, .int .i16 0, .int .i16 0, .int .i16 0, .int .i16 0, .int .i16 0, .int .i16 0, .int .i16 0, .int .i16 0, .int .i16 0, .int .i16 0, .int .i16 0, .int .i16 0, .int .i16 0, .int .i16 0, .int .i16 0, .int .i16 0, .int .i16 0, .int .i16 0, .int .i16 0, .int .i16 0, .int .i16 0, .int .i16 0, .int .i16 0, .int .i16 0, .int .i16 0, .int .i16 0, .int .i16 0, .int .i16 0, .int .i16 0, .int .i16 0, .int .i16 0] 65)).alloc (.cells #[.int .i16 0, .int .i16 0, .int .i16 0, .int .i16 0, .int .i16 0, .int .i16 0, .int .i16 0, .int .i16 0, .int .i16 0, .int .i16 0, .int .i16 0, .int .i16 0, .int .i16 0, .int .i16 0, .int .i16 0, .int .i16 0, .int .i16 0, .int .i16 0, .int .i16 0, .int .i16 0, .int .i16 0, .int .i16 0, .int .i16 0, .int .i16 0, .int .i16 0, .int .i16 0, .int .i16 0, .int .i16 0, .int .i16 0, .int .i16 0, .int .i16 0, .int .i16 0, .int .i16 0, .int .i16 0, .int .i16 0, .int .i16 0, .int .i16 0, .int .i16 0, .int .i16 0, .int .i16 0, .int .i16 0, .int .i16 0, .int .i16 0, .int .i16 0, .int .i16 0, .int .i16 0, .int .i16 0, .int .i16 0, .int .i16 0, .int .i16 0, .int .i16 0, .int .i16 0, .int .i16 0, .int .i16 0, .int .i16 0, .int .i16 0, .int .i16 0, .int .i16 0, .int .i16 0, .int .i16 0, .int .i16 0, .int .i16 0, .int .i16 0, .int .i16 0] 65)
  have a2 := (HasArr.zero (w.alloc (.cells (arrV .i16 64 f) 65)) 65 (b := w.heap.size + 1) (by simp)).alloc (.cells #[.int .i16 0, .int .i16 0, .int .i16 0, .int .i16 0, .int .i16 0, .int .i16 0, .int .i16 0, .int .i16 0, .int .i16 0, .int .i16 0, .int .i16 0, .int .i16 0, .int .i16 0, .int .i16 0, .int .i16 0, .int .i16 0, .int .i16 0, .int .i16 0, .int .i16 0, .int .i16 0, .int .i16 0, .int .i16 0, .int .i16 0, .int .i16 0, .int .i16 0, .int .i16 0, .int .i16 0, .int .i16 0, .int .i16 0, .int .i16 0, .int .i16 0, .int .i16 0, .int .i16 0, .int .i16 0, .int .i16 0, .int .i16 0, .int .i16 0, .int .i16 0, .int .i16 0, .int .i16 0, .int .i16 0, .int .i16 0, .int .i16 0, .int .i16 0, .int .i16 0, .int .i16 0, .int .i16 0, .int .i16 0, .int .i16 0, .int .i16 0, .int .i16 0, .int .i16 0, .int .i16 0, .int .i16 0, .int .i16 0, .int .i16 0, .int .i16 0, .int .i16 0, .int .i16 0, .int .i16 0, .int .i16 0, .int .i16 0, .int .i16 0, .int .i16 0] 65)
  have a3 := HasArr.zero ((w.alloc (.cells (arrV .i16 64 f) 65)).alloc (.cells #[.int .i16 0, .int .i16 0, .int .i16 0, .int .i16 0, .int .i16 0, .int .i16 0, .int .i16 0, .int .i16 0, .int .i16 0, .int .i16 0, .int .i16 0, .int .i16 0, .int .i16 0, .int .i16 0, .int .i16 0, .int .i16 0, .int .i16 0, .int .i16 0, .int .i16 0, .int .i16 0, .int .i16 0, .int .i16 0, .int .i16 0, .int .i16 0, .int .i16 0, .int .i16 0, .int .i16 0, .int .i16 0, .int .i16 0, .int .i16 0, .int .i16 0, .int .i16 0, .int .i16 0, .int .i16 0, .int .i16 0, .int .i16 0, .int .i16 0, .int .i16 0, .int .i16 0, .int .i16 0, .int .i16 0, .int .i16 0, .int .i16 0, .int .i16 0, .int .i16 0, .int .i16 0, .int .i16 0, .int .i16 0, .int .i16 0, .int .i16 0, .int .i16 0, .int .i16 0, .int .i16 0, .int .i16 0, .int .i16 0, .int .i16 0, .int .i16 0, .int .i16 0, .int .i16 0, .int .i16 0, .int .i16 0, .int .i16 0, .int .i16 0, .int .i16 0] 65)) 65 (b := w.heap.size + 1 + 1) (by simp)
  have k0 := (((Below.refl w.heap.size w).alloc (Nat.le_refl _) (.cells (arrV .i16 64 f) 65)).alloc (by simp) (.cells #[.int .i16 0, .int .i16 0, .int .i16 0, .int .i16 0, .int .i16 0, .int .i16 0, .int .i16 0, .int .i16 0, .int .i16 0, .int .i16 0, .int .i16 0, .int .i16 0, .int .i16 0, .int .i16 0, .int .i16 0, .int .i16 0, .int .i16 0, .int .i16 0, .int .i16 0, .int .i16 0, .int .i16 0, .int .i16 0, .int .i16 0, .int .i16 0, .int .i16 0, .int .i16 0, .int .i16 0, .int .i16 0, .int .i16 0, .int .i16 0, .int .i16 0, .int .i16 0, .int .i16 0, .int .i16 0, .int .i16 0, .int .i16 0, .int .i16 0, .int .i16 0, .int .i16 0, .int .i16 0, .int .i16 0, .int .i16 0, .int .i16 0, .int .i16 0, .int .i16 0, .int .i16 0, .int .i16 0, .int .i16 0, .int .i16 0, .int .i16 0, .int .i16 0, .int .i16 0, .int .i16 0, .int .i16 0, .int .i16 0, .int .i16 0, .int .i16 0, .int .i16 0, .int .i16 0, .int .i16 0, .int .i16 0, .int .i16 0, .int .i16 0, .int .i16 0] 65)).alloc (by simp; omega) (.cells #[.int .i16 0, .int .i16 0, .int .i16 0, .int .i16 0, .int .i16 0, .int .i16 0, .int .i16 0, .int .i16 0, .int .i16 0, .int .i16 0, .int .i16 0, .int .i16 0, .int .i16 0, .int .i16 0, .int .i16 0, .int .i16 0, .int .i16 0, .int .i16 0, .int .i16 0, .int .i16 0, .int .i16 0, .int .i16 0, .int .i16 0, .int .i16 0, .int .i16 0, .int .i16 0, .int .i16 0, .int .i16 0, .int .i16 0, .int .i16 0, .int .i16 0, .int .i16 0, .int .i16 0, .int .i16 0, .int .i16 0, .int .i16 0, .int .i16 0, .int .i16 0, .int .i16 0, .int .i16 0, .int .i16 0, .int .i16 0, .int .i16 0, .int .i16 0, .int .i16 0, .int .i16 0, .int .i16 0, .int .i16 0, .int .i16 0, .int .i16 0, .int .i16 0, .int .i16 0, .int .i16 0, .int .i16 0, .int .i16 0, .int .i16 0, .int .i16 0, .int .i16 0, .int .i16 0, .int .i16 0, .int .i16 0, .int .i16 0, .int .i16 0, .int .i16 0] 65)
  have c1 := a1.rowOther (b' := w.heap.size + 1 + 1) (by omega) (arrV .i16 64 fun _ => 0)
  have c2 := a2.rowOther (b' := w.heap.size + 1 + 1) (by omega) (arrV .i16 64 fun _ => 0)
  have c3 := (a3.setRow .i16 fun _ => 0).congr (fun j _ => mixFN_0 (fun k => f (p k)) (fun _ => 0) j)
  have k2 := below_setRow k0 (b := w.heap.size + 1 + 1) (by omega) (arrV .i16 64 fun _ => 0)
  have K0 := Lib.hid (And.intro c1 (And.intro c2 (And.intro c3 k2)))
  have Hcl := Lib.hid hcl
  have Hp := Lib.hid hp
  clear c1 c2 c3 k2 k0 a1 a2 hcl hp
  go_enter Tryd.func38, Tryd.ntmps38
  go_wp2_with (refine wpList_store_z a3 _ _ _ rfl rfl rfl rfl sizeCells ?_)
  clear a3
  go_loopw [8] (fun i wr => ∃ k : Nat, k ≤ 64 ∧ i = .int .i64 k ∧ HasArr wr w.heap.size 65 .i16 64 f ∧ HasArr wr (w.heap.size + 1) 65 .i16 64 (fun _ => 0) ∧ HasArr wr (w.heap.size + 1 + 1) 65 .i16 64 (mixFN (fun k => f (p k)) (fun _ => 0) k) ∧ Below w.heap.size w wr) (fun i _ => 64 - (intOf i).toNat)
  case atStart => exact ⟨0, by omega, rfl, K0.out⟩
  case round =>
    obtain ⟨k, hk, rfl, h1, h2, h3, hB⟩ := hrel
    by_cases hkn : k < 64
    · have hq := Hcl.out k hkn wr hB
      obtain ⟨hpk, hX, hY, hXY⟩ := Hp.out k hkn
      have hca : ∀ W, Calls Tryd.prog 52 #[.int .i64 (X k), .int .i64 (Y k)] W fun e w' => e = .returned (.int .i64 ((p k : Nat) : Int)) ∧ W = w' := fun W => by
        have h := cellAt_any (X k) (Y k) hX.1 hX.2 hY.1 hY.2 W
        rwa [hXY] at h
      have HR := Lib.hid (show ∀ j, upd (mixFN (fun k => f (p k)) (fun _ => 0) k) k (f (p k)) j = mixFN (fun k => f (p k)) (fun _ => 0) (k + 1) j from fun j => mixFN_step (fun k => f (p k)) (fun _ => 0) k j)
      clear hX hY hXY
      generalize X k = x at *
      generalize Y k = y at *
      generalize p k = m at *
      have Hq := Lib.hid hq; clear hq
      have Hca := Lib.hid hca; clear hca
      go_wp2_with fail
      refine Hq.out.mono ?_; rintro e w2 ⟨rfl, hb2⟩
      clear Hq
      have g1 := h1.below hb2 h1.lt
      have g2 := h2.below hb2 h2.lt
      have g3 := h3.below hb2 h3.lt
      have gB := hB.trans (hb2.mono hB.size)
      clear h1 h2 h3 hB hb2
      have c1 := g1.cell hpk
      have c3 := g3.cell hkn
      have f3 := g3.free k
      have k3 := (g3.set k (f m)).congr (fun j _ => HR.out j)
      have k2 := g2.other (a := ⟨w.heap.size + 1 + 1, k, none⟩) (by simp) (.int .i16 (f m))
      have k1 := g1.other (a := ⟨w.heap.size + 1 + 1, k, none⟩) (by simp; omega) (.int .i16 (f m))
      have kB := gB.setCell (p := ⟨w.heap.size + 1 + 1, k, none⟩) (by simp; omega) (.int .i16 (f m))
      have K := Lib.hid (And.intro k1 (And.intro k2 (And.intro k3 kB)))
      clear k1 k2 k3 kB g1 g2 g3 gB
      go_wp2_with fail
      refine (Hca.out _).mono ?_; rintro e w3 ⟨rfl, rfl⟩
      go_wp2
      go_roundw
      case rel => exact ⟨k + 1, by omega, by go_num, K.out⟩
      case measure => simp [intOf]; omega
    · obtain rfl : k = 64 := by omega
      have h3 := h3.congr (g := fun k => f (p k)) (fun j hj => mixFN_n _ _ hj)
      have h2' := h2.setRow .i16 (fun k => f (p k))
      have hB' := below_setRow hB (b := w.heap.size + 1) (by omega) (arrV .i16 64 fun k => f (p k))
      go_wp2_with (first | (refine wpList_load_arr h3 _ _ rfl rfl rfl Tryd.underlying65 sizeCells ?_) | (refine wpList_store_arr h2 _ _ _ rfl rfl rfl rfl sizeCells ?_))
      refine bodyPost_ret (v := .agg (arrV .i16 64 fun k => f (p k))) ?_ rfl ⟨rfl, hB'⟩
      exact results_cell_row rfl _ _ _ _ _ _ _ rfl h2' Tryd.underlying65 rfl (by rw [arrV_size]; exact sizeCells)

set_option maxRecDepth 100000 in
set_option maxHeartbeats 2000000 in
theorem arrangedNeg_MirrorNegative (s : Ers) (f : Nat → Int) (p : Nat → Nat) (X Y : Nat → Int) (w : World) (hE : ErrEnv s w) (hp : ∀ k, k < 64 → p k < 64 ∧ (0 ≤ X k ∧ X k ≤ 7) ∧ (0 ≤ Y k ∧ Y k ≤ 7) ∧ X k + 8 * Y k = (p k : Int))
    (hcl : ∀ k : Nat, k < 64 → ∀ W, Below w.heap.size w W → Calls Tryd.prog 22 #[.int .i64 ((k : Int) % 8), .int .i64 ((k : Int) / 8)] W fun e w' => e = .returned (.tuple #[.int .i64 (X k), .int .i64 (Y k)]) ∧ Below W.heap.size W w') :
    Calls Tryd.prog 21 #[.agg (arrV .i16 64 f), .func (.func 22) #[] #[]] w (NegOut s w (dnsB f) (fun k => f (p k)) (ngC (dnsB f))) := by
  have a1 := (HasArr.new w 26 .i16 64 f).alloc (.cells #[.int .i16 0, .int .i16 0, .int .i16 0, .int .i16 0, .int .i16 0, .int .i16 0, .int .i16 0, .int .i16 0, .int .i16 0, .int .i16 0, .int .i16 0, .int .i16 0, .int .i16 0, .int .i16 0, .int .i16 0, .int .i16 0, .int .i16 0, .int .i16 0, .int .i16 0, .int .i16 0, .int .i16 0, .int .i16 0, .int .i16 0, .int .i16 0, .int .i16 0, .int .i16 0, .int .i16 0, .int .i16 0, .int .i16 0, .int .i16 0, .int .i16 0, .int .i16 0, .int .i16 0, .int .i16 0, .int .i16 0, .int .i16 0, .int .i16 0, .int .i16 0, .int .i16 0, .int .i16 0, .int .i16 0, .int .i16 0, .int .i16 0, .int .i16 0, .int .i16 0, .int .i16 0, .int .i16 0, .int .i16 0, .int .i16 0, .int .i16 0, .int .i16 0, .int .i16 0, .int .i16 0, .int .i16 0, .int .i16 0, .int .i16 0, .int .i16 0, .int .i16 0, .int .i16 0, .int .i16 0, .int .i16 0, .int .i16 0, .int .i16 0, .int .i16 0] 26)
  have a2 := HasArr.zero (w.alloc (.cells (arrV .i16 64 f) 26)) 26 (b := w.heap.size + 1) (by simp)
  have k0 := ((Below.refl w.heap.size w).alloc (Nat.le_refl _) (.cells (arrV .i16 64 f) 26)).alloc (by simp) (.cells #[.int .i16 0, .int .i16 0, .int .i16 0, .int .i16 0, .int .i16 0, .int .i16 0, .int .i16 0, .int .i16 0, .int .i16 0, .int .i16 0, .int .i16 0, .int .i16 0, .int .i16 0, .int .i16 0, .int .i16 0, .int .i16 0, .int .i16 0, .int .i16 0, .int .i16 0, .int .i16 0, .int .i16 0, .int .i16 0, .int .i16 0, .int .i16 0, .int .i16 0, .int .i16 0, .int .i16 0, .int .i16 0, .int .i16 0, .int .i16 0, .int .i16 0, .int .i16 0, .int .i16 0, .int .i16 0, .int .i16 0, .int .i16 0, .int .i16 0, .int .i16 0, .int .i16 0, .int .i16 0, .int .i16 0, .int .i16 0, .int .i16 0, .int .i16 0, .int .i16 0, .int .i16 0, .int .i16 0, .int .i16 0, .int .i16 0, .int .i16 0, .int .i16 0, .int .i16 0, .int .i16 0, .int .i16 0, .int .i16 0, .int .i16 0, .int .i16 0, .int .i16 0, .int .i16 0, .int .i16 0, .int .i16 0, .int .i16 0, .int .i16 0, .int .i16 0] 26)
  have hd := fun W => ValidNegative_any f W
  rcases hv : dnsB f with _ | _
  · rw [hv] at hd
    have Hd := Lib.hid hd; clear hd hv hcl hp
    go_enter Tryd.func21, Tryd.ntmps21
    go_wp2_with (refine wpList_load_arr a1 _ _ rfl rfl rfl Tryd.underlying26 sizeNeg ?_)
    refine (Hd.out _).mono ?_; rintro e w1 ⟨rfl, hb1⟩
    clear Hd
    have b2 := a2.below hb1 a2.lt
    have k1 := k0.trans (hb1.mono k0.size)
    have ce := (hE.below k1 (Nat.le_refl _)).c_einvalid
    have hB := Lib.hid (below_setRow k1.drew (b := w.heap.size + 1) (by omega) (arrV .i16 64 fun _ => 0))
    have cg : (w1.drew.setRow (w.heap.size + 1) (arrV .i16 64 fun _ => 0)).cell? ⟨0, 0, none⟩ = some (errV s.einvalid) := (hE.below hB.out (Nat.le_refl _)).c_einvalid
    clear a1 a2 k0 hb1 k1
    go_wp2_with fail
    refine wp_region_any (by kernel_rfl) ?_
    refine wpAny_take (i := 0) (v := .agg #[.int .i16 0, .int .i16 0, .int .i16 0, .int .i16 0, .int .i16 0, .int .i16 0, .int .i16 0, .int .i16 0, .int .i16 0, .int .i16 0, .int .i16 0, .int .i16 0, .int .i16 0, .int .i16 0, .int .i16 0, .int .i16 0, .int .i16 0, .int .i16 0, .int .i16 0, .int .i16 0, .int .i16 0, .int .i16 0, .int .i16 0, .int .i16 0, .int .i16 0, .int .i16 0, .int .i16 0, .int .i16 0, .int .i16 0, .int .i16 0, .int .i16 0, .int .i16 0, .int .i16 0, .int .i16 0, .int .i16 0, .int .i16 0, .int .i16 0, .int .i16 0, .int .i16 0, .int .i16 0, .int .i16 0, .int .i16 0, .int .i16 0, .int .i16 0, .int .i16 0, .int .i16 0, .int .i16 0, .int .i16 0, .int .i16 0, .int .i16 0, .int .i16 0, .int .i16 0, .int .i16 0, .int .i16 0, .int .i16 0, .int .i16 0, .int .i16 0, .int .i16 0, .int .i16 0, .int .i16 0, .int .i16 0, .int .i16 0, .int .i16 0, .int .i16 0]) rfl (by kernel_rfl) (by kernel_rfl) (by kernel_rfl) (fun _ _ _ h => h) (Or.inl ⟨by rfl, by intro w; go_simp⟩) ?_
    change wpAny _ _ _ _ _ _ _ (World.drew _)
    refine wpAny_ready (rs := [1, 2]) (by kernel_rfl) (by simp) ?_
    refine AllReady.cons rfl (fun K hK => ?_) (AllReady.cons rfl (fun K hK => ?_) AllReady.nil)
    · go_simp
      refine hK _ _ ?_; clear hK K
      refine wpAny_ready (rs := [2]) (by kernel_rfl) (by simp) ?_
      refine AllReady.cons rfl (fun K hK => ?_) AllReady.nil
      refine step_store_z b2.drew rfl _ _ _ rfl rfl rfl sizeNeg ?_
      refine hK _ _ ?_; clear hK K
      refine wpAny_ready (rs := [3]) (by kernel_rfl) (by simp) ?_
      refine AllReady.cons rfl (fun K hK => ?_) AllReady.nil
      go_simp
      refine hK _ _ ?_; clear hK K
      refine wpAny_done (by kernel_rfl) ?_ _
      go_wp2
      refine bodyPost_ret (v := .tuple #[.agg (arrV .i16 64 (fun _ => 0)), errV s.einvalid]) ?_ rfl ⟨_, _, rfl, .einvalid, rfl, hB.out⟩
      exact results_row_tmp rfl _ _ _ _ _ _ _ rfl (b2.drew.setRow .i16 fun _ => 0) Tryd.underlying26 rfl (by rw [arrV_size]; exact sizeNeg) _ rfl
    · refine step_store_z b2.drew rfl _ _ _ rfl rfl rfl sizeNeg ?_
      refine hK _ _ ?_; clear hK K
      refine wpAny_ready (rs := [1]) (by kernel_rfl) (by simp) ?_
      refine AllReady.cons rfl (fun K hK => ?_) AllReady.nil
      go_simp
      refine hK _ _ ?_; clear hK K
      refine wpAny_ready (rs := [3]) (by kernel_rfl) (by simp) ?_
      refine AllReady.cons rfl (fun K hK => ?_) AllReady.nil
      go_simp
      refine hK _ _ ?_; clear hK K
      refine wpAny_done (by kernel_rfl) ?_ _
      go_wp2
      refine bodyPost_ret (v := .tuple #[.agg (arrV .i16 64 (fun _ => 0)), errV s.einvalid]) ?_ rfl ⟨_, _, rfl, .einvalid, rfl, hB.out⟩
      exact results_row_tmp rfl _ _ _ _ _ _ _ rfl (b2.drew.setRow .i16 fun _ => 0) Tryd.underlying26 rfl (by rw [arrV_size]; exact sizeNeg) _ rfl
  · rw [hv] at hd
    have Hd := Lib.hid hd; clear hd hv
    have har := fun W hW => arranged_MirrorNegative f p X Y W hp (fun k hk W' hW' => hcl k hk W' (Below.trans hW (Below.mono hW' hW.size)))
    have Har := Lib.hid har; clear har hcl hp
    go_enter Tryd.func21, Tryd.ntmps21
    go_wp2_with (refine wpList_load_arr a1 _ _ rfl rfl rfl Tryd.underlying26 sizeNeg ?_)
    refine (Hd.out _).mono ?_; rintro e w1 ⟨rfl, hb1⟩
    clear Hd
    have b1 := a1.below hb1 a1.lt
    have b2 := a2.below hb1 a2.lt
    have k1 := k0.trans (hb1.mono k0.size)
    clear a1 a2 k0 hb1
    go_wp2_with (refine wpList_load_arr b1 _ _ rfl rfl rfl Tryd.underlying26 sizeNeg ?_)
    refine (Har.out _ k1).mono ?_; rintro e w2 ⟨rfl, hb2⟩
    clear Har b1
    have c2 := b2.below hb2 b2.lt
    have k2 := k1.trans (hb2.mono k1.size)
    clear b2 k1 hb2
    go_wp2_with (refine wpList_store_arr c2 _ _ _ rfl rfl rfl rfl sizeNeg ?_)
    refine bodyPost_ret (v := .tuple #[.agg (arrV .i16 64 (fun k => f (p k))), .nilIface]) ?_ rfl ⟨_, _, rfl, .ok, rfl, below_setRow k2 (by omega) _⟩
    exact results_row_tmp rfl _ _ _ _ _ _ _ rfl (c2.setRow .i16 fun k => f (p k)) Tryd.underlying26 rfl (by rw [arrV_size]; exact sizeNeg) _ rfl

set_option maxRecDepth 100000 in
set_option maxHeartbeats 2000000 in
theorem arranged_TurnNegative (f : Nat → Int) (p : Nat → Nat) (X Y : Nat → Int) (w : World) (hp : ∀ k, k < 64 → p k < 64 ∧ (0 ≤ X k ∧ X k ≤ 7) ∧ (0 ≤ Y k ∧ Y k ≤ 7) ∧ X k + 8 * Y k = (p k : Int))
    (hcl : ∀ k : Nat, k < 64 → ∀ W, Below w.heap.size w W → Calls Tryd.prog 24 #[.int .i64 ((k : Int) % 8), .int .i64 ((k : Int) / 8)] W fun e w' => e = .returned (.tuple #[.int .i64 (X k), .int .i64 (Y k)]) ∧ Below W.heap.size W w') :
    Calls Tryd.prog 38 #[.agg (arrV .i16 64 f), .func (.func 24) #[] #[]] w fun e w' => e = .returned (.agg (arrV .i16 64 fun k => f (p k))) ∧ Below w.heap.size w w' := by
  have a1 := ((HasArr.new w 65 .i16 64 f).alloc (.cells #[.int .i16 0, .int .i16 0, .int .i16 0, .int .i16 0, .int .i16 0, .int .i16 0, .int .i16 0, .int .i16 0, .int .i16 0, .int .i16 0, .int .i16 0, .int .i16 0, .int .i16 0, .int .i16 0, .int .i16 0, .int .i16 0, .int .i16 0, .int .i16 0, .int .i16 0, .int .i16 0, .int .i16 0, .int .i16 0, .int .i16 0, .int .i16 0, .int .i16 0, .int .i16 0, .int .i16 0, .int .i16 0, .int .i16 0, .int .i16 0, .int .i16 0, .int .i16 0, .int .i16 0, .int .i16 0, .int .i16 0, .int .i16 0, .int .i16 0, .int .i16 0, .int .i16 0, .int .i16 0, .int .i16 0, .int .i16 0, .int .i16 0, .int .i16 0, .int .i16 0, .int .i16 0, .int .i16 0, .int .i16 0, .int .i16 0, .int .i16 0, .int .i16 0, .int .i16 0, .int .i16 0, .int .i16 0, .int .i16 0, .int .i16 0, .int .i16 0, .int .i16 0, .int .i16 0, .int .i16 0, .int .i16 0, .int .i16 0, .int .i16 0, .int .i16 0] 65)).alloc (.cells #[.int .i16 0, .int .i16 0, .int .i16 0, .int .i16 0, .int .i16 0, .int .i16 0, .int .i16 0, .int .i16 0, .int .i16 0, .int .i16 0, .int .i16 0, .int .i16 0, .int .i16 0, .int .i16 0, .int .i16 0, .int .i16 0, .int .i16 0, .int .i16 0, .int .i16 0, .int .i16 0, .int .i16 0, .int .i16 0, .int .i16 0, .int .i16 0, .int .i16 0, .int .i16 0, .int .i16 0, .int .i16 0, .int .i16 0, .int .i16 0, .int .i16 0, .int .i16 0, .int .i16 0, .int .i16 0, .int .i16 0, .int .i16 0, .int .i16 0, .int .i16 0, .int .i16 0, .int .i16 0, .int .i16 0, .int .i16 0, .int .i16 0, .int .i16 0, .int .i16 0, .int .i16 0, .int .i16 0, .int .i16 0, .int .i16 0, .int .i16 0, .int .i16 0, .int .i16 0, .int .i16 0, .int .i16 0, .int .i16 0, .int .i16 0, .int .i16 0, .int .i16 0, .int .i16 0, .int .i16 0, .int .i16 0, .int .i16 0, .int .i16 0, .int .i16 0] 65)
  have a2 := (HasArr.zero (w.alloc (.cells (arrV .i16 64 f) 65)) 65 (b := w.heap.size + 1) (by simp)).alloc (.cells #[.int .i16 0, .int .i16 0, .int .i16 0, .int .i16 0, .int .i16 0, .int .i16 0, .int .i16 0, .int .i16 0, .int .i16 0, .int .i16 0, .int .i16 0, .int .i16 0, .int .i16 0, .int .i16 0, .int .i16 0, .int .i16 0, .int .i16 0, .int .i16 0, .int .i16 0, .int .i16 0, .int .i16 0, .int .i16 0, .int .i16 0, .int .i16 0, .int .i16 0, .int .i16 0, .int .i16 0, .int .i16 0, .int .i16 0, .int .i16 0, .int .i16 0, .int .i16 0, .int .i16 0, .int .i16 0, .int .i16 0, .int .i16 0, .int .i16 0, .int .i16 0, .int .i16 0, .int .i16 0, .int .i16 0, .int .i16 0, .int .i16 0, .int .i16 0, .int .i16 0, .int .i16 0, .int .i16 0, .int .i16 0, .int .i16 0, .int .i16 0, .int .i16 0, .int .i16 0, .int .i16 0, .int .i16 0, .int .i16 0, .int .i16 0, .int .i16 0, .int .i16 0, .int .i16 0, .int .i16 0, .int .i16 0, .int .i16 0, .int .i16 0, .int .i16 0] 65)
  have a3 := HasArr.zero ((w.alloc (.cells (arrV .i16 64 f) 65)).alloc (.cells #[.int .i16 0, .int .i16 0, .int .i16 0, .int .i16 0, .int .i16 0, .int .i16 0, .int .i16 0, .int .i16 0, .int .i16 0, .int .i16 0, .int .i16 0, .int .i16 0, .int .i16 0, .int .i16 0, .int .i16 0, .int .i16 0, .int .i16 0, .int .i16 0, .int .i16 0, .int .i16 0, .int .i16 0, .int .i16 0, .int .i16 0, .int .i16 0, .int .i16 0, .int .i16 0, .int .i16 0, .int .i16 0, .int .i16 0, .int .i16 0, .int .i16 0, .int .i16 0, .int .i16 0, .int .i16 0, .int .i16 0, .int .i16 0, .int .i16 0, .int .i16 0, .int .i16 0, .int .i16 0, .int .i16 0, .int .i16 0, .int .i16 0, .int .i16 0, .int .i16 0, .int .i16 0, .int .i16 0, .int .i16 0, .int .i16 0, .int .i16 0, .int .i16 0, .int .i16 0, .int .i16 0, .int .i16 0, .int .i16 0, .int .i16 0, .int .i16 0, .int .i16 0, .int .i16 0, .int .i16 0, .int .i16 0, .int .i16 0, .int .i16 0, .int .i16 0] 65)) 65 (b := w.heap.size + 1 + 1) (by simp)
  have k0 := (((Below.refl w.heap.size w).alloc (Nat.le_refl _) (.cells (arrV .i16 64 f) 65)).alloc (by simp) (.cells #[.int .i16 0, .int .i16 0, .int .i16 0, .int .i16 0, .int .i16 0, .int .i16 0, .int .i16 0, .int .i16 0, .int .i16 0, .int .i16 0, .int .i16 0, .int .i16 0, .int .i16 0, .int .i16 0, .int .i16 0, .int .i16 0, .int .i16 0, .int .i16 0, .int .i16 0, .int .i16 0, .int .i16 0, .int .i16 0, .int .i16 0, .int .i16 0, .int .i16 0, .int .i16 0, .int .i16 0, .int .i16 0, .int .i16 0, .int .i16 0, .int .i16 0, .int .i16 0, .int .i16 0, .int .i16 0, .int .i16 0, .int .i16 0, .int .i16 0, .int .i16 0, .int .i16 0, .int .i16 0, .int .i16 0, .int .i16 0, .int .i16 0, .int .i16 0, .int .i16 0, .int .i16 0, .int .i16 0, .int .i16 0, .int .i16 0, .int .i16 0, .int .i16 0, .int .i16 0, .int .i16 0, .int .i16 0, .int .i16 0, .int .i16 0, .int .i16 0, .int .i16 0, .int .i16 0, .int .i16 0, .int .i16 0, .int .i16 0, .int .i16 0, .int .i16 0] 65)).alloc (by simp; omega) (.cells #[.int .i16 0, .int .i16 0, .int .i16 0, .int .i16 0, .int .i16 0, .int .i16 0, .int .i16 0, .int .i16 0, .int .i16 0, .int .i16 0, .int .i16 0, .int .i16 0, .int .i16 0, .int .i16 0, .int .i16 0, .int .i16 0, .int .i16 0, .int .i16 0, .int .i16 0, .int .i16 0, .int .i16 0, .int .i16 0, .int .i16 0, .int .i16 0, .int .i16 0, .int .i16 0, .int .i16 0, .int .i16 0, .int .i16 0, .int .i16 0, .int .i16 0, .int .i16 0, .int .i16 0, .int .i16 0, .int .i16 0, .int .i16 0, .int .i16 0, .int .i16 0, .int .i16 0, .int .i16 0, .int .i16 0, .int .i16 0, .int .i16 0, .int .i16 0, .int .i16 0, .int .i16 0, .int .i16 0, .int .i16 0, .int .i16 0, .int .i16 0, .int .i16 0, .int .i16 0, .int .i16 0, .int .i16 0, .int .i16 0, .int .i16 0, .int .i16 0, .int .i16 0, .int .i16 0, .int .i16 0, .int .i16 0, .int .i16 0, .int .i16 0, .int .i16 0] 65)
  have c1 := a1.rowOther (b' := w.heap.size + 1 + 1) (by omega) (arrV .i16 64 fun _ => 0)
  have c2 := a2.rowOther (b' := w.heap.size + 1 + 1) (by omega) (arrV .i16 64 fun _ => 0)
  have c3 := (a3.setRow .i16 fun _ => 0).congr (fun j _ => mixFN_0 (fun k => f (p k)) (fun _ => 0) j)
  have k2 := below_setRow k0 (b := w.heap.size + 1 + 1) (by omega) (arrV .i16 64 fun _ => 0)
  have K0 := Lib.hid (And.intro c1 (And.intro c2 (And.intro c3 k2)))
  have Hcl := Lib.hid hcl
  have Hp := Lib.hid hp
  clear c1 c2 c3 k2 k0 a1 a2 hcl hp
  go_enter Tryd.func38, Tryd.ntmps38
  go_wp2_with (refine wpList_store_z a3 _ _ _ rfl rfl rfl rfl sizeCells ?_)
  clear a3
  go_loopw [8] (fun i wr => ∃ k : Nat, k ≤ 64 ∧ i = .int .i64 k ∧ HasArr wr w.heap.size 65 .i16 64 f ∧ HasArr wr (w.heap.size + 1) 65 .i16 64 (fun _ => 0) ∧ HasArr wr (w.heap.size + 1 + 1) 65 .i16 64 (mixFN (fun k => f (p k)) (fun _ => 0) k) ∧ Below w.heap.size w wr) (fun i _ => 64 - (intOf i).toNat)
  case atStart => exact ⟨0, by omega, rfl, K0.out⟩
  case round =>
    obtain ⟨k, hk, rfl, h1, h2, h3, hB⟩ := hrel
    by_cases hkn : k < 64
    · have hq := Hcl.out k hkn wr hB
      obtain ⟨hpk, hX, hY, hXY⟩ := Hp.out k hkn
      have hca : ∀ W, Calls Tryd.prog 52 #[.int .i64 (X k), .int .i64 (Y k)] W fun e w' => e = .returned (.int .i64 ((p k : Nat) : Int)) ∧ W = w' := fun W => by
        have h := cellAt_any (X k) (Y k) hX.1 hX.2 hY.1 hY.2 W
        rwa [hXY] at h
      have HR := Lib.hid (show ∀ j, upd (mixFN (fun k => f (p k)) (fun _ => 0) k) k (f (p k)) j = mixFN (fun k => f (p k)) (fun _ => 0) (k + 1) j from fun j => mixFN_step (fun k => f (p k)) (fun _ => 0) k j)
      clear hX hY hXY
      generalize X k = x at *
      generalize Y k = y at *
      generalize p k = m at *
      have Hq := Lib.hid hq; clear hq
      have Hca := Lib.hid hca; clear hca
      go_wp2_with fail
      refine Hq.out.mono ?_; rintro e w2 ⟨rfl, hb2⟩
      clear Hq
      have g1 := h1.below hb2 h1.lt
      have g2 := h2.below hb2 h2.lt
      have g3 := h3.below hb2 h3.lt
      have gB := hB.trans (hb2.mono hB.size)
      clear h1 h2 h3 hB hb2
      have c1 := g1.cell hpk
      have c3 := g3.cell hkn
      have f3 := g3.free k
      have k3 := (g3.set k (f m)).congr (fun j _ => HR.out j)
      have k2 := g2.other (a := ⟨w.heap.size + 1 + 1, k, none⟩) (by simp) (.int .i16 (f m))
      have k1 := g1.other (a := ⟨w.heap.size + 1 + 1, k, none⟩) (by simp; omega) (.int .i16 (f m))
      have kB := gB.setCell (p := ⟨w.heap.size + 1 + 1, k, none⟩) (by simp; omega) (.int .i16 (f m))
      have K := Lib.hid (And.intro k1 (And.intro k2 (And.intro k3 kB)))
      clear k1 k2 k3 kB g1 g2 g3 gB
      go_wp2_with fail
      refine (Hca.out _).mono ?_; rintro e w3 ⟨rfl, rfl⟩
      go_wp2
      go_roundw
      case rel => exact ⟨k + 1, by omega, by go_num, K.out⟩
      case measure => simp [intOf]; omega
    · obtain rfl : k = 64 := by omega
      have h3 := h3.congr (g := fun k => f (p k)) (fun j hj => mixFN_n _ _ hj)
      have h2' := h2.setRow .i16 (fun k => f (p k))
      have hB' := below_setRow hB (b := w.heap.size + 1) (by omega) (arrV .i16 64 fun k => f (p k))
      go_wp2_with (first | (refine wpList_load_arr h3 _ _ rfl rfl rfl Tryd.underlying65 sizeCells ?_) | (refine wpList_store_arr h2 _ _ _ rfl rfl rfl rfl sizeCells ?_))
      refine bodyPost_ret (v := .agg (arrV .i16 64 fun k => f (p k))) ?_ rfl ⟨rfl, hB'⟩
      exact results_cell_row rfl _ _ _ _ _ _ _ rfl h2' Tryd.underlying65 rfl (by rw [arrV_size]; exact sizeCells)

set_option maxRecDepth 100000 in
set_option maxHeartbeats 2000000 in
theorem arrangedNeg_TurnNegative (s : Ers) (f : Nat → Int) (p : Nat → Nat) (X Y : Nat → Int) (w : World) (hE : ErrEnv s w) (hp : ∀ k, k < 64 → p k < 64 ∧ (0 ≤ X k ∧ X k ≤ 7) ∧ (0 ≤ Y k ∧ Y k ≤ 7) ∧ X k + 8 * Y k = (p k : Int))
    (hcl : ∀ k : Nat, k < 64 → ∀ W, Below w.heap.size w W → Calls Tryd.prog 24 #[.int .i64 ((k : Int) % 8), .int .i64 ((k : Int) / 8)] W fun e w' => e = .returned (.tuple #[.int .i64 (X k), .int .i64 (Y k)]) ∧ Below W.heap.size W w') :
    Calls Tryd.prog 21 #[.agg (arrV .i16 64 f), .func (.func 24) #[] #[]] w (NegOut s w (dnsB f) (fun k => f (p k)) (ngC (dnsB f))) := by
  have a1 := (HasArr.new w 26 .i16 64 f).alloc (.cells #[.int .i16 0, .int .i16 0, .int .i16 0, .int .i16 0, .int .i16 0, .int .i16 0, .int .i16 0, .int .i16 0, .int .i16 0, .int .i16 0, .int .i16 0, .int .i16 0, .int .i16 0, .int .i16 0, .int .i16 0, .int .i16 0, .int .i16 0, .int .i16 0, .int .i16 0, .int .i16 0, .int .i16 0, .int .i16 0, .int .i16 0, .int .i16 0, .int .i16 0, .int .i16 0, .int .i16 0, .int .i16 0, .int .i16 0, .int .i16 0, .int .i16 0, .int .i16 0, .int .i16 0, .int .i16 0, .int .i16 0, .int .i16 0, .int .i16 0, .int .i16 0, .int .i16 0, .int .i16 0, .int .i16 0, .int .i16 0, .int .i16 0, .int .i16 0, .int .i16 0, .int .i16 0, .int .i16 0, .int .i16 0, .int .i16 0, .int .i16 0, .int .i16 0, .int .i16 0, .int .i16 0, .int .i16 0, .int .i16 0, .int .i16 0, .int .i16 0, .int .i16 0, .int .i16 0, .int .i16 0, .int .i16 0, .int .i16 0, .int .i16 0, .int .i16 0] 26)
  have a2 := HasArr.zero (w.alloc (.cells (arrV .i16 64 f) 26)) 26 (b := w.heap.size + 1) (by simp)
  have k0 := ((Below.refl w.heap.size w).alloc (Nat.le_refl _) (.cells (arrV .i16 64 f) 26)).alloc (by simp) (.cells #[.int .i16 0, .int .i16 0, .int .i16 0, .int .i16 0, .int .i16 0, .int .i16 0, .int .i16 0, .int .i16 0, .int .i16 0, .int .i16 0, .int .i16 0, .int .i16 0, .int .i16 0, .int .i16 0, .int .i16 0, .int .i16 0, .int .i16 0, .int .i16 0, .int .i16 0, .int .i16 0, .int .i16 0, .int .i16 0, .int .i16 0, .int .i16 0, .int .i16 0, .int .i16 0, .int .i16 0, .int .i16 0, .int .i16 0, .int .i16 0, .int .i16 0, .int .i16 0, .int .i16 0, .int .i16 0, .int .i16 0, .int .i16 0, .int .i16 0, .int .i16 0, .int .i16 0, .int .i16 0, .int .i16 0, .int .i16 0, .int .i16 0, .int .i16 0, .int .i16 0, .int .i16 0, .int .i16 0, .int .i16 0, .int .i16 0, .int .i16 0, .int .i16 0, .int .i16 0, .int .i16 0, .int .i16 0, .int .i16 0, .int .i16 0, .int .i16 0, .int .i16 0, .int .i16 0, .int .i16 0, .int .i16 0, .int .i16 0, .int .i16 0, .int .i16 0] 26)
  have hd := fun W => ValidNegative_any f W
  rcases hv : dnsB f with _ | _
  · rw [hv] at hd
    have Hd := Lib.hid hd; clear hd hv hcl hp
    go_enter Tryd.func21, Tryd.ntmps21
    go_wp2_with (refine wpList_load_arr a1 _ _ rfl rfl rfl Tryd.underlying26 sizeNeg ?_)
    refine (Hd.out _).mono ?_; rintro e w1 ⟨rfl, hb1⟩
    clear Hd
    have b2 := a2.below hb1 a2.lt
    have k1 := k0.trans (hb1.mono k0.size)
    have ce := (hE.below k1 (Nat.le_refl _)).c_einvalid
    have hB := Lib.hid (below_setRow k1.drew (b := w.heap.size + 1) (by omega) (arrV .i16 64 fun _ => 0))
    have cg : (w1.drew.setRow (w.heap.size + 1) (arrV .i16 64 fun _ => 0)).cell? ⟨0, 0, none⟩ = some (errV s.einvalid) := (hE.below hB.out (Nat.le_refl _)).c_einvalid
    clear a1 a2 k0 hb1 k1
    go_wp2_with fail
    refine wp_region_any (by kernel_rfl) ?_
    refine wpAny_take (i := 0) (v := .agg #[.int .i16 0, .int .i16 0, .int .i16 0, .int .i16 0, .int .i16 0, .int .i16 0, .int .i16 0, .int .i16 0, .int .i16 0, .int .i16 0, .int .i16 0, .int .i16 0, .int .i16 0, .int .i16 0, .int .i16 0, .int .i16 0, .int .i16 0, .int .i16 0, .int .i16 0, .int .i16 0, .int .i16 0, .int .i16 0, .int .i16 0, .int .i16 0, .int .i16 0, .int .i16 0, .int .i16 0, .int .i16 0, .int .i16 0, .int .i16 0, .int .i16 0, .int .i16 0, .int .i16 0, .int .i16 0, .int .i16 0, .int .i16 0, .int .i16 0, .int .i16 0, .int .i16 0, .int .i16 0, .int .i16 0, .int .i16 0, .int .i16 0, .int .i16 0, .int .i16 0, .int .i16 0, .int .i16 0, .int .i16 0, .int .i16 0, .int .i16 0, .int .i16 0, .int .i16 0, .int .i16 0, .int .i16 0, .int .i16 0, .int .i16 0, .int .i16 0, .int .i16 0, .int .i16 0, .int .i16 0, .int .i16 0, .int .i16 0, .int .i16 0, .int .i16 0]) rfl (by kernel_rfl) (by kernel_rfl) (by kernel_rfl) (fun _ _ _ h => h) (Or.inl ⟨by rfl, by intro w; go_simp⟩) ?_
    change wpAny _ _ _ _ _ _ _ (World.drew _)
    refine wpAny_ready (rs := [1, 2]) (by kernel_rfl) (by simp) ?_
    refine AllReady.cons rfl (fun K hK => ?_) (AllReady.cons rfl (fun K hK => ?_) AllReady.nil)
    · go_simp
      refine hK _ _ ?_; clear hK K
      refine wpAny_ready (rs := [2]) (by kernel_rfl) (by simp) ?_
      refine AllReady.cons rfl (fun K hK => ?_) AllReady.nil
      refine step_store_z b2.drew rfl _ _ _ rfl rfl rfl sizeNeg ?_
      refine hK _ _ ?_; clear hK K
      refine wpAny_ready (rs := [3]) (by kernel_rfl) (by simp) ?_
      refine AllReady.cons rfl (fun K hK => ?_) AllReady.nil
      go_simp
      refine hK _ _ ?_; clear hK K
      refine wpAny_done (by kernel_rfl) ?_ _
      go_wp2
      refine bodyPost_ret (v := .tuple #[.agg (arrV .i16 64 (fun _ => 0)), errV s.einvalid]) ?_ rfl ⟨_, _, rfl, .einvalid, rfl, hB.out⟩
      exact results_row_tmp rfl _ _ _ _ _ _ _ rfl (b2.drew.setRow .i16 fun _ => 0) Tryd.underlying26 rfl (by rw [arrV_size]; exact sizeNeg) _ rfl
    · refine step_store_z b2.drew rfl _ _ _ rfl rfl rfl sizeNeg ?_
      refine hK _ _ ?_; clear hK K
      refine wpAny_ready (rs := [1]) (by kernel_rfl) (by simp) ?_
      refine AllReady.cons rfl (fun K hK => ?_) AllReady.nil
      go_simp
      refine hK _ _ ?_; clear hK K
      refine wpAny_ready (rs := [3]) (by kernel_rfl) (by simp) ?_
      refine AllReady.cons rfl (fun K hK => ?_) AllReady.nil
      go_simp
      refine hK _ _ ?_; clear hK K
      refine wpAny_done (by kernel_rfl) ?_ _
      go_wp2
      refine bodyPost_ret (v := .tuple #[.agg (arrV .i16 64 (fun _ => 0)), errV s.einvalid]) ?_ rfl ⟨_, _, rfl, .einvalid, rfl, hB.out⟩
      exact results_row_tmp rfl _ _ _ _ _ _ _ rfl (b2.drew.setRow .i16 fun _ => 0) Tryd.underlying26 rfl (by rw [arrV_size]; exact sizeNeg) _ rfl
  · rw [hv] at hd
    have Hd := Lib.hid hd; clear hd hv
    have har := fun W hW => arranged_TurnNegative f p X Y W hp (fun k hk W' hW' => hcl k hk W' (Below.trans hW (Below.mono hW' hW.size)))
    have Har := Lib.hid har; clear har hcl hp
    go_enter Tryd.func21, Tryd.ntmps21
    go_wp2_with (refine wpList_load_arr a1 _ _ rfl rfl rfl Tryd.underlying26 sizeNeg ?_)
    refine (Hd.out _).mono ?_; rintro e w1 ⟨rfl, hb1⟩
    clear Hd
    have b1 := a1.below hb1 a1.lt
    have b2 := a2.below hb1 a2.lt
    have k1 := k0.trans (hb1.mono k0.size)
    clear a1 a2 k0 hb1
    go_wp2_with (refine wpList_load_arr b1 _ _ rfl rfl rfl Tryd.underlying26 sizeNeg ?_)
    refine (Har.out _ k1).mono ?_; rintro e w2 ⟨rfl, hb2⟩
    clear Har b1
    have c2 := b2.below hb2 b2.lt
    have k2 := k1.trans (hb2.mono k1.size)
    clear b2 k1 hb2
    go_wp2_with (refine wpList_store_arr c2 _ _ _ rfl rfl rfl rfl sizeNeg ?_)
    refine bodyPost_ret (v := .tuple #[.agg (arrV .i16 64 (fun k => f (p k))), .nilIface]) ?_ rfl ⟨_, _, rfl, .ok, rfl, below_setRow k2 (by omega) _⟩
    exact results_row_tmp rfl _ _ _ _ _ _ _ rfl (c2.setRow .i16 fun k => f (p k)) Tryd.underlying26 rfl (by rw [arrV_size]; exact sizeNeg) _ rfl

set_option maxRecDepth 100000 in
set_option maxHeartbeats 2000000 in
theorem arranged_enlargePart (f : Nat → Int) (p : Nat → Nat) (X Y : Nat → Int) (a b : Nat) (w : World) (hp : ∀ k, k < 64 → p k < 64 ∧ (0 ≤ X k ∧ X k ≤ 7) ∧ (0 ≤ Y k ∧ Y k ≤ 7) ∧ X k + 8 * Y k = (p k : Int))
    (hcl : ∀ k : Nat, k < 64 → ∀ W, Below w.heap.size w W → Calls Tryd.prog 42 #[.int .i64 ((k : Int) % 8), .int .i64 ((k : Int) / 8), .pointer (some ⟨a, 0, none⟩), .pointer (some ⟨b, 0, none⟩)] W fun e w' => e = .returned (.tuple #[.int .i64 (X k), .int .i64 (Y k)]) ∧ Below W.heap.size W w') :
    Calls Tryd.prog 38 #[.agg (arrV .i16 64 f), .func (.func 42) #[] #[.pointer (some ⟨a, 0, none⟩), .pointer (some ⟨b, 0, none⟩)]] w fun e w' => e = .returned (.agg (arrV .i16 64 fun k => f (p k))) ∧ Below w.heap.size w w' := by
  have a1 := ((HasArr.new w 65 .i16 64 f).alloc (.cells #[.int .i16 0, .int .i16 0, .int .i16 0, .int .i16 0, .int .i16 0, .int .i16 0, .int .i16 0, .int .i16 0, .int .i16 0, .int .i16 0, .int .i16 0, .int .i16 0, .int .i16 0, .int .i16 0, .int .i16 0, .int .i16 0, .int .i16 0, .int .i16 0, .int .i16 0, .int .i16 0, .int .i16 0, .int .i16 0, .int .i16 0, .int .i16 0, .int .i16 0, .int .i16 0, .int .i16 0, .int .i16 0, .int .i16 0, .int .i16 0, .int .i16 0, .int .i16 0, .int .i16 0, .int .i16 0, .int .i16 0, .int .i16 0, .int .i16 0, .int .i16 0, .int .i16 0, .int .i16 0, .int .i16 0, .int .i16 0, .int .i16 0, .int .i16 0, .int .i16 0, .int .i16 0, .int .i16 0, .int .i16 0, .int .i16 0, .int .i16 0, .int .i16 0, .int .i16 0, .int .i16 0, .int .i16 0, .int .i16 0, .int .i16 0, .int .i16 0, .int .i16 0, .int .i16 0, .int .i16 0, .int .i16 0, .int .i16 0, .int .i16 0, .int .i16 0] 65)).alloc (.cells #[.int .i16 0, .int .i16 0, .int .i16 0, .int .i16 0, .int .i16 0, .int .i16 0, .int .i16 0, .int .i16 0, .int .i16 0, .int .i16 0, .int .i16 0, .int .i16 0, .int .i16 0, .int .i16 0, .int .i16 0, .int .i16 0, .int .i16 0, .int .i16 0, .int .i16 0, .int .i16 0, .int .i16 0, .int .i16 0, .int .i16 0, .int .i16 0, .int .i16 0, .int .i16 0, .int .i16 0, .int .i16 0, .int .i16 0, .int .i16 0, .int .i16 0, .int .i16 0, .int .i16 0, .int .i16 0, .int .i16 0, .int .i16 0, .int .i16 0, .int .i16 0, .int .i16 0, .int .i16 0, .int .i16 0, .int .i16 0, .int .i16 0, .int .i16 0, .int .i16 0, .int .i16 0, .int .i16 0, .int .i16 0, .int .i16 0, .int .i16 0, .int .i16 0, .int .i16 0, .int .i16 0, .int .i16 0, .int .i16 0, .int .i16 0, .int .i16 0, .int .i16 0, .int .i16 0, .int .i16 0, .int .i16 0, .int .i16 0, .int .i16 0, .int .i16 0] 65)
  have a2 := (HasArr.zero (w.alloc (.cells (arrV .i16 64 f) 65)) 65 (b := w.heap.size + 1) (by simp)).alloc (.cells #[.int .i16 0, .int .i16 0, .int .i16 0, .int .i16 0, .int .i16 0, .int .i16 0, .int .i16 0, .int .i16 0, .int .i16 0, .int .i16 0, .int .i16 0, .int .i16 0, .int .i16 0, .int .i16 0, .int .i16 0, .int .i16 0, .int .i16 0, .int .i16 0, .int .i16 0, .int .i16 0, .int .i16 0, .int .i16 0, .int .i16 0, .int .i16 0, .int .i16 0, .int .i16 0, .int .i16 0, .int .i16 0, .int .i16 0, .int .i16 0, .int .i16 0, .int .i16 0, .int .i16 0, .int .i16 0, .int .i16 0, .int .i16 0, .int .i16 0, .int .i16 0, .int .i16 0, .int .i16 0, .int .i16 0, .int .i16 0, .int .i16 0, .int .i16 0, .int .i16 0, .int .i16 0, .int .i16 0, .int .i16 0, .int .i16 0, .int .i16 0, .int .i16 0, .int .i16 0, .int .i16 0, .int .i16 0, .int .i16 0, .int .i16 0, .int .i16 0, .int .i16 0, .int .i16 0, .int .i16 0, .int .i16 0, .int .i16 0, .int .i16 0, .int .i16 0] 65)
  have a3 := HasArr.zero ((w.alloc (.cells (arrV .i16 64 f) 65)).alloc (.cells #[.int .i16 0, .int .i16 0, .int .i16 0, .int .i16 0, .int .i16 0, .int .i16 0, .int .i16 0, .int .i16 0, .int .i16 0, .int .i16 0, .int .i16 0, .int .i16 0, .int .i16 0, .int .i16 0, .int .i16 0, .int .i16 0, .int .i16 0, .int .i16 0, .int .i16 0, .int .i16 0, .int .i16 0, .int .i16 0, .int .i16 0, .int .i16 0, .int .i16 0, .int .i16 0, .int .i16 0, .int .i16 0, .int .i16 0, .int .i16 0, .int .i16 0, .int .i16 0, .int .i16 0, .int .i16 0, .int .i16 0, .int .i16 0, .int .i16 0, .int .i16 0, .int .i16 0, .int .i16 0, .int .i16 0, .int .i16 0, .int .i16 0, .int .i16 0, .int .i16 0, .int .i16 0, .int .i16 0, .int .i16 0, .int .i16 0, .int .i16 0, .int .i16 0, .int .i16 0, .int .i16 0, .int .i16 0, .int .i16 0, .int .i16 0, .int .i16 0, .int .i16 0, .int .i16 0, .int .i16 0, .int .i16 0, .int .i16 0, .int .i16 0, .int .i16 0] 65)) 65 (b := w.heap.size + 1 + 1) (by simp)
  have k0 := (((Below.refl w.heap.size w).alloc (Nat.le_refl _) (.cells (arrV .i16 64 f) 65)).alloc (by simp) (.cells #[.int .i16 0, .int .i16 0, .int .i16 0, .int .i16 0, .int .i16 0, .int .i16 0, .int .i16 0, .int .i16 0, .int .i16 0, .int .i16 0, .int .i16 0, .int .i16 0, .int .i16 0, .int .i16 0, .int .i16 0, .int .i16 0, .int .i16 0, .int .i16 0, .int .i16 0, .int .i16 0, .int .i16 0, .int .i16 0, .int .i16 0, .int .i16 0, .int .i16 0, .int .i16 0, .int .i16 0, .int .i16 0, .int .i16 0, .int .i16 0, .int .i16 0, .int .i16 0, .int .i16 0, .int .i16 0, .int .i16 0, .int .i16 0, .int .i16 0, .int .i16 0, .int .i16 0, .int .i16 0, .int .i16 0, .int .i16 0, .int .i16 0, .int .i16 0, .int .i16 0, .int .i16 0, .int .i16 0, .int .i16 0, .int .i16 0, .int .i16 0, .int .i16 0, .int .i16 0, .int .i16 0, .int .i16 0, .int .i16 0, .int .i16 0, .int .i16 0, .int .i16 0, .int .i16 0, .int .i16 0, .int .i16 0, .int .i16 0, .int .i16 0, .int .i16 0] 65)).alloc (by simp; omega) (.cells #[.int .i16 0, .int .i16 0, .int .i16 0, .int .i16 0, .int .i16 0, .int .i16 0, .int .i16 0, .int .i16 0, .int .i16 0, .int .i16 0, .int .i16 0, .int .i16 0, .int .i16 0, .int .i16 0, .int .i16 0, .int .i16 0, .int .i16 0, .int .i16 0, .int .i16 0, .int .i16 0, .int .i16 0, .int .i16 0, .int .i16 0, .int .i16 0, .int .i16 0, .int .i16 0, .int .i16 0, .int .i16 0, .int .i16 0, .int .i16 0, .int .i16 0, .int .i16 0, .int .i16 0, .int .i16 0, .int .i16 0, .int .i16 0, .int .i16 0, .int .i16 0, .int .i16 0, .int .i16 0, .int .i16 0, .int .i16 0, .int .i16 0, .int .i16 0, .int .i16 0, .int .i16 0, .int .i16 0, .int .i16 0, .int .i16 0, .int .i16 0, .int .i16 0, .int .i16 0, .int .i16 0, .int .i16 0, .int .i16 0, .int .i16 0, .int .i16 0, .int .i16 0, .int .i16 0, .int .i16 0, .int .i16 0, .int .i16 0, .int .i16 0, .int .i16 0] 65)
  have c1 := a1.rowOther (b' := w.heap.size + 1 + 1) (by omega) (arrV .i16 64 fun _ => 0)
  have c2 := a2.rowOther (b' := w.heap.size + 1 + 1) (by omega) (arrV .i16 64 fun _ => 0)
  have c3 := (a3.setRow .i16 fun _ => 0).congr (fun j _ => mixFN_0 (fun k => f (p k)) (fun _ => 0) j)
  have k2 := below_setRow k0 (b := w.heap.size + 1 + 1) (by omega) (arrV .i16 64 fun _ => 0)
  have K0 := Lib.hid (And.intro c1 (And.intro c2 (And.intro c3 k2)))
  have Hcl := Lib.hid hcl
  have Hp := Lib.hid hp
  clear c1 c2 c3 k2 k0 a1 a2 hcl hp
  go_enter Tryd.func38, Tryd.ntmps38
  go_wp2_with (refine wpList_store_z a3 _ _ _ rfl rfl rfl rfl sizeCells ?_)
  clear a3
  go_loopw [8] (fun i wr => ∃ k : Nat, k ≤ 64 ∧ i = .int .i64 k ∧ HasArr wr w.heap.size 65 .i16 64 f ∧ HasArr wr (w.heap.size + 1) 65 .i16 64 (fun _ => 0) ∧ HasArr wr (w.heap.size + 1 + 1) 65 .i16 64 (mixFN (fun k => f (p k)) (fun _ => 0) k) ∧ Below w.heap.size w wr) (fun i _ => 64 - (intOf i).toNat)
  case atStart => exact ⟨0, by omega, rfl, K0.out⟩
  case round =>
    obtain ⟨k, hk, rfl, h1, h2, h3, hB⟩ := hrel
    by_cases hkn : k < 64
    · have hq := Hcl.out k hkn wr hB
      obtain ⟨hpk, hX, hY, hXY⟩ := Hp.out k hkn
      have hca : ∀ W, Calls Tryd.prog 52 #[.int .i64 (X k), .int .i64 (Y k)] W fun e w' => e = .returned (.int .i64 ((p k : Nat) : Int)) ∧ W = w' := fun W => by
        have h := cellAt_any (X k) (Y k) hX.1 hX.2 hY.1 hY.2 W
        rwa [hXY] at h
      have HR := Lib.hid (show ∀ j, upd (mixFN (fun k => f (p k)) (fun _ => 0) k) k (f (p k)) j = mixFN (fun k => f (p k)) (fun _ => 0) (k + 1) j from fun j => mixFN_step (fun k => f (p k)) (fun _ => 0) k j)
      clear hX hY hXY
      generalize X k = x at *
      generalize Y k = y at *
      generalize p k = m at *
      have Hq := Lib.hid hq; clear hq
      have Hca := Lib.hid hca; clear hca
      go_wp2_with fail
      refine Hq.out.mono ?_; rintro e w2 ⟨rfl, hb2⟩
      clear Hq
      have g1 := h1.below hb2 h1.lt
      have g2 := h2.below hb2 h2.lt
      have g3 := h3.below hb2 h3.lt
      have gB := hB.trans (hb2.mono hB.size)
      clear h1 h2 h3 hB hb2
      have c1 := g1.cell hpk
      have c3 := g3.cell hkn
      have f3 := g3.free k
      have k3 := (g3.set k (f m)).congr (fun j _ => HR.out j)
      have k2 := g2.other (a := ⟨w.heap.size + 1 + 1, k, none⟩) (by simp) (.int .i16 (f m))
      have k1 := g1.other (a := ⟨w.heap.size + 1 + 1, k, none⟩) (by simp; omega) (.int .i16 (f m))
      have kB := gB.setCell (p := ⟨w.heap.size + 1 + 1, k, none⟩) (by simp; omega) (.int .i16 (f m))
      have K := Lib.hid (And.intro k1 (And.intro k2 (And.intro k3 kB)))
      clear k1 k2 k3 kB g1 g2 g3 gB
      go_wp2_with fail
      refine (Hca.out _).mono ?_; rintro e w3 ⟨rfl, rfl⟩
      go_wp2
      go_roundw
      case rel => exact ⟨k + 1, by omega, by go_num, K.out⟩
      case measure => simp [intOf]; omega
    · obtain rfl : k = 64 := by omega
      have h3 := h3.congr (g := fun k => f (p k)) (fun j hj => mixFN_n _ _ hj)
      have h2' := h2.setRow .i16 (fun k => f (p k))
      have hB' := below_setRow hB (b := w.heap.size + 1) (by omega) (arrV .i16 64 fun k => f (p k))
      go_wp2_with (first | (refine wpList_load_arr h3 _ _ rfl rfl rfl Tryd.underlying65 sizeCells ?_) | (refine wpList_store_arr h2 _ _ _ rfl rfl rfl rfl sizeCells ?_))
      refine bodyPost_ret (v := .agg (arrV .i16 64 fun k => f (p k))) ?_ rfl ⟨rfl, hB'⟩
      exact results_cell_row rfl _ _ _ _ _ _ _ rfl h2' Tryd.underlying65 rfl (by rw [arrV_size]; exact sizeCells)

set_option maxRecDepth 100000 in
set_option maxHeartbeats 2000000 in
theorem arrangedNeg_enlargePart (s : Ers) (f : Nat → Int) (p : Nat → Nat) (X Y : Nat → Int) (a b : Nat) (w : World) (hE : ErrEnv s w) (hp : ∀ k, k < 64 → p k < 64 ∧ (0 ≤ X k ∧ X k ≤ 7) ∧ (0 ≤ Y k ∧ Y k ≤ 7) ∧ X k + 8 * Y k = (p k : Int))
    (hcl : ∀ k : Nat, k < 64 → ∀ W, Below w.heap.size w W → Calls Tryd.prog 42 #[.int .i64 ((k : Int) % 8), .int .i64 ((k : Int) / 8), .pointer (some ⟨a, 0, none⟩), .pointer (some ⟨b, 0, none⟩)] W fun e w' => e = .returned (.tuple #[.int .i64 (X k), .int .i64 (Y k)]) ∧ Below W.heap.size W w') :
    Calls Tryd.prog 21 #[.agg (arrV .i16 64 f), .func (.func 42) #[] #[.pointer (some ⟨a, 0, none⟩), .pointer (some ⟨b, 0, none⟩)]] w (NegOut s w (dnsB f) (fun k => f (p k)) (ngC (dnsB f))) := by
  have a1 := (HasArr.new w 26 .i16 64 f).alloc (.cells #[.int .i16 0, .int .i16 0, .int .i16 0, .int .i16 0, .int .i16 0, .int .i16 0, .int .i16 0, .int .i16 0, .int .i16 0, .int .i16 0, .int .i16 0, .int .i16 0, .int .i16 0, .int .i16 0, .int .i16 0, .int .i16 0, .int .i16 0, .int .i16 0, .int .i16 0, .int .i16 0, .int .i16 0, .int .i16 0, .int .i16 0, .int .i16 0, .int .i16 0, .int .i16 0, .int .i16 0, .int .i16 0, .int .i16 0, .int .i16 0, .int .i16 0, .int .i16 0, .int .i16 0, .int .i16 0, .int .i16 0, .int .i16 0, .int .i16 0, .int .i16 0, .int .i16 0, .int .i16 0, .int .i16 0, .int .i16 0, .int .i16 0, .int .i16 0, .int .i16 0, .int .i16 0, .int .i16 0, .int .i16 0, .int .i16 0, .int .i16 0, .int .i16 0, .int .i16 0, .int .i16 0, .int .i16 0, .int .i16 0, .int .i16 0, .int .i16 0, .int .i16 0, .int .i16 0, .int .i16 0, .int .i16 0, .int .i16 0, .int .i16 0, .int .i16 0] 26)
  have a2 := HasArr.zero (w.alloc (.cells (arrV .i16 64 f) 26)) 26 (b := w.heap.size + 1) (by simp)
  have k0 := ((Below.refl w.heap.size w).alloc (Nat.le_refl _) (.cells (arrV .i16 64 f) 26)).alloc (by simp) (.cells #[.int .i16 0, .int .i16 0, .int .i16 0, .int .i16 0, .int .i16 0, .int .i16 0, .int .i16 0, .int .i16 0, .int .i16 0, .int .i16 0, .int .i16 0, .int .i16 0, .int .i16 0, .int .i16 0, .int .i16 0, .int .i16 0, .int .i16 0, .int .i16 0, .int .i16 0, .int .i16 0, .int .i16 0, .int .i16 0, .int .i16 0, .int .i16 0, .int .i16 0, .int .i16 0, .int .i16 0, .int .i16 0, .int .i16 0, .int .i16 0, .int .i16 0, .int .i16 0, .int .i16 0, .int .i16 0, .int .i16 0, .int .i16 0, .int .i16 0, .int .i16 0, .int .i16 0, .int .i16 0, .int .i16 0, .int .i16 0, .int .i16 0, .int .i16 0, .int .i16 0, .int .i16 0, .int .i16 0, .int .i16 0, .int .i16 0, .int .i16 0, .int .i16 0, .int .i16 0, .int .i16 0, .int .i16 0, .int .i16 0, .int .i16 0, .int .i16 0, .int .i16 0, .int .i16 0, .int .i16 0, .int .i16 0, .int .i16 0, .int .i16 0, .int .i16 0] 26)
  have hd := fun W => ValidNegative_any f W
  rcases hv : dnsB f with _ | _
  · rw [hv] at hd
    have Hd := Lib.hid hd; clear hd hv hcl hp
    go_enter Tryd.func21, Tryd.ntmps21
    go_wp2_with (refine wpList_load_arr a1 _ _ rfl rfl rfl Tryd.underlying26 sizeNeg ?_)
    refine (Hd.out _).mono ?_; rintro e w1 ⟨rfl, hb1⟩
    clear Hd
    have b2 := a2.below hb1 a2.lt
    have k1 := k0.trans (hb1.mono k0.size)
    have ce := (hE.below k1 (Nat.le_refl _)).c_einvalid
    have hB := Lib.hid (below_setRow k1.drew (b := w.heap.size + 1) (by omega) (arrV .i16 64 fun _ => 0))
    have cg : (w1.drew.setRow (w.heap.size + 1) (arrV .i16 64 fun _ => 0)).cell? ⟨0, 0, none⟩ = some (errV s.einvalid) := (hE.below hB.out (Nat.le_refl _)).c_einvalid
    clear a1 a2 k0 hb1 k1
    go_wp2_with fail
    refine wp_region_any (by kernel_rfl) ?_
    refine wpAny_take (i := 0) (v := .agg #[.int .i16 0, .int .i16 0, .int .i16 0, .int .i16 0, .int .i16 0, .int .i16 0, .int .i16 0, .int .i16 0, .int .i16 0, .int .i16 0, .int .i16 0, .int .i16 0, .int .i16 0, .int .i16 0, .int .i16 0, .int .i16 0, .int .i16 0, .int .i16 0, .int .i16 0, .int .i16 0, .int .i16 0, .int .i16 0, .int .i16 0, .int .i16 0, .int .i16 0, .int .i16 0, .int .i16 0, .int .i16 0, .int .i16 0, .int .i16 0, .int .i16 0, .int .i16 0, .int .i16 0, .int .i16 0, .int .i16 0, .int .i16 0, .int .i16 0, .int .i16 0, .int .i16 0, .int .i16 0, .int .i16 0, .int .i16 0, .int .i16 0, .int .i16 0, .int .i16 0, .int .i16 0, .int .i16 0, .int .i16 0, .int .i16 0, .int .i16 0, .int .i16 0, .int .i16 0, .int .i16 0, .int .i16 0, .int .i16 0, .int .i16 0, .int .i16 0, .int .i16 0, .int .i16 0, .int .i16 0, .int .i16 0, .int .i16 0, .int .i16 0, .int .i16 0]) rfl (by kernel_rfl) (by kernel_rfl) (by kernel_rfl) (fun _ _ _ h => h) (Or.inl ⟨by rfl, by intro w; go_simp⟩) ?_
    change wpAny _ _ _ _ _ _ _ (World.drew _)
    refine wpAny_ready (rs := [1, 2]) (by kernel_rfl) (by simp) ?_
    refine AllReady.cons rfl (fun K hK => ?_) (AllReady.cons rfl (fun K hK => ?_) AllReady.nil)
    · go_simp
      refine hK _ _ ?_; clear hK K
      refine wpAny_ready (rs := [2]) (by kernel_rfl) (by simp) ?_
      refine AllReady.cons rfl (fun K hK => ?_) AllReady.nil
      refine step_store_z b2.drew rfl _ _ _ rfl rfl rfl sizeNeg ?_
      refine hK _ _ ?_; clear hK K
      refine wpAny_ready (rs := [3]) (by kernel_rfl) (by simp) ?_
      refine AllReady.cons rfl (fun K hK => ?_) AllReady.nil
      go_simp
      refine hK _ _ ?_; clear hK K
      refine wpAny_done (by kernel_rfl) ?_ _
      go_wp2
      refine bodyPost_ret (v := .tuple #[.agg (arrV .i16 64 (fun _ => 0)), errV s.einvalid]) ?_ rfl ⟨_, _, rfl, .einvalid, rfl, hB.out⟩
      exact results_row_tmp rfl _ _ _ _ _ _ _ rfl (b2.drew.setRow .i16 fun _ => 0) Tryd.underlying26 rfl (by rw [arrV_size]; exact sizeNeg) _ rfl
    · refine step_store_z b2.drew rfl _ _ _ rfl rfl rfl sizeNeg ?_
      refine hK _ _ ?_; clear hK K
      refine wpAny_ready (rs := [1]) (by kernel_rfl) (by simp) ?_
      refine AllReady.cons rfl (fun K hK => ?_) AllReady.nil
      go_simp
      refine hK _ _ ?_; clear hK K
      refine wpAny_ready (rs := [3]) (by kernel_rfl) (by simp) ?_
      refine AllReady.cons rfl (fun K hK => ?_) AllReady.nil
      go_simp
      refine hK _ _ ?_; clear hK K
      refine wpAny_done (by kernel_rfl) ?_ _
      go_wp2
      refine bodyPost_ret (v := .tuple #[.agg (arrV .i16 64 (fun _ => 0)), errV s.einvalid]) ?_ rfl ⟨_, _, rfl, .einvalid, rfl, hB.out⟩
      exact results_row_tmp rfl _ _ _ _ _ _ _ rfl (b2.drew.setRow .i16 fun _ => 0) Tryd.underlying26 rfl (by rw [arrV_size]; exact sizeNeg) _ rfl
  · rw [hv] at hd
    have Hd := Lib.hid hd; clear hd hv
    have har := fun W hW => arranged_enlargePart f p X Y a b W hp (fun k hk W' hW' => hcl k hk W' (Below.trans hW (Below.mono hW' hW.size)))
    have Har := Lib.hid har; clear har hcl hp
    go_enter Tryd.func21, Tryd.ntmps21
    go_wp2_with (refine wpList_load_arr a1 _ _ rfl rfl rfl Tryd.underlying26 sizeNeg ?_)
    refine (Hd.out _).mono ?_; rintro e w1 ⟨rfl, hb1⟩
    clear Hd
    have b1 := a1.below hb1 a1.lt
    have b2 := a2.below hb1 a2.lt
    have k1 := k0.trans (hb1.mono k0.size)
    clear a1 a2 k0 hb1
    go_wp2_with (refine wpList_load_arr b1 _ _ rfl rfl rfl Tryd.underlying26 sizeNeg ?_)
    refine (Har.out _ k1).mono ?_; rintro e w2 ⟨rfl, hb2⟩
    clear Har b1
    have c2 := b2.below hb2 b2.lt
    have k2 := k1.trans (hb2.mono k1.size)
    clear b2 k1 hb2
    go_wp2_with (refine wpList_store_arr c2 _ _ _ rfl rfl rfl rfl sizeNeg ?_)
    refine bodyPost_ret (v := .tuple #[.agg (arrV .i16 64 (fun k => f (p k))), .nilIface]) ?_ rfl ⟨_, _, rfl, .ok, rfl, below_setRow k2 (by omega) _⟩
    exact results_row_tmp rfl _ _ _ _ _ _ _ rfl (c2.setRow .i16 fun k => f (p k)) Tryd.underlying26 rfl (by rw [arrV_size]; exact sizeNeg) _ rfl

set_option maxRecDepth 100000 in
set_option maxHeartbeats 2000000 in
theorem MirrorNegative_any (s : Ers) (f : Nat → Int) (w : World) (hE : ErrEnv s w) :
    Calls Tryd.prog 6 #[.agg (arrV .i16 64 f)] w fun e w' => e = .returned (.tuple #[.agg (arrV .i16 64 (ngV (dnsB f) f mirP)), .int .i64 (ngC (dnsB f))]) ∧ Below w.heap.size w w' := by
  have a1 := (HasArr.new w 26 .i16 64 f).alloc (.cells #[.int .i16 0, .int .i16 0, .int .i16 0, .int .i16 0, .int .i16 0, .int .i16 0, .int .i16 0, .int .i16 0, .int .i16 0, .int .i16 0, .int .i16 0, .int .i16 0, .int .i16 0, .int .i16 0, .int .i16 0, .int .i16 0, .int .i16 0, .int .i16 0, .int .i16 0, .int .i16 0, .int .i16 0, .int .i16 0, .int .i16 0, .int .i16 0, .int .i16 0, .int .i16 0, .int .i16 0, .int .i16 0, .int .i16 0, .int .i16 0, .int .i16 0, .int .i16 0, .int .i16 0, .int .i16 0, .int .i16 0, .int .i16 0, .int .i16 0, .int .i16 0, .int .i16 0, .int .i16 0, .int .i16 0, .int .i16 0, .int .i16 0, .int .i16 0, .int .i16 0, .int .i16 0, .int .i16 0, .int .i16 0, .int .i16 0, .int .i16 0, .int .i16 0, .int .i16 0, .int .i16 0, .int .i16 0, .int .i16 0, .int .i16 0, .int .i16 0, .int .i16 0, .int .i16 0, .int .i16 0, .int .i16 0, .int .i16 0, .int .i16 0, .int .i16 0] 26)
  have a2 := HasArr.zero (w.alloc (.cells (arrV .i16 64 f) 26)) 26 (b := w.heap.size + 1) (by simp)
  have k0 := ((Below.refl w.heap.size w).alloc (Nat.le_refl _) (.cells (arrV .i16 64 f) 26)).alloc (by simp) (.cells #[.int .i16 0, .int .i16 0, .int .i16 0, .int .i16 0, .int .i16 0, .int .i16 0, .int .i16 0, .int .i16 0, .int .i16 0, .int .i16 0, .int .i16 0, .int .i16 0, .int .i16 0, .int .i16 0, .int .i16 0, .int .i16 0, .int .i16 0, .int .i16 0, .int .i16 0, .int .i16 0, .int .i16 0, .int .i16 0, .int .i16 0, .int .i16 0, .int .i16 0, .int .i16 0, .int .i16 0, .int .i16 0, .int .i16 0, .int .i16 0, .int .i16 0, .int .i16 0, .int .i16 0, .int .i16 0, .int .i16 0, .int .i16 0, .int .i16 0, .int .i16 0, .int .i16 0, .int .i16 0, .int .i16 0, .int .i16 0, .int .i16 0, .int .i16 0, .int .i16 0, .int .i16 0, .int .i16 0, .int .i16 0, .int .i16 0, .int .i16 0, .int .i16 0, .int .i16 0, .int .i16 0, .int .i16 0, .int .i16 0, .int .i16 0, .int .i16 0, .int .i16 0, .int .i16 0, .int .i16 0, .int .i16 0, .int .i16 0, .int .i16 0, .int .i16 0] 26)
  have har := fun W hW => arrangedNeg_MirrorNegative s f mirP (fun k => 7 - (k : Int) % 8) (fun k => (k : Int) / 8) W hW (fun k hk => ⟨mirP_lt hk, by omega, by omega, by unfold mirP; omega⟩)
    (fun k hk W hW => (mirror1_any _ _ (by omega) (by omega) W).mono fun e w' ⟨he, hw⟩ => ⟨he, hw ▸ Below.refl _ _⟩)
  have Har := Lib.hid har; clear har
  have Hg : Hid (∀ h : Nat → Int, h = (if dnsB f = true then (fun k => f (mirP k)) else fun _ => 0) → h = ngV (dnsB f) f mirP) := Lib.hid (fun h e => e)
  generalize ngC (dnsB f) = C at *
  go_enter Tryd.func6, Tryd.ntmps6
  go_wp2_with (refine wpList_load_arr a1 _ _ rfl rfl rfl Tryd.underlying26 sizeNeg ?_)
  refine (Har.out _ ((hE.alloc _).alloc _)).mono ?_; rintro e w1 ⟨h, v, rfl, hv, hh, hb1⟩
  have Hh := Lib.hid (Hg.out h hh)
  clear Har hh
  have b2 := a2.below hb1 a2.lt
  have k1 := k0.trans (hb1.mono k0.size)
  clear a1 a2 k0 hb1
  go_wp2_with fail
  refine (codedNeg_any hv _ _ (hE.below k1 (Nat.le_refl _))).mono ?_; rintro e w2 ⟨rfl, hb2⟩
  have c2 := b2.below hb2 b2.lt
  have k2 := k1.trans (hb2.mono k1.size)
  clear b2 k1 hb2
  go_wp2_with (refine wpList_store_arr c2 _ _ _ rfl rfl rfl rfl sizeNeg ?_)
  refine bodyPost_ret (v := .tuple #[.agg (arrV .i16 64 h), .int .i64 C]) ?_ rfl ⟨by rw [Hh.out], below_setRow k2 (by omega) _⟩
  exact results_row_tmp rfl _ _ _ _ _ _ _ rfl (c2.setRow .i16 h) Tryd.underlying26 rfl (by rw [arrV_size]; exact sizeNeg) _ rfl

set_option maxRecDepth 100000 in
set_option maxHeartbeats 2000000 in
theorem TurnNegative_any (s : Ers) (f : Nat → Int) (w : World) (hE : ErrEnv s w) :
    Calls Tryd.prog 8 #[.agg (arrV .i16 64 f)] w fun e w' => e = .returned (.tuple #[.agg (arrV .i16 64 (ngV (dnsB f) f turP)), .int .i64 (ngC (dnsB f))]) ∧ Below w.heap.size w w' := by
  have a1 := (HasArr.new w 26 .i16 64 f).alloc (.cells #[.int .i16 0, .int .i16 0, .int .i16 0, .int .i16 0, .int .i16 0, .int .i16 0, .int .i16 0, .int .i16 0, .int .i16 0, .int .i16 0, .int .i16 0, .int .i16 0, .int .i16 0, .int .i16 0, .int .i16 0, .int .i16 0, .int .i16 0, .int .i16 0, .int .i16 0, .int .i16 0, .int .i16 0, .int .i16 0, .int .i16 0, .int .i16 0, .int .i16 0, .int .i16 0, .int .i16 0, .int .i16 0, .int .i16 0, .int .i16 0, .int .i16 0, .int .i16 0, .int .i16 0, .int .i16 0, .int .i16 0, .int .i16 0, .int .i16 0, .int .i16 0, .int .i16 0, .int .i16 0, .int .i16 0, .int .i16 0, .int .i16 0, .int .i16 0, .int .i16 0, .int .i16 0, .int .i16 0, .int .i16 0, .int .i16 0, .int .i16 0, .int .i16 0, .int .i16 0, .int .i16 0, .int .i16 0, .int .i16 0, .int .i16 0, .int .i16 0, .int .i16 0, .int .i16 0, .int .i16 0, .int .i16 0, .int .i16 0, .int .i16 0, .int .i16 0] 26)
  have a2 := HasArr.zero (w.alloc (.cells (arrV .i16 64 f) 26)) 26 (b := w.heap.size + 1) (by simp)
  have k0 := ((Below.refl w.heap.size w).alloc (Nat.le_refl _) (.cells (arrV .i16 64 f) 26)).alloc (by simp) (.cells #[.int .i16 0, .int .i16 0, .int .i16 0, .int .i16 0, .int .i16 0, .int .i16 0, .int .i16 0, .int .i16 0, .int .i16 0, .int .i16 0, .int .i16 0, .int .i16 0, .int .i16 0, .int .i16 0, .int .i16 0, .int .i16 0, .int .i16 0, .int .i16 0, .int .i16 0, .int .i16 0, .int .i16 0, .int .i16 0, .int .i16 0, .int .i16 0, .int .i16 0, .int .i16 0, .int .i16 0, .int .i16 0, .int .i16 0, .int .i16 0, .int .i16 0, .int .i16 0, .int .i16 0, .int .i16 0, .int .i16 0, .int .i16 0, .int .i16 0, .int .i16 0, .int .i16 0, .int .i16 0, .int .i16 0, .int .i16 0, .int .i16 0, .int .i16 0, .int .i16 0, .int .i16 0, .int .i16 0, .int .i16 0, .int .i16 0, .int .i16 0, .int .i16 0, .int .i16 0, .int .i16 0, .int .i16 0, .int .i16 0, .int .i16 0, .int .i16 0, .int .i16 0, .int .i16 0, .int .i16 0, .int .i16 0, .int .i16 0, .int .i16 0, .int .i16 0] 26)
  have har := fun W hW => arrangedNeg_TurnNegative s f turP (fun k => (k : Int) / 8) (fun k => 7 - (k : Int) % 8) W hW (fun k hk => ⟨turP_lt hk, by omega, by omega, by unfold turP; omega⟩)
    (fun k hk W hW => (turn1_any _ _ (by omega) (by omega) W).mono fun e w' ⟨he, hw⟩ => ⟨he, hw ▸ Below.refl _ _⟩)
  have Har := Lib.hid har; clear har
  have Hg : Hid (∀ h : Nat → Int, h = (if dnsB f = true then (fun k => f (turP k)) else fun _ => 0) → h = ngV (dnsB f) f turP) := Lib.hid (fun h e => e)
  generalize ngC (dnsB f) = C at *
  go_enter Tryd.func8, Tryd.ntmps8
  go_wp2_with (refine wpList_load_arr a1 _ _ rfl rfl rfl Tryd.underlying26 sizeNeg ?_)
  refine (Har.out _ ((hE.alloc _).alloc _)).mono ?_; rintro e w1 ⟨h, v, rfl, hv, hh, hb1⟩
  have Hh := Lib.hid (Hg.out h hh)
  clear Har hh
  have b2 := a2.below hb1 a2.lt
  have k1 := k0.trans (hb1.mono k0.size)
  clear a1 a2 k0 hb1
  go_wp2_with fail
  refine (codedNeg_any hv _ _ (hE.below k1 (Nat.le_refl _))).mono ?_; rintro e w2 ⟨rfl, hb2⟩
  have c2 := b2.below hb2 b2.lt
  have k2 := k1.trans (hb2.mono k1.size)
  clear b2 k1 hb2
  go_wp2_with (refine wpList_store_arr c2 _ _ _ rfl rfl rfl rfl sizeNeg ?_)
  refine bodyPost_ret (v := .tuple #[.agg (arrV .i16 64 h), .int .i64 C]) ?_ rfl ⟨by rw [Hh.out], below_setRow k2 (by omega) _⟩
  exact results_row_tmp rfl _ _ _ _ _ _ _ rfl (c2.setRow .i16 h) Tryd.underlying26 rfl (by rw [arrV_size]; exact sizeNeg) _ rfl
end Go.Proofs.YtfnefeaplghgcaaDoor

/-
  Are two sheets the same? What both sides' functions return. Condition: at most 1048576 frames each.
-/
import Derived.Test.YtkmpfbjenddhjaaDoorSht
namespace Go.Proofs.YtkmpfbjenddhjaaDoor
open Go.RowKit

/-- Are two lists of arrays the same? -/
def samL (g h : Nat → Nat → Int) (n : Nat) : Bool := (List.range n).all fun i => eqN (g i) (h i) 64
theorem samL_iff {g h : Nat → Nat → Int} {n : Nat} : samL g h n = true ↔ ∀ i, i < n → eqN (g i) (h i) 64 = true := by simp [samL]
theorem samL_no {g h : Nat → Nat → Int} {n i : Nat} (hi : i < n) (e : eqN (g i) (h i) 64 = false) : samL g h n = false := by
  rcases h' : samL g h n with _ | _
  · rfl
  · rw [samL_iff.1 h' i hi] at e; cases e
/-- Are two sheets the same? -/
def samB (X Y : Int) (n m : Nat) (g h : Nat → Nat → Int) : Bool := decide (X = Y) && (decide (n = m) && samL g h n)
section
variable {P : Program}
theorem run_neqA {ρ : Operand → Value} {o : Oper} {w : World} {T T2 e : TypeId} {x y : Operand} {κ : IntKind} {n : Nat} {f g : Nat → Int} {i : TypeInfo} (ho : o.op = .binOp .neq T x y T2) (hx : ρ x = .agg (arrV κ n f)) (hy : ρ y = .agg (arrV κ n g))
    (hu : P.underlying T = some (.array n e)) (he : P.underlying e = some (.int κ)) (hi : P.info? e = some i) (hc : P.cellsOf e = 1) (hg : P.eqGuardType P.depth T = false) :
    (execOp ρ o).run P w = .ok (.value (.bool !(eqN f g n))) w := by
  have h := run_neq_arr f g hu he hi hc w
  unfold execOp
  simp [ho, hx, hy, eqGuard, h, hg]
end
theorem guardPrint : Tryd.prog.eqGuardType Tryd.prog.depth 58 = false := by kernel_rfl

set_option maxRecDepth 100000 in
set_option maxHeartbeats 2000000 in
theorem specSameSheet_any (X Y : Int) (A A' : Option Addr) (n m cap cap' : Nat) (g h : Nat → Nat → Int) (hn : n ≤ 1048576) (hm : m ≤ 1048576) (w : World) (hr : PrsIn w A n g) (hr' : PrsIn w A' m h) :
    Calls Tryd.prog 25 #[.agg #[.int .i8 X, .slice A n cap], .agg #[.int .i8 Y, .slice A' m cap']] w fun e w' => e = .returned (.bool (samB X Y n m g h)) ∧ Below w.heap.size w w' := by
  obtain ⟨i0, hi0⟩ := info16
  have hcl : Tryd.prog.cellsOf 56 = 1 := by kernel_rfl
  have k0 := (((Below.refl w.heap.size w).alloc (Nat.le_refl _) (.cells #[.int .i8 X, .slice A n cap] 29))).alloc (by simp) (.cells #[.int .i8 Y, .slice A' m cap'] 29)
  have c0 : ((w.alloc (.cells #[.int .i8 X, .slice A n cap] 29)).alloc (.cells #[.int .i8 Y, .slice A' m cap'] 29)).cell? ⟨w.heap.size, 0, none⟩ = some (.int .i8 X) := by simp
  have c1 : ((w.alloc (.cells #[.int .i8 X, .slice A n cap] 29)).alloc (.cells #[.int .i8 Y, .slice A' m cap'] 29)).cell? ⟨w.heap.size, 1, none⟩ = some (.slice A n cap) := by simp
  have d0 : ((w.alloc (.cells #[.int .i8 X, .slice A n cap] 29)).alloc (.cells #[.int .i8 Y, .slice A' m cap'] 29)).cell? ⟨w.heap.size + 1, 0, none⟩ = some (.int .i8 Y) := by simp
  have d1 : ((w.alloc (.cells #[.int .i8 X, .slice A n cap] 29)).alloc (.cells #[.int .i8 Y, .slice A' m cap'] 29)).cell? ⟨w.heap.size + 1, 1, none⟩ = some (.slice A' m cap') := by simp
  have HR := Lib.hid (hr.below k0 (Nat.le_refl _)); clear hr
  have HR' := Lib.hid (hr'.below k0 (Nat.le_refl _)); clear hr'
  by_cases hXY : X = Y
  rotate_left
  · rw [show samB X Y n m g h = false by simp [samB, hXY]]
    clear c1 d1 HR HR'
    go_enter Tryd.func25, Tryd.ntmps25
    go_wp2_with fail
    go_ret
    exact ⟨rfl, k0⟩
  subst hXY
  by_cases hnm : n = m
  rotate_left
  · rw [show samB X X n m g h = false by simp [samB, hnm]]
    have hnm' : ¬ (n : Int) = (m : Int) := by omega
    clear HR HR' hnm
    go_enter Tryd.func25, Tryd.ntmps25
    go_wp2_with fail
    go_ret
    exact ⟨rfl, k0⟩
  subst hnm
  rw [show samB X X n n g h = samL g h n by simp [samB]]
  go_enter Tryd.func25, Tryd.ntmps25
  go_wp2_with fail
  generalize ((w.alloc (.cells #[.int .i8 X, .slice A n cap] 29)).alloc (.cells #[.int .i8 X, .slice A' n cap'] 29)) = W at *
  go_loopw [5] (fun i wr => ∃ k : Nat, k ≤ n ∧ i = .int .i64 k ∧ (∀ j, j < k → eqN (g j) (h j) 64 = true) ∧ Below W.heap.size W wr) (fun i _ => n - (intOf i).toNat)
  case atStart => exact ⟨0, Nat.zero_le _, rfl, fun j hj => by omega, Below.refl _ _⟩
  case round =>
    obtain ⟨k, hk, rfl, hj, hB⟩ := hrel
    have HJ := Lib.hid hj; clear hj
    have e1 := below_cellOf hB c1 (Nat.le_refl _)
    have f1 := below_cellOf hB d1 (Nat.le_refl _)
    clear c0 c1 d0 d1
    by_cases hkn : k < n
    · rcases HR.out with h0 | ⟨b, o, rfl, hlt, hc⟩
      · exfalso; omega
      rcases HR'.out with h0 | ⟨b', o', rfl, hlt', hc'⟩
      · exfalso; omega
      have p0 := Lib.hid ((hc k hkn).below hB hlt)
      have q0 := Lib.hid ((hc' k hkn).below hB hlt')
      have hbs := hB.size
      have HB := Lib.hid hB
      have K0 := Lib.hid k0
      clear hc hc' hB k0 HR HR'
      have hkn' : (k : Int) < n := by omega
      go_wp2_with fail
      refine wp_region_quietD (Below wr.heap.size wr) (by kernel_rfl) (by kernel_rfl) (below_drew1 _) ?_
      have n0 := below_nonempty wr
      have ue := inCell e1
      have uf := inCell f1
      quiet_step (fail)
      quiet_step (fail)
      quiet_step (fail)
      quiet_step (fail)
      refine wpQuiet_load_part (fun V hV => by obtain ⟨x, rfl⟩ := hV; exact p0.out.below x.ok (by omega)) 58 (.tmp 30) rfl rfl rfl Tryd.underlying58 sizePrint ?_
      quiet_step (fail)
      quiet_step (fail)
      quiet_step (fail)
      quiet_step (fail)
      refine wpQuiet_load_part (fun V hV => by obtain ⟨x, rfl⟩ := hV; exact q0.out.below x.ok (by omega)) 58 (.tmp 35) rfl rfl rfl Tryd.underlying58 sizePrint ?_
      refine wpQuiet_yield (.bool !(eqN (g k) (h k) 64)) rfl (fun V => run_neqA rfl rfl rfl Tryd.underlying58 Tryd.underlying56 hi0 hcl guardPrint) ?_
      refine wpQuiet_nil ?_
      rintro w2 ⟨⟨w3, hb2⟩, rfl⟩
      have hB2 := HB.out.trans (Below.mono hb2 HB.out.size)
      clear ue uf p0 q0
      rcases hv : eqN (g k) (h k) 64 with _ | _
      · have Hz := Lib.hid (samL_no hkn hv)
        clear hv
        go_wp2_with fail
        go_ret
        exact ⟨ret_bool Hz.out.symm, K0.out.trans (hB2.mono K0.out.size)⟩
      · have HV := Lib.hid hv; clear hv
        go_wp2_with fail
        go_roundw
        case rel => exact ⟨k + 1, by omega, by go_num, fun j hj => by
          by_cases e : j = k
          · subst e; exact HV.out
          · exact HJ.out j (by omega), hB2⟩
        case measure => simp [intOf]; omega
    · obtain rfl : k = n := by omega
      have Hz := Lib.hid (samL_iff.2 HJ.out)
      go_wp2_with fail
      go_ret
      exact ⟨ret_bool Hz.out.symm, k0.trans (hB.mono k0.size)⟩

set_option maxRecDepth 100000 in
set_option maxHeartbeats 2000000 in
theorem slicesEqual_any (A A' : Option Addr) (n m cap cap' : Nat) (g h : Nat → Nat → Int) (hn : n ≤ 1048576) (hm : m ≤ 1048576) (w : World) (hr : PrsIn w A n g) (hr' : PrsIn w A' m h) :
    Calls Tryd.prog 50 #[.slice A n cap, .slice A' m cap'] w fun e w' => e = .returned (.bool (decide (n = m) && samL g h n)) ∧ Below w.heap.size w w' := by
  obtain ⟨i0, hi0⟩ := info16
  have hcl : Tryd.prog.cellsOf 56 = 1 := by kernel_rfl
  have HR := Lib.hid hr; clear hr
  have HR' := Lib.hid hr'; clear hr'
  by_cases hnm : n = m
  rotate_left
  · rw [show (decide (n = m) && samL g h n) = false by simp [hnm]]
    have hnm' : ¬ (n : Int) = (m : Int) := by omega
    clear HR HR' hnm
    go_enter Tryd.func50, Tryd.ntmps50
    go_wp2_with fail
    go_ret
    exact ⟨rfl, Below.refl _ _⟩
  subst hnm
  rw [show (decide (n = n) && samL g h n) = samL g h n by simp]
  go_enter Tryd.func50, Tryd.ntmps50
  go_wp2_with fail
  go_loopw [13] (fun i wr => ∃ k : Nat, k ≤ n ∧ i = .int .i64 k ∧ (∀ j, j < k → eqN (g j) (h j) 64 = true) ∧ Below w.heap.size w wr) (fun i _ => n - (intOf i).toNat)
  case atStart => exact ⟨0, Nat.zero_le _, rfl, fun j hj => by omega, Below.refl _ _⟩
  case round =>
    obtain ⟨k, hk, rfl, hj, hB⟩ := hrel
    have HJ := Lib.hid hj; clear hj
    by_cases hkn : k < n
    · rcases HR.out with h0 | ⟨b, o, rfl, hlt, hc⟩
      · exfalso; omega
      rcases HR'.out with h0 | ⟨b', o', rfl, hlt', hc'⟩
      · exfalso; omega
      have p0 := Lib.hid ((hc k hkn).below hB hlt)
      have q0 := Lib.hid ((hc' k hkn).below hB hlt')
      have hbs := hB.size
      have HB := Lib.hid hB
      clear hc hc' hB HR HR'
      have hkn' : (k : Int) < n := by omega
      go_wp2_with fail
      refine wp_region_quietD (Below wr.heap.size wr) (by kernel_rfl) (by kernel_rfl) (below_drew1 _) ?_
      have n0 := below_nonempty wr
      quiet_step (fail)
      quiet_step (fail)
      quiet_step (fail)
      refine wpQuiet_load_part (fun V hV => by obtain ⟨x, rfl⟩ := hV; exact p0.out.below x.ok (by omega)) 58 (.tmp 18) rfl rfl rfl Tryd.underlying58 sizePrint ?_
      quiet_step (fail)
      quiet_step (fail)
      quiet_step (fail)
      refine wpQuiet_load_part (fun V hV => by obtain ⟨x, rfl⟩ := hV; exact q0.out.below x.ok (by omega)) 58 (.tmp 22) rfl rfl rfl Tryd.underlying58 sizePrint ?_
      refine wpQuiet_yield (.bool !(eqN (g k) (h k) 64)) rfl (fun V => run_neqA rfl rfl rfl Tryd.underlying58 Tryd.underlying56 hi0 hcl guardPrint) ?_
      refine wpQuiet_nil ?_
      rintro w2 ⟨⟨w3, hb2⟩, rfl⟩
      have hB2 := HB.out.trans (Below.mono hb2 HB.out.size)
      clear p0 q0
      rcases hv : eqN (g k) (h k) 64 with _ | _
      · have Hz := Lib.hid (samL_no hkn hv)
        clear hv
        go_wp2_with fail
        go_ret
        exact ⟨ret_bool Hz.out.symm, hB2⟩
      · have HV := Lib.hid hv; clear hv
        go_wp2_with fail
        go_roundw
        case rel => exact ⟨k + 1, by omega, by go_num, fun j hj => by
          by_cases e : j = k
          · subst e; exact HV.out
          · exact HJ.out j (by omega), hB2⟩
        case measure => simp [intOf]; omega
    · obtain rfl : k = n := by omega
      have Hz := Lib.hid (samL_iff.2 HJ.out)
      go_wp2_with fail
      go_ret
      exact ⟨ret_bool Hz.out.symm, hB⟩

set_option maxRecDepth 100000 in
set_option maxHeartbeats 2000000 in
theorem SameSheet_any (X Y : Int) (A A' : Option Addr) (n m cap cap' : Nat) (g h : Nat → Nat → Int) (hn : n ≤ 1048576) (hm : m ≤ 1048576) (w : World) (hr : PrsIn w A n g) (hr' : PrsIn w A' m h) :
    Calls Tryd.prog 26 #[.agg #[.int .i8 X, .slice A n cap], .agg #[.int .i8 Y, .slice A' m cap']] w fun e w' => e = .returned (.bool (samB X Y n m g h)) ∧ Below w.heap.size w w' := by
  have k0 := (((Below.refl w.heap.size w).alloc (Nat.le_refl _) (.cells #[.int .i8 X, .slice A n cap] 29))).alloc (by simp) (.cells #[.int .i8 Y, .slice A' m cap'] 29)
  have hq := slicesEqual_any A A' n m cap cap' g h hn hm _ (hr.below k0 (Nat.le_refl _)) (hr'.below k0 (Nat.le_refl _))
  clear hr hr'
  by_cases hXY : X = Y
  · subst hXY
    rw [show samB X X n m g h = (decide (n = m) && samL g h n) by simp [samB]]
    generalize (decide (n = m) && samL g h n) = B at *
    have Hq := Lib.hid hq; clear hq
    go_enter Tryd.func26, Tryd.ntmps26
    go_wp2_with (go_at_call 50; refine Hq.out.mono ?_; rintro e w2 ⟨rfl, hb2⟩)
    go_ret
    exact ⟨rfl, k0.trans (hb2.mono k0.size)⟩
  · rw [show samB X Y n m g h = false by simp [samB, hXY]]
    clear hq
    go_enter Tryd.func26, Tryd.ntmps26
    go_wp2_with fail
    go_ret
    exact ⟨rfl, k0⟩
end Go.Proofs.YtkmpfbjenddhjaaDoor

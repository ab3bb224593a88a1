/-
  Frames picked, by the program. Condition: its variables hold their own errors; at most 1048576 frames of int16 numbers, at most 1048576 indices.
-/
import Derived.Test.YtkmpfbjenddhjaaDoorPickS
import Derived.Test.YtkmpfbjenddhjaaDoorMkPr
namespace Go.Proofs.YtkmpfbjenddhjaaDoor
open Go.RowKit

set_option maxRecDepth 100000 in
set_option maxHeartbeats 2000000 in
theorem codedSheet_any {s : Ers} {v : Value} {c : Int} (X : Int) (A : Option Addr) (n cap : Nat) (h : IsCode s v c) (w : World) (hE : ErrEnv s w) :
    Calls Tryd.prog 31 #[.agg #[.int .i8 X, .slice A n cap], v] w fun e w' => e = .returned (.tuple #[.agg #[.int .i8 X, .slice A n cap], .int .i64 c]) ∧ Below w.heap.size w w' := by
  have k0 := ((Below.refl w.heap.size w).alloc (Nat.le_refl _) (.cells #[.int .i8 X, .slice A n cap] 29)).alloc (by simp) (.cells #[.int .i8 0, .slice none 0 0] 29)
  have HE := Lib.hid hE; clear hE
  go_enter Tryd.func31, Tryd.ntmps31
  go_wp2_with fail
  go_region_with (go_at_call 41; refine (codeOf_any h _ (HE.out.below (B := w.heap.size) (by (repeat (first | exact Below.refl _ _ | assumption | apply Below.drew | apply below_drewL | apply below_drewP | (refine Below.alloc ?_ (by first | omega | (simp; done) | (simp; omega)) _) | (refine Below.setCell ?_ (by first | omega | (simp; done) | (simp; omega)) _)))) (Nat.le_refl _))).mono ?_; rintro e w9 ⟨rfl, rfl⟩)
  all_goals
    go_wp2_with fail
    refine bodyPost_ret (v := .tuple #[.agg #[.int .i8 X, .slice A n cap], .int .i64 c]) (by simp [results, Tryd.results31, go_sem]) rfl ⟨rfl, ?_⟩
    (repeat (first | exact Below.refl _ _ | assumption | apply Below.drew | apply below_drewL | apply below_drewP | (refine Below.alloc ?_ (by first | omega | (simp; done) | (simp; omega)) _) | (refine Below.setCell ?_ (by first | omega | (simp; done) | (simp; omega)) _)))

set_option maxRecDepth 100000 in
set_option maxHeartbeats 2000000 in
theorem withFrames_any (X : Int) (A A' : Option Addr) (n cap n' cap' : Nat) (w : World) :
    Calls Tryd.prog 53 #[.agg #[.int .i8 X, .slice A n cap], .slice A' n' cap'] w fun e w' => e = .returned (.agg #[.int .i8 X, .slice A' n' cap']) ∧ Below w.heap.size w w' := by
  go_enter Tryd.func53, Tryd.ntmps53
  go_wp2_with fail
  refine bodyPost_ret (v := .agg #[.int .i8 X, .slice A' n' cap']) (by simp [results, Tryd.results53, go_sem]) rfl ⟨rfl, ?_⟩
  (repeat (first | exact Below.refl _ _ | assumption | apply Below.drew | apply below_drewL | apply below_drewP | (refine Below.alloc ?_ (by first | omega | (simp; done) | (simp; omega)) _) | (refine Below.setCell ?_ (by first | omega | (simp; done) | (simp; omega)) _)))

set_option maxRecDepth 100000 in
set_option maxHeartbeats 4000000 in
theorem picked_any (A : Option Addr) (n cap : Nat) (g : Nat → Nat → Int) (B : Option Addr) (m c : Nat) (xs : Nat → Int) (hm : m ≤ 12) (w : World) (hr : PrsIn w A n g) (hi : IntsIn w B m xs) (ha : ∀ i, i < m → inB (xs i) 0 ((n : Int) - 1) = true) :
    Calls Tryd.prog 64 #[.slice A n cap, .slice B m c] w fun e w' => ∃ q cq, e = .returned (.slice (some ⟨q, 0, none⟩) m cq) ∧ w.heap.size ≤ q ∧ PrRow w' q m (picG g xs) ∧ Below w.heap.size w w' := by
  obtain ⟨i0, hi0, hz0, hz1, hz2⟩ := info_parts prInfo
  have hmk := fun W => run_make_rowPr (P := Tryd.prog) 80 58 i0 _ Tryd.underlying80 hi0 hz0 .i64 .i64 0 m (Nat.zero_le _) (by rw [hz2]; omega) (by omega) W
  rw [hz1] at hmk
  simp only [Value.cells] at hmk
  rw [zeroArr16] at hmk
  clear hi0 hz0 hz1 hz2
  have o0 := World.ownsRow_made (base := w.heap.size) (e := 58) (size := 64) w (madeCells (arrV .i16 64 fun _ => 0) (m * 64)) m (Nat.le_refl _) (by unfold maxLen; omega) (size_madeCells _ _)
  have hB0 := (Below.refl w.heap.size w).alloc (Nat.le_refl _) (.cells (madeCells (arrV .i16 64 fun _ => 0) (m * 64)) 58)
  generalize madeCells (arrV .i16 64 fun _ => 0) (m * 64) = Z at *
  have hmk : ∀ W : World, (Instr.makeSlice 80 (.int .i64 0) (.int .i64 (m : Int))).run Tryd.prog W = .ok (.slice (some ⟨W.heap.size, 0, none⟩) 0 m) (W.alloc (.cells Z 58)) := hmk
  have O0 := Lib.hid (And.intro o0 hB0); clear o0 hB0
  have HA := Lib.hid ha; clear ha
  go_enter Tryd.func64, Tryd.ntmps64
  go_wp2_with fail
  go_loopw [5, 13] (fun lv jv wr => ∃ (k q cq : Nat), k ≤ m ∧ jv = .int .i64 (k : Int) ∧ lv = .slice (some ⟨q, 0, none⟩) k cq ∧ wr.ownsRow w.heap.size 58 64 (.slice (some ⟨q, 0, none⟩) k cq) k (prL (picG g xs) k) ∧ Below w.heap.size w wr) (fun _ jv _ => m - (intOf jv).toNat)
  case atStart => exact ⟨0, _, _, Nat.zero_le _, rfl, rfl, by simpa [prL_nil] using O0.out.1, O0.out.2⟩
  case round =>
    clear O0 hmk
    obtain ⟨k, q, cq, hk, rfl, rfl, ho, hB2⟩ := hrel
    by_cases hkm : k < m
    · rcases hi.below hB2 (Nat.le_refl _) with h0 | ⟨b, o, rfl, hlt, hc⟩
      · exfalso; omega
      rcases hr.below hB2 (Nat.le_refl _) with h0 | ⟨bp, op, rfl, hltp, hcp⟩
      · have := inB_true.1 (HA.out k hkm); exfalso; omega
      have cj := hc k hkm
      have hin := inB_true.1 (HA.out k hkm)
      obtain ⟨p, hp⟩ : ∃ p : Nat, xs k = (p : Int) := ⟨(xs k).toNat, by omega⟩
      have hpn : p < n := by omega
      have hpn' : (p : Int) < n := by omega
      have hG : Hid (picG g xs k = g p) := Lib.hid (by unfold picG; rw [hp, Int.toNat_natCast])
      rw [hp] at cj
      have pk := hcp p hpn
      have hk' : (k : Int) < m := by omega
      have ho5 := Lib.hid (ho.alloc (.cells (arrV .i16 64 (g p)) 58))
      have hx5 := Lib.hid (lit_at wr (g p))
      have hS5 := Lib.hid (hB2.alloc hB2.size (.cells (arrV .i16 64 (g p)) 58))
      have hn5 : Hid (k + 1 ≤ 2097152) := Lib.hid (by omega)
      clear hc hcp hp hin ho hB2 hi hr
      go_wp2_with (first | (refine wpList_load_part pk 58 (.tmp 20) rfl rfl rfl Tryd.underlying58 sizePrint ?_) | (refine wpList_lit_pr (.tmp 21) rfl rfl Tryd.underlying80 rfl rfl ?_) | (at_builtin; refine wpList_append_prs (c := 1) rfl (.tmp 17) (.tmp 22) rfl Tryd.underlying80 rfl ho5.out (.inr (by omega)) rfl hx5.out hn5.out hS5.out.size ?_; intro gg cq6 w6 hown6 hbl6 hgr6))
      have hS6 := hS5.out.trans hbl6
      rw [prL_snoc _ _ _ hG.out.symm] at hown6
      clear hbl6 hgr6
      go_roundw
      case rel => exact ⟨k + 1, gg, cq6, by omega, by go_num, rfl, hown6, hS6⟩
      case measure => simp [intOf]; omega
    · obtain rfl : k = m := by omega
      have hown := own_row ho
      clear ho
      go_wp2_with fail
      go_ret
      exact ⟨_, _, rfl, hown.1, hown.2, hB2⟩
end Go.Proofs.YtkmpfbjenddhjaaDoor

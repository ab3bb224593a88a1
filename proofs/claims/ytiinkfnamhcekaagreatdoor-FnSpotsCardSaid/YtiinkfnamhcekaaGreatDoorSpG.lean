/-
  Two lists of masks that are the same; how many cells a mask has; repairing and its rounds with what they give. Condition of the program's: its variables hold their own errors.
-/
import Derived.Test.YtiinkfnamhcekaaGreatDoorSpF
import Derived.Test.YtiinkfnamhcekaaGreatDoorMkD
import Derived.Test.YtiinkfnamhcekaaGreatDoorCopies
import Derived.Test.YtiinkfnamhcekaaGreatDoorRdI
namespace Go.Proofs.YtiinkfnamhcekaaGreatDoor
open Go.RowKit

/-- A list of masks. -/
def MskIn (w : World) (A : Option Addr) (n : Nat) (F : Nat → BitVec 64) : Prop := n = 0 ∨ ∃ g, A = some ⟨g, 0, none⟩ ∧ g < w.heap.size ∧ ∀ j, j < n → w.cell? ⟨g, j, none⟩ = some (.int .u64 (bvI (F j)))
theorem MskIn.below {w w' : World} {A : Option Addr} {n B : Nat} {F : Nat → BitVec 64} (h : MskIn w A n F) (hb : Below B w w') (hB : w.heap.size ≤ B) : MskIn w' A n F := by
  rcases h with h | ⟨g, e, hg, hc⟩
  · exact .inl h
  · exact .inr ⟨g, e, Nat.lt_of_lt_of_le hg hb.size, fun j hj => (hb.cell (p := ⟨g, j, none⟩) (by show g < B; omega)).trans (hc j hj)⟩

theorem below_drewG {B : Nat} {w w' : World} (h : Below B w w') (n : Nat) : Below B w (w'.drewN n) := ⟨h.os, h.tape, h.output, h.size, h.block⟩
set_option maxRecDepth 100000 in
set_option maxHeartbeats 1000000 in
theorem SameMasks_any (A A' : Option Addr) (n c c' : Nat) (F : Nat → BitVec 64) (hn : n ≤ 1048576) (w : World) (h1 : MskIn w A n F) (h2 : MskIn w A' n F) :
    Calls Tryz.prog 12 #[.slice A n c, .slice A' n c'] w fun e w' => e = .returned (.bool true) ∧ Below w.heap.size w w' := by
  go_enter Tryz.func12, Tryz.ntmps12
  go_wp2_with fail
  go_loopw [5] (fun kv wr => ∃ k : Nat, k ≤ n ∧ kv = .int .i64 (k : Int) ∧ Below w.heap.size w wr) (fun kv _ => n - (intOf kv).toNat)
  case atStart => exact ⟨0, by omega, rfl, Below.refl _ _⟩
  case round =>
    obtain ⟨k, hk, rfl, hB⟩ := hrel
    by_cases hkn : k < n
    · rcases h1.below hB (Nat.le_refl _) with h0 | ⟨g, rfl, hg, hc⟩
      · exfalso; omega
      rcases h2.below hB (Nat.le_refl _) with h0 | ⟨g', rfl, hg', hc'⟩
      · exfalso; omega
      have c1 := hc k hkn
      have c2 := hc' k hkn
      have hkn' : (k : Int) < n := by omega
      have HB := Lib.hid hB
      clear hc hc' h1 h2 hB
      generalize bvI (F k) = x at *
      go_wp2_with fail
      go_quiet (fail)
      go_wp2_with fail
      go_roundw
      case rel => exact ⟨k + 1, by omega, by go_num, below_drewG HB.out _⟩
      case measure => simp [intOf]; omega
    · obtain rfl : k = n := by omega
      clear h1 h2
      go_wp2_with fail
      go_ret
      exact ⟨rfl, hB⟩

theorem CellsInB_any (M : BitVec 64) (w : World) :
    Calls Tryz.prog 14 #[.int .u64 (bvI M)] w fun e w' => e = .returned (.int .i64 ((cntB M 64 : Nat) : Int)) ∧ w = w' := by
  have Hc := Lib.hid (l07Count_any M w)
  go_enter Tryz.func14, Tryz.ntmps14
  go_wp2_with fail
  refine Hc.out.mono ?_; rintro e w1 ⟨rfl, rfl⟩
  go_wp2_with fail
  go_ret
  exact ⟨rfl, rfl⟩

/-- Repairing where not all cells are marked: what both sides hand back, and how many rounds. -/
theorem repair_ok (s : Ers) (f : Nat → Int) (hf : S16 f) (hd : dnsB f = true) (m : BitVec 64) (hm : m ≠ 18446744073709551615#64) : ∃ N : Nat, N ≤ 64 ∧ itR m N = 0#64 ∧ (∀ i, i < N → itR m i ≠ 0#64) ∧
    (∀ w : World, Calls Tryz.prog 17 #[.agg (arrV .i16 64 f), .int .u64 (bvI m)] w fun e w' => e = .returned (.tuple #[.agg (arrV .i16 64 (clF f m N)), .int .i64 (N : Int), .int .i64 0]) ∧ Below w.heap.size w w') ∧
    (∀ w : World, ErrEnv s w → DbEnv w → Calls Tryz.prog 16 #[.agg (arrV .i16 64 f), .int .u64 (bvI m)] w fun e w' => e = .returned (.tuple #[.agg (arrV .i16 64 (clF f m N)), .int .i64 (N : Int), .int .i64 0]) ∧ Below w.heap.size w w') ∧
    (∀ w : World, ErrEnv s w → Calls Tryz.prog 18 #[.int .u64 (bvI m)] w fun e w' => e = .returned (.tuple #[.int .i64 (N : Int), .int .i64 0]) ∧ Below w.heap.size w w') := by
  obtain ⟨N, hN, h0, hi⟩ := rounds_ex (not_all hm)
  exact ⟨N, hN, h0, hi, fun w => specRepairCells_ok f hf hd m N hN h0 hi hm w, fun w hE hT => RepairCells_ex s f m _ N 0 _ .ok w hE fun W hW => repairCells_ok f hf hd m N hN h0 hi hm W (hT.below hW),
    fun w hE => RoundsFor_ex s m N 0 _ .ok w (roundsFor_ok m N hN h0 hi hm w) hE⟩
/-- Where all cells are marked. -/
theorem repair_all (s : Ers) (f : Nat → Int) (hf : S16 f) (hd : dnsB f = true) :
    (∀ w : World, Calls Tryz.prog 17 #[.agg (arrV .i16 64 f), .int .u64 (bvI 18446744073709551615#64)] w fun e w' => e = .returned (.tuple #[.agg (arrV .i16 64 fun _ => 0), .int .i64 0, .int .i64 6]) ∧ Below w.heap.size w w') ∧
    (∀ w : World, ErrEnv s w → Calls Tryz.prog 16 #[.agg (arrV .i16 64 f), .int .u64 (bvI 18446744073709551615#64)] w fun e w' => e = .returned (.tuple #[.agg (arrV .i16 64 fun _ => 0), .int .i64 0, .int .i64 6]) ∧ Below w.heap.size w w') ∧
    (∀ w : World, ErrEnv s w → Calls Tryz.prog 18 #[.int .u64 (bvI 18446744073709551615#64)] w fun e w' => e = .returned (.tuple #[.int .i64 0, .int .i64 6]) ∧ Below w.heap.size w w') :=
  ⟨fun w => specRepairCells_all f hf hd w, fun w hE => RepairCells_ex s f _ _ 0 6 _ .enotfound w hE fun W hW => repairCells_all s f hd W (hE.below hW (Nat.le_refl _)),
    fun w hE => RoundsFor_ex s _ 0 6 _ .enotfound w (roundsFor_all s w hE) hE⟩
end Go.Proofs.YtiinkfnamhcekaaGreatDoor

/-
  Negatives and prints by value: the laws' copies, and what both sides' tests return. Condition: int16 numbers.
-/
import Derived.Test.YtnlcjbobfhmnmaaDoorDense
namespace Go.Proofs.YtnlcjbobfhmnmaaDoor
open Go.RowKit

/-- Numbers of int16. -/
def S16 (f : Nat → Int) : Prop := ∀ k, k < 64 → -32768 ≤ f k ∧ f k ≤ 32767
theorem dnsB_S16 {f : Nat → Int} (h : dnsB f = true) : S16 f := fun k hk => by have := dnsB_bd h hk; omega

set_option maxRecDepth 100000 in
set_option maxHeartbeats 1000000 in
theorem toNegative_16 (f : Nat → Int) (w : World) :
    Calls Tryd.prog 8 #[.agg (arrV .i16 64 f)] w fun e w' => e = .returned (.agg (arrV .i16 64 f)) ∧ Below w.heap.size w w' := by
  go_enter Tryd.func8, Tryd.ntmps8
  go_wp2_with fail
  go_loopw [4] (fun i wr => ∃ k : Nat, k ≤ 64 ∧ i = .int .i64 k ∧ HasArr wr w.heap.size 23 .i16 64 f ∧ HasArr wr (w.heap.size + 1) 31 .i16 64 (fun _ => 0) ∧ HasArr wr (w.heap.size + 1 + 1) 31 .i16 64 (mixN f k) ∧ Below w.heap.size w wr) (fun i _ => 64 - (intOf i).toNat)
  case atStart =>
    exact ⟨0, by omega, rfl, ((HasArr.new w _ _ _ _).alloc _).alloc _, (HasArr.zero _ _ (by simp)).alloc _, (HasArr.zero _ _ (by simp)).congr (fun j _ => by simp [mixN]), (((Below.refl _ _).alloc (Nat.le_refl _) _).alloc (by simp) _).alloc (by simp; omega) _⟩
  case round =>
    obtain ⟨k, hk, rfl, h1, h2, h3, hB⟩ := hrel
    by_cases hkn : k < 64
    · have c1 := h1.cell hkn
      have c3 := h3.cell hkn
      have f3 := h3.free k
      have k3 := (h3.set k (f k)).congr (fun j _ => mixN_step f k j)
      have k2 := h2.other (a := ⟨w.heap.size + 1 + 1, k, none⟩) (by simp) (.int .i16 (f k))
      have k1 := h1.other (a := ⟨w.heap.size + 1 + 1, k, none⟩) (by simp; omega) (.int .i16 (f k))
      have kB := hB.setCell (p := ⟨w.heap.size + 1 + 1, k, none⟩) (by simp; omega) (.int .i16 (f k))
      have K := Lib.hid (And.intro k1 (And.intro k2 (And.intro k3 kB)))
      clear k1 k2 k3 kB h1 h2 h3 hB
      go_wp2
      go_roundw
      case rel => exact ⟨k + 1, by omega, by go_num, K.out⟩
      case measure => simp [intOf]; omega
    · obtain rfl : k = 64 := by omega
      have h3 := h3.congr (g := f) (fun j hj => by simp [mixN, hj])
      have h2' := h2.setRow .i16 f
      have hB' := below_setRow hB (b := w.heap.size + 1) (by omega) (arrV .i16 64 f)
      go_wp2_with (first | (refine wpList_load_arr h3 _ _ rfl rfl rfl Tryd.underlying31 sizeNeg ?_) | (refine wpList_store_arr h2 _ _ _ rfl rfl rfl rfl sizeNeg ?_))
      refine bodyPost_ret (v := .agg (arrV .i16 64 f)) ?_ rfl ⟨rfl, hB'⟩
      exact results_cell_row rfl _ _ _ _ _ _ _ rfl h2' Tryd.underlying31 rfl (by rw [arrV_size]; exact sizeNeg)

set_option maxRecDepth 100000 in
set_option maxHeartbeats 1000000 in
theorem l03Negative_any (b : Nat) (T : TypeId) (f : Nat → Int) (hf : S16 f) (w : World) (h : HasArr w b T .i16 64 f) :
    Calls Tryd.prog 21 #[.pointer (some ⟨b, 0, none⟩)] w fun e w' => e = .returned (.bool (dnsB f)) ∧ Below w.heap.size w w' := by
  have a2 := HasArr.zero w 23 (b := w.heap.size) rfl
  have a3 := a2.setRow .i16 f
  have kB := below_setRow ((Below.refl w.heap.size w).alloc (Nat.le_refl _) (.cells #[.int .i16 0, .int .i16 0, .int .i16 0, .int .i16 0, .int .i16 0, .int .i16 0, .int .i16 0, .int .i16 0, .int .i16 0, .int .i16 0, .int .i16 0, .int .i16 0, .int .i16 0, .int .i16 0, .int .i16 0, .int .i16 0, .int .i16 0, .int .i16 0, .int .i16 0, .int .i16 0, .int .i16 0, .int .i16 0, .int .i16 0, .int .i16 0, .int .i16 0, .int .i16 0, .int .i16 0, .int .i16 0, .int .i16 0, .int .i16 0, .int .i16 0, .int .i16 0, .int .i16 0, .int .i16 0, .int .i16 0, .int .i16 0, .int .i16 0, .int .i16 0, .int .i16 0, .int .i16 0, .int .i16 0, .int .i16 0, .int .i16 0, .int .i16 0, .int .i16 0, .int .i16 0, .int .i16 0, .int .i16 0, .int .i16 0, .int .i16 0, .int .i16 0, .int .i16 0, .int .i16 0, .int .i16 0, .int .i16 0, .int .i16 0, .int .i16 0, .int .i16 0, .int .i16 0, .int .i16 0, .int .i16 0, .int .i16 0, .int .i16 0, .int .i16 0] 23)) (b := w.heap.size) (by omega) (arrV .i16 64 f)
  have hd := l03Dense_any w.heap.size 23 f hf _ a3
  have Hd := Lib.hid hd; clear hd
  have KB := Lib.hid kB; clear kB
  clear a3 hf
  go_enter Tryd.func21, Tryd.ntmps21
  go_wp2_with (first | (refine wpList_load_arr h _ _ rfl rfl rfl Tryd.underlying31 sizeNeg ?_) | (refine wpList_store_arr a2 _ _ _ rfl rfl rfl rfl sizeA64 ?_) | (go_at_call 35; refine Hd.out.mono ?_; rintro e w' ⟨rfl, rfl⟩))
  go_ret
  exact ⟨rfl, KB.out⟩

set_option maxRecDepth 100000 in
set_option maxHeartbeats 1000000 in
theorem ValidNegative_any (f : Nat → Int) (w : World) :
    Calls Tryd.prog 40 #[.agg (arrV .i16 64 f)] w fun e w' => e = .returned (.bool (dnsB f)) ∧ Below w.heap.size w w' := by
  have a1 := HasArr.new w 31 .i16 64 f
  have kB := (Below.refl w.heap.size w).alloc (Nat.le_refl _) (.cells (arrV .i16 64 f) 31)
  have KB := Lib.hid kB; clear kB
  go_enter Tryd.func40, Tryd.ntmps40
  go_wp2_with (first | (refine wpList_load_arr a1 _ _ rfl rfl rfl Tryd.underlying31 sizeNeg ?_) | (go_at_call 56; refine (areOnScale_any _ _).mono ?_; rintro e w1 ⟨rfl, hb1⟩))
  go_ret
  exact ⟨rfl, KB.out.trans (hb1.mono KB.out.size)⟩

set_option maxRecDepth 100000 in
set_option maxHeartbeats 1000000 in
theorem toPrint_16 (f : Nat → Int) (w : World) :
    Calls Tryd.prog 16 #[.agg (arrV .i16 64 f)] w fun e w' => e = .returned (.agg (arrV .i16 64 f)) ∧ Below w.heap.size w w' := by
  go_enter Tryd.func16, Tryd.ntmps16
  go_wp2_with fail
  go_loopw [4] (fun i wr => ∃ k : Nat, k ≤ 64 ∧ i = .int .i64 k ∧ HasArr wr w.heap.size 23 .i16 64 f ∧ HasArr wr (w.heap.size + 1) 28 .i16 64 (fun _ => 0) ∧ HasArr wr (w.heap.size + 1 + 1) 28 .i16 64 (mixN f k) ∧ Below w.heap.size w wr) (fun i _ => 64 - (intOf i).toNat)
  case atStart =>
    exact ⟨0, by omega, rfl, ((HasArr.new w _ _ _ _).alloc _).alloc _, (HasArr.zero _ _ (by simp)).alloc _, (HasArr.zero _ _ (by simp)).congr (fun j _ => by simp [mixN]), (((Below.refl _ _).alloc (Nat.le_refl _) _).alloc (by simp) _).alloc (by simp; omega) _⟩
  case round =>
    obtain ⟨k, hk, rfl, h1, h2, h3, hB⟩ := hrel
    by_cases hkn : k < 64
    · have c1 := h1.cell hkn
      have c3 := h3.cell hkn
      have f3 := h3.free k
      have k3 := (h3.set k (f k)).congr (fun j _ => mixN_step f k j)
      have k2 := h2.other (a := ⟨w.heap.size + 1 + 1, k, none⟩) (by simp) (.int .i16 (f k))
      have k1 := h1.other (a := ⟨w.heap.size + 1 + 1, k, none⟩) (by simp; omega) (.int .i16 (f k))
      have kB := hB.setCell (p := ⟨w.heap.size + 1 + 1, k, none⟩) (by simp; omega) (.int .i16 (f k))
      have K := Lib.hid (And.intro k1 (And.intro k2 (And.intro k3 kB)))
      clear k1 k2 k3 kB h1 h2 h3 hB
      go_wp2
      go_roundw
      case rel => exact ⟨k + 1, by omega, by go_num, K.out⟩
      case measure => simp [intOf]; omega
    · obtain rfl : k = 64 := by omega
      have h3 := h3.congr (g := f) (fun j hj => by simp [mixN, hj])
      have h2' := h2.setRow .i16 f
      have hB' := below_setRow hB (b := w.heap.size + 1) (by omega) (arrV .i16 64 f)
      go_wp2_with (first | (refine wpList_load_arr h3 _ _ rfl rfl rfl Tryd.underlying28 sizePrint ?_) | (refine wpList_store_arr h2 _ _ _ rfl rfl rfl rfl sizePrint ?_))
      refine bodyPost_ret (v := .agg (arrV .i16 64 f)) ?_ rfl ⟨rfl, hB'⟩
      exact results_cell_row rfl _ _ _ _ _ _ _ rfl h2' Tryd.underlying28 rfl (by rw [arrV_size]; exact sizePrint)

set_option maxRecDepth 100000 in
set_option maxHeartbeats 1000000 in
theorem l03Print_any (b : Nat) (T : TypeId) (f : Nat → Int) (hf : S16 f) (w : World) (h : HasArr w b T .i16 64 f) :
    Calls Tryd.prog 31 #[.pointer (some ⟨b, 0, none⟩)] w fun e w' => e = .returned (.bool (dnsB f)) ∧ Below w.heap.size w w' := by
  have a2 := HasArr.zero w 23 (b := w.heap.size) rfl
  have a3 := a2.setRow .i16 f
  have kB := below_setRow ((Below.refl w.heap.size w).alloc (Nat.le_refl _) (.cells #[.int .i16 0, .int .i16 0, .int .i16 0, .int .i16 0, .int .i16 0, .int .i16 0, .int .i16 0, .int .i16 0, .int .i16 0, .int .i16 0, .int .i16 0, .int .i16 0, .int .i16 0, .int .i16 0, .int .i16 0, .int .i16 0, .int .i16 0, .int .i16 0, .int .i16 0, .int .i16 0, .int .i16 0, .int .i16 0, .int .i16 0, .int .i16 0, .int .i16 0, .int .i16 0, .int .i16 0, .int .i16 0, .int .i16 0, .int .i16 0, .int .i16 0, .int .i16 0, .int .i16 0, .int .i16 0, .int .i16 0, .int .i16 0, .int .i16 0, .int .i16 0, .int .i16 0, .int .i16 0, .int .i16 0, .int .i16 0, .int .i16 0, .int .i16 0, .int .i16 0, .int .i16 0, .int .i16 0, .int .i16 0, .int .i16 0, .int .i16 0, .int .i16 0, .int .i16 0, .int .i16 0, .int .i16 0, .int .i16 0, .int .i16 0, .int .i16 0, .int .i16 0, .int .i16 0, .int .i16 0, .int .i16 0, .int .i16 0, .int .i16 0, .int .i16 0] 23)) (b := w.heap.size) (by omega) (arrV .i16 64 f)
  have hd := l03Dense_any w.heap.size 23 f hf _ a3
  have Hd := Lib.hid hd; clear hd
  have KB := Lib.hid kB; clear kB
  clear a3 hf
  go_enter Tryd.func31, Tryd.ntmps31
  go_wp2_with (first | (refine wpList_load_arr h _ _ rfl rfl rfl Tryd.underlying28 sizePrint ?_) | (refine wpList_store_arr a2 _ _ _ rfl rfl rfl rfl sizeA64 ?_) | (go_at_call 35; refine Hd.out.mono ?_; rintro e w' ⟨rfl, rfl⟩))
  go_ret
  exact ⟨rfl, KB.out⟩

set_option maxRecDepth 100000 in
set_option maxHeartbeats 1000000 in
theorem ValidPrint_any (f : Nat → Int) (w : World) :
    Calls Tryd.prog 46 #[.agg (arrV .i16 64 f)] w fun e w' => e = .returned (.bool (dnsB f)) ∧ Below w.heap.size w w' := by
  have a1 := HasArr.new w 28 .i16 64 f
  have kB := (Below.refl w.heap.size w).alloc (Nat.le_refl _) (.cells (arrV .i16 64 f) 28)
  have KB := Lib.hid kB; clear kB
  go_enter Tryd.func46, Tryd.ntmps46
  go_wp2_with (first | (refine wpList_load_arr a1 _ _ rfl rfl rfl Tryd.underlying28 sizePrint ?_) | (go_at_call 56; refine (areOnScale_any _ _).mono ?_; rintro e w1 ⟨rfl, hb1⟩))
  go_ret
  exact ⟨rfl, KB.out.trans (hb1.mono KB.out.size)⟩
end Go.Proofs.YtnlcjbobfhmnmaaDoor

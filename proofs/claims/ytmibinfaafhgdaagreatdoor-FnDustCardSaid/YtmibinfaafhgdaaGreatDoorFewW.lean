/-
  Frames picked, by the program: the list of prints alone (the theorem of XPickI, for a seat without sheets). Condition: at most 12 indices, each one of the list's.
-/
import Derived.Test.YtmibinfaafhgdaaGreatDoorPrnX
import Derived.Test.YtmibinfaafhgdaaGreatDoorFewU
import Derived.Test.YtmibinfaafhgdaaGreatDoorFewY
import Derived.Laws.Slices
import Derived.Maps.AppendAt
namespace Go.Proofs.YtmibinfaafhgdaaGreatDoor
open Go.RowKit
def picG (g : Nat → Nat → Int) (xs : Nat → Int) : Nat → Nat → Int := fun j => g (xs j).toNat
theorem prL_snoc (G : Nat → Nat → Int) (h : Nat → Nat → Int) (j : Nat) (e : h 0 = G j) : prL (appF G h j) (j + 1) = prL G (j + 1) :=
  prL_congr fun i hi k _ => by
    unfold appF
    by_cases h1 : i < j
    · rw [if_pos h1]
    · rw [if_neg h1, show i - j = 0 by omega, e, show i = j by omega]

set_option maxRecDepth 100000 in
set_option maxHeartbeats 4000000 in
theorem picked_any (A : Option Addr) (n cap : Nat) (g : Nat → Nat → Int) (B : Option Addr) (m c : Nat) (xs : Nat → Int) (hm : m ≤ 12) (w : World) (hr : PrsIn w A n g) (hi : IntsIn w B m xs) (ha : ∀ i, i < m → inB (xs i) 0 ((n : Int) - 1) = true) :
    Calls Tryz.prog 59 #[.slice A n cap, .slice B m c] w fun e w' => ∃ q cq, e = .returned (.slice (some ⟨q, 0, none⟩) m cq) ∧ w.heap.size ≤ q ∧ PrRow w' q m (picG g xs) ∧ Below w.heap.size w w' := by
  obtain ⟨i0, hi0, hz0, hz1, hz2⟩ := info_parts prInfo
  have hmk := fun W => run_make_rowPr (P := Tryz.prog) 104 29 i0 _ Tryz.underlying104 hi0 hz0 .i64 .i64 0 m (Nat.zero_le _) (by rw [hz2]; omega) (by omega) W
  rw [hz1] at hmk
  simp only [Value.cells] at hmk
  rw [zeroArr16] at hmk
  clear hi0 hz0 hz1 hz2
  have o0 := World.ownsRow_made (base := w.heap.size) (e := 29) (size := 64) w (madeCells (arrV .i16 64 fun _ => 0) (m * 64)) m (Nat.le_refl _) (by unfold maxLen; omega) (size_madeCells _ _)
  have hB0 := (Below.refl w.heap.size w).alloc (Nat.le_refl _) (.cells (madeCells (arrV .i16 64 fun _ => 0) (m * 64)) 29)
  generalize madeCells (arrV .i16 64 fun _ => 0) (m * 64) = Z at *
  have hmk : ∀ W : World, (Instr.makeSlice 104 (.int .i64 0) (.int .i64 (m : Int))).run Tryz.prog W = .ok (.slice (some ⟨W.heap.size, 0, none⟩) 0 m) (W.alloc (.cells Z 29)) := hmk
  have O0 := Lib.hid (And.intro o0 hB0); clear o0 hB0
  have HA := Lib.hid ha; clear ha
  go_enter Tryz.func59, Tryz.ntmps59
  go_wp2_with fail
  go_loopw [5, 13] (fun lv jv wr => ∃ (k q cq : Nat), k ≤ m ∧ jv = .int .i64 (k : Int) ∧ lv = .slice (some ⟨q, 0, none⟩) k cq ∧ wr.ownsRow w.heap.size 29 64 (.slice (some ⟨q, 0, none⟩) k cq) k (prL (picG g xs) k) ∧ Below w.heap.size w wr) (fun _ jv _ => m - (intOf jv).toNat)
  case atStart => exact ⟨0, _, _, Nat.zero_le _, rfl, rfl, by simpa [prL_nil] using O0.out.1, O0.out.2⟩
  case round =>
    clear O0 hmk
    obtain ⟨k, q, cq, hk, rfl, rfl, ho, hB2⟩ := hrel
    by_cases hkm : k < m
    · rcases hi.below hB2 (Nat.le_refl _) with h0 | ⟨b, o, rfl, hlt, hc⟩
      · exfalso; omega
      rcases hr.below hB2 (Nat.le_refl _) with h0 | ⟨bp, op, rfl, hltp, hcp⟩
      · have := inB_true.1 (HA.out k hkm); exfalso; omega
      have cj := hc k hkm
      have hin := inB_true.1 (HA.out k hkm)
      obtain ⟨p, hp⟩ : ∃ p : Nat, xs k = (p : Int) := ⟨(xs k).toNat, by omega⟩
      have hpn : p < n := by omega
      have hpn' : (p : Int) < n := by omega
      have hG : Hid (picG g xs k = g p) := Lib.hid (by unfold picG; rw [hp, Int.toNat_natCast])
      rw [hp] at cj
      have pk := hcp p hpn
      have hk' : (k : Int) < m := by omega
      have ho5 := Lib.hid (ho.alloc (.cells (arrV .i16 64 (g p)) 29))
      have hx5 := Lib.hid (lit_at wr (g p))
      have hS5 := Lib.hid (hB2.alloc hB2.size (.cells (arrV .i16 64 (g p)) 29))
      have hn5 : Hid (k + 1 ≤ 2097152) := Lib.hid (by omega)
      clear hc hcp hp hin ho hB2 hi hr
      go_wp2_with (first | (refine wpList_load_part pk 29 (.tmp 20) rfl rfl rfl Tryz.underlying29 sizePrint ?_) | (refine wpList_lit_pr (.tmp 21) rfl rfl Tryz.underlying104 rfl rfl ?_) | (at_builtin; refine wpList_append_prs (c := 1) rfl (.tmp 17) (.tmp 22) rfl Tryz.underlying104 rfl ho5.out (.inr (by omega)) rfl hx5.out hn5.out hS5.out.size ?_; intro gg cq6 w6 hown6 hbl6 hgr6))
      have hS6 := hS5.out.trans hbl6
      rw [prL_snoc _ _ _ hG.out.symm] at hown6
      clear hbl6 hgr6
      go_roundw
      case rel => exact ⟨k + 1, gg, cq6, by omega, by go_num, rfl, hown6, hS6⟩
      case measure => simp [intOf]; omega
    · obtain rfl : k = m := by omega
      have hown := own_row ho
      clear ho
      go_wp2_with fail
      go_ret
      exact ⟨_, _, rfl, hown.1, hown.2, hB2⟩
end Go.Proofs.YtmibinfaafhgdaaGreatDoor

namespace Go.Proofs.YtmibinfaafhgdaaGreatDoor
open Go.RowKit

theorem yields_load_ds {ops : Array Oper} {S : World → Prop} {op : Oper} {a : Act} {q b : Nat} {m : Nat → Int} (h : ∀ W, S W → HasDs W q m b) (x : Operand)
    (hgd : op.guard = none) (ho : op.op = .load 90 x) (hx : a.eval x = .pointer (some ⟨q, 0, none⟩)) : YieldsIf Tryz.prog ops S op (.agg (dsV m b)) a :=
  .inl ⟨by simp [Region.wanted, hgd], fun W hW => by
    have e := run_loadVar_row (P := Tryz.prog) W q _ 90 _ (0, 0) _ (h W hW) Tryz.underlying90 rfl (by rw [dsV_size]; exact sizeDs)
    simp [execOp, ho, hx, Instr.loadAt, Instr.sureAddr, e, Result.andThen]⟩

set_option maxRecDepth 100000 in
set_option maxHeartbeats 8000000 in
theorem few1_any (A : Option Addr) (n cap : Nat) (g : Nat → Nat → Int) (M : Nat → Int) (b N : Nat) (G : Nat → Int) (D : Nat → BitVec 64) (hG : ∀ i, i < n → G i = bvI (D i)) (hs : ∀ i, i < n → S16 (g i)) (X : BitVec 64)
    (B : Option Addr) (m c : Nat) (xs : Nat → Int) (hm : m ≤ 12) (ha : ∀ i, i < m → inB (xs i) 0 ((n : Int) - 1) = true) (q6 q2 q8 : Nat) (w : World) (hr : PrsIn w A n g) (hi : IntsIn w B m xs) (hd : DMap w b N g G n)
    (h6 : HasDs w q6 M b) (h2 : w.cell? ⟨q2, 0, none⟩ = some (.slice A n cap)) (h8 : w.cell? ⟨q8, 0, none⟩ = some (.int .u64 (bvI X))) :
    Calls Tryz.prog 58 #[.slice B m c, .pointer (some ⟨q6, 0, none⟩), .pointer (some ⟨q2, 0, none⟩), .pointer (some ⟨q8, 0, none⟩)] w fun e w' => e = .returned (.bool (!decide (anD (fun j => D (xs j).toNat) m = X))) ∧ Below w.heap.size w w' := by
  have HP := Lib.hid (fun W (hb : Below w.heap.size w W) => (picked_any A n cap g B m c xs hm W (hr.below hb (Nat.le_refl _)) (hi.below hb (Nat.le_refl _)) ha).mono fun e w' h => show ∃ q cq, e = .returned (.slice (some ⟨q, 0, none⟩) m cq) ∧ PrRow w' q m (picG g xs) ∧ Below w.heap.size w w' by
    obtain ⟨q, cq, h1, _, h3, h4⟩ := h
    exact ⟨q, cq, h1, h3, hb.trans (h4.mono hb.size)⟩)
  have HD := Lib.hid (fun W q cq (hb : Below w.heap.size w W) (hrow : PrRow W q m (picG g xs)) => (dustInAll_any M b N n g G D hG hs (some ⟨q, 0, none⟩) m cq (picG g xs) (fun j => (xs j).toNat) (fun i h => ⟨by have := inB_true.1 (ha i h); omega, rfl⟩) (by omega) W (hd.below hb hd.lt) hrow.prs).mono fun e w' h => show e = .returned (.int .u64 (bvI (anD (fun j => D (xs j).toNat) m))) ∧ Below w.heap.size w w' from ⟨h.1, hb.trans (h.2.mono hb.size)⟩)
  have H6 := Lib.hid h6
  have H8 := Lib.hid (fun W (hb : Below w.heap.size w W) => below_cellOf hb h8 (Nat.le_refl _))
  have hl8 := World.block_lt_of_cell? w _ h8
  clear hr hi hd hG hs ha h6
  generalize anD (fun j => D (xs j).toNat) m = Y at *
  go_enter Tryz.func58, Tryz.ntmps58
  go_wp2_with fail
  refine wp_region_held (S := fun W => HasDs W q6 M b ∧ W.cell? ⟨q2, 0, none⟩ = some (.slice A n cap) ∧ W.cell? ⟨q8, 0, none⟩ = some (.int .u64 (bvI X))) (by kernel_rfl) ?_
  have hB0 := below_drew1 w
  have HS := Lib.hid (fun W (hb : Below w.heap.size w W) => show HasDs W q6 M b ∧ W.cell? ⟨q2, 0, none⟩ = some (.slice A n cap) ∧ W.cell? ⟨q8, 0, none⟩ = some (.int .u64 (bvI X)) from ⟨H6.out.below hb H6.out.lt, below_cellOf hb h2 (Nat.le_refl _), H8.out W hb⟩)
  have hS0 := HS.out _ hB0
  show wpAnyH _ _ _ _ _ _ _ _ w.drew
  clear h2 h8
  generalize w.drew = Wd at *
  simp only [List.size_toArray, List.length_cons, List.length_nil]
  refine wpAnyH_take (i := 0) (v := .agg (dsV M b)) rfl (by kernel_rfl) (by kernel_rfl) (by kernel_rfl) (fun _ _ _ h => h) (yields_load_ds (fun W hW => hW.1) (.tmp 1) rfl rfl (by go_simp)) hS0 ?_
  go_frame
  refine wpAnyH_take (i := 1) (v := .slice A n cap) rfl (by kernel_rfl) (by kernel_rfl) (by kernel_rfl) (fun _ _ _ h => h) (.inl ⟨by rfl, fun W hW => by have h := hW.2.1; go_simp⟩) hS0 ?_
  go_frame
  refine wpAnyH_take (i := 2) (v := .slice B m c) rfl (by kernel_rfl) (by kernel_rfl) (by kernel_rfl) (fun _ _ _ h => h) (.inl ⟨by rfl, fun W _ => by go_simp⟩) hS0 ?_
  go_frame
  refine wpAnyH_take (i := 5) (v := .int .u64 (bvI X)) rfl (by kernel_rfl) (by kernel_rfl) (by kernel_rfl) (fun _ _ _ h => h) (.inl ⟨by rfl, fun W hW => by have h := hW.2.2; go_simp⟩) hS0 ?_
  go_frame
  refine wpAnyH_ready (rs := [3]) (by kernel_rfl) (by decide) ?_
  refine AllReadyH.cons rfl ?_ AllReadyH.nil
  intro K5 hK5
  go_simp
  refine (HP.out _ hB0).mono ?_; rintro e w9 ⟨qq, cq, rfl, hrow, hb9⟩
  have HR9 := Lib.hid hrow
  clear hrow HP hS0
  go_wp2_with fail
  refine hK5.out _ _ (HS.out _ hb9) (fun _ => ?_)
  clear hK5 K5
  refine wpAnyH_ready (rs := [4]) (by kernel_rfl) (by decide) ?_
  refine AllReadyH.cons rfl ?_ AllReadyH.nil
  intro K6 hK6
  go_simp
  refine (HD.out _ _ _ hb9 HR9.out).mono ?_; rintro e w10 ⟨rfl, hb10⟩
  have hS1 := HS.out _ hb10
  clear HD HR9 hb9
  go_wp2_with fail
  refine hK6.out _ _ hS1 (fun _ => ?_)
  clear hK6 K6
  refine wpAnyH_take (i := 6) (v := .bool (!decide (Y = X))) rfl (by kernel_rfl) (by kernel_rfl) (by kernel_rfl) (fun _ _ _ h => h) (.inl ⟨by rfl, fun W _ => run_neq_bv (a := Y) (b := X) rfl rfl rfl⟩) hS1 ?_
  go_frame
  refine wpAnyH_ready (rs := [7]) (by kernel_rfl) (by decide) ?_
  refine AllReadyH.cons rfl ?_ AllReadyH.nil
  intro KZ hKZ
  go_simp
  refine hKZ.out _ _ hS1 (fun _ => ?_)
  clear hKZ KZ
  refine wpAnyH_done (by kernel_rfl) ?_ _
  go_wp2_with fail
  go_ret
  exact ⟨rfl, hb10⟩
end Go.Proofs.YtmibinfaafhgdaaGreatDoor

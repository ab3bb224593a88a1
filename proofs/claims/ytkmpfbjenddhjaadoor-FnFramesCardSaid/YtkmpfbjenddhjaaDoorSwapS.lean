/-
  Two frames exchanged, by the reference. Condition: at most 1048576 frames of int16 numbers.
-/
import Derived.Test.YtkmpfbjenddhjaaDoorWith
import Derived.Test.YtkmpfbjenddhjaaDoorFrs
namespace Go.Proofs.YtkmpfbjenddhjaaDoor
open Go.RowKit

/-- The code of a sheet and two frames. -/
def swpC (X : Int) (n : Nat) (g : Nat → Nat → Int) (i k : Int) : Int := if askC X n g i = 0 then askC X n g k else askC X n g i
theorem askC_cases (X : Int) (n : Nat) (g : Nat → Nat → Int) (i : Int) : (askC X n g i = 0 ∧ shtB X n g = true ∧ 0 ≤ i ∧ i ≤ (n : Int) - 1) ∨ askC X n g i = 1 ∨ askC X n g i = 2 := by
  rcases h : shtB X n g with _ | _
  · exact .inr (.inl (askC_bad h))
  · rcases h' : inB i 0 ((n : Int) - 1) with _ | _
    · exact .inr (.inr (askC_no h h'))
    · exact .inl ⟨askC_ok h h', rfl, inB_true.1 h'⟩
/-- Frames, two of them exchanged. -/
def swpF (g : Nat → Nat → Int) (i k : Nat) : Nat → Nat → Int := fun j => if j = k then g i else if j = i then g k else g j
/-- A sheet of a call's own, with a code. -/
def ShtOut (L : Nat) (X : Int) (n : Nat) (g : Nat → Nat → Int) (c : Int) (w : World) (e : Ending) (w' : World) : Prop :=
  ∃ v, e = .returned (.tuple #[.agg #[.int .i8 X, v], .int .i64 c]) ∧ Mine w' L w'.heap.size 58 64 v n (prF g) ∧ Below w.heap.size w w'
theorem PrRow.mineL {w : World} {L q n : Nat} {g : Nat → Nat → Int} (h : PrRow w q n g) (cap : Nat) (hL : L ≤ q) : Mine w L w.heap.size 58 64 (.slice (some ⟨q, 0, none⟩) n cap) n (prF g) :=
  (h.mine cap).mono hL h.lt
section
variable {w w' : World} {b o n : Nat} {κ : IntKind} {f : Nat → Int}
theorem PartA.stored {b' o' n' : Nat} {κ' : IntKind} {f' : Nat → Int} (h : PartA w b o κ n f) (s : StoredP w w' b' o' n' κ' f') (hne : b ≠ b') : PartA w' b o κ n f := fun k hk => by
  rw [World.cell?_of_block (w := w) (a := ⟨b, o + k, none⟩) (s.other b hne)]; exact h k hk
theorem cell_stored {p : Addr} {v : Value} {b' o' n' : Nat} {κ' : IntKind} {f' : Nat → Int} (h : w.cell? p = some v) (s : StoredP w w' b' o' n' κ' f') (hne : p.block ≠ b') : w'.cell? p = some v := by
  rw [World.cell?_of_block (w := w) (a := p) (s.other p.block hne)]; exact h
theorem frozen_stored {p : Addr} {v : Bool} {b' o' n' : Nat} {κ' : IntKind} {f' : Nat → Int} (h : w.frozen? p = v) (s : StoredP w w' b' o' n' κ' f') (hne : p.block ≠ b') : w'.frozen? p = v := by
  rw [World.frozen?_of_block (w := w) (a := p) (s.other p.block hne)]; exact h
end

set_option maxRecDepth 100000 in
set_option maxHeartbeats 8000000 in
theorem specSwap_ok (X : Int) (A : Option Addr) (n cap : Nat) (g : Nat → Nat → Int) (i k : Nat) (hn : n ≤ 1048576) (hX : -128 ≤ X ∧ X ≤ 127) (hs : ∀ i, i < n → S16 (g i)) (hi : i < n) (hk : k < n) (h0i : askC X n g i = 0) (h0k : askC X n g k = 0) (w : World) (hr : PrsIn w A n g) :
    Calls Tryd.prog 7 #[.agg #[.int .i8 X, .slice A n cap], .int .i64 (i : Int), .int .i64 (k : Int)] w (ShtOut w.heap.size X n (swpF g i k) 0 w) := by
  have k0 := ((Below.refl w.heap.size w).alloc (Nat.le_refl _) (.cells #[.int .i8 X, .slice A n cap] 29)).alloc (by simp) (.cells #[.int .i8 0, .slice none 0 0] 29)
  have hq := fun j W c0 c1 hp => l07Asked_any w.heap.size X A n cap g j hn hX hs W c0 c1 hp
  have hqi := hq (i : Int)
  have hqk := hq (k : Int)
  clear hq
  rw [h0i] at hqi
  rw [h0k] at hqk
  have Hqi := Lib.hid hqi; have Hqk := Lib.hid hqk; clear hqi hqk hs
  have d0 : ((w.alloc (.cells #[.int .i8 X, .slice A n cap] 29)).alloc (.cells #[.int .i8 0, .slice none 0 0] 29)).cell? ⟨w.heap.size, 0, none⟩ = some (.int .i8 X) := by simp
  have d1 : ((w.alloc (.cells #[.int .i8 X, .slice A n cap] 29)).alloc (.cells #[.int .i8 0, .slice none 0 0] 29)).cell? ⟨w.heap.size, 1, none⟩ = some (.slice A n cap) := by simp
  have r0 : ((w.alloc (.cells #[.int .i8 X, .slice A n cap] 29)).alloc (.cells #[.int .i8 0, .slice none 0 0] 29)).cell? ⟨w.heap.size + 1, 0, none⟩ = some (.int .i8 0) := by simp
  have r1 : ((w.alloc (.cells #[.int .i8 X, .slice A n cap] 29)).alloc (.cells #[.int .i8 0, .slice none 0 0] 29)).cell? ⟨w.heap.size + 1, 1, none⟩ = some (.slice none 0 0) := by simp
  have f0 : ((w.alloc (.cells #[.int .i8 X, .slice A n cap] 29)).alloc (.cells #[.int .i8 0, .slice none 0 0] 29)).frozen? ⟨w.heap.size + 1, 0, none⟩ = false := by simp
  have f1 : ((w.alloc (.cells #[.int .i8 X, .slice A n cap] 29)).alloc (.cells #[.int .i8 0, .slice none 0 0] 29)).frozen? ⟨w.heap.size + 1, 1, none⟩ = false := by simp
  have hsz : w.heap.size + 1 < ((w.alloc (.cells #[.int .i8 X, .slice A n cap] 29)).alloc (.cells #[.int .i8 0, .slice none 0 0] 29)).heap.size := by simp
  rcases hr with h0 | ⟨b, o, rfl, hlt, hc⟩
  · exfalso; omega
  have hP : PrsAt w b o n g := hc
  have hP0 := Lib.hid (hP.below k0 hlt)
  clear hP hc h0i h0k
  go_enter Tryd.func7, Tryd.ntmps7
  go_wp2_with fail
  generalize ((w.alloc (.cells #[.int .i8 X, .slice (some ⟨b, o, none⟩) n cap] 29)).alloc (.cells #[.int .i8 0, .slice none 0 0] 29)) = W0 at *
  refine (Hqi.out _ d0 d1 (hP0.out.prs (by have := k0.size; omega))).mono ?_; rintro e w1 ⟨rfl, hb1⟩
  have k1 := k0.trans (hb1.mono k0.size)
  have d10 := below_cellOf hb1 d0 (Nat.le_refl _)
  have d11 := below_cellOf hb1 d1 (Nat.le_refl _)
  have hP1 := Lib.hid (hP0.out.below hb1 (by have := k0.size; omega))
  have R1 := Lib.hid hb1
  clear hb1 d0 d1
  go_wp2_with fail
  refine (Hqk.out _ d10 d11 (hP1.out.prs (by have := k1.size; omega))).mono ?_; rintro e w2 ⟨rfl, hb2⟩
  have k2 := k1.trans (hb2.mono k1.size)
  have d20 := below_cellOf hb2 d10 (Nat.le_refl _)
  have d21 := below_cellOf hb2 d11 (Nat.le_refl _)
  have hP2 := Lib.hid (hP1.out.below hb2 (by have := k1.size; omega))
  have R2 := Lib.hid (R1.out.trans (hb2.mono R1.out.size))
  clear hb2 d10 d11 R1 hP1 hP0 k1
  go_wp2_with fail
  refine (l07With_any w.heap.size X b o n cap g hn _ d20 hP2.out (by have := k2.size; omega)).mono ?_; rintro e w3 ⟨q, cq, rfl, hq2, hR3, hb3⟩
  have k3 := k2.trans (hb3.mono k2.size)
  have d31 := below_cellOf hb3 d21 (Nat.le_refl _)
  have hP3 := hP2.out.below hb3 (by have := k2.size; omega)
  have R3 := R2.out.trans (hb3.mono R2.out.size)
  have s0 := below_cellOf R3 r0 (Nat.le_refl _)
  have s1 := below_cellOf R3 r1 (Nat.le_refl _)
  have u0 : w3.frozen? ⟨w.heap.size + 1, 0, none⟩ = false := by rw [R3.frozen (p := ⟨w.heap.size + 1, 0, none⟩) hsz]; exact f0
  have u1 : w3.frozen? ⟨w.heap.size + 1, 1, none⟩ = false := by rw [R3.frozen (p := ⟨w.heap.size + 1, 1, none⟩) hsz]; exact f1
  have z2 := k2.size
  have z20 := R2.out.size
  have z23 := hb3.size
  have hq3 := hR3.lt
  clear r0 r1 f0 f1 R2 R3 hb3 d20 d21 hP2 k0 k2
  have t3 := (Below.refl w3.heap.size w3).alloc (Nat.le_refl _) (.cells #[.int .i8 X, .slice (some ⟨q, 0, none⟩) n cq] 29)
  have o0 : (w3.alloc (.cells #[.int .i8 X, .slice (some ⟨q, 0, none⟩) n cq] 29)).cell? ⟨w3.heap.size, 0, none⟩ = some (.int .i8 X) := by simp
  have o1 : (w3.alloc (.cells #[.int .i8 X, .slice (some ⟨q, 0, none⟩) n cq] 29)).cell? ⟨w3.heap.size, 1, none⟩ = some (.slice (some ⟨q, 0, none⟩) n cq) := by simp
  have k4 := k3.trans (t3.mono k3.size)
  have d41 := below_cellOf t3 d31 (Nat.le_refl _)
  have s40 := below_cellOf t3 s0 (Nat.le_refl _)
  have s41 := below_cellOf t3 s1 (Nat.le_refl _)
  have u40 := (t3.frozen (p := ⟨w.heap.size + 1, 0, none⟩) (by show w.heap.size + 1 < w3.heap.size; omega)).trans u0
  have u41 := (t3.frozen (p := ⟨w.heap.size + 1, 1, none⟩) (by show w.heap.size + 1 < w3.heap.size; omega)).trans u1
  have hP4 := hP3.below t3 (by omega)
  have hR4 := hR3.below t3 hq3
  clear k3 d31 s0 s1 u0 u1 hP3 hR3
  go_wp2_with fail
  generalize (w3.alloc (.cells #[.int .i8 X, .slice (some ⟨q, 0, none⟩) n cq] 29)) = W4 at *
  have pk := hP4 k hk
  have hi' : (i : Int) < n := by omega
  have hk' : (k : Int) < n := by omega
  have hqz : ¬ q = w3.heap.size := by omega
  have hqr : ¬ q = w.heap.size + 1 := by omega
  have hqs : ¬ q = w.heap.size := by omega
  have hqb : ¬ b = q := by omega
  have HX := Lib.hid (And.intro hX (And.intro hP4 (And.intro hR4 (And.intro k4 (And.intro s40 (And.intro s41 (And.intro u40 u41)))))))
  clear s40 s41 u40 u41 hP4 k4 t3 hX
  refine wp_region_quiet_tail 9 (fun w' => ∃ m, w' = W4.drewN m) (by kernel_rfl) (by kernel_rfl) ⟨1, rfl⟩ ?_
  simp only [List.take_succ_cons, List.take_zero, List.drop_succ_cons, List.drop_zero]
  quiet_step (fail)
  quiet_step (fail)
  quiet_step (fail)
  quiet_step (fail)
  quiet_step (fail)
  quiet_step (fail)
  quiet_step (fail)
  refine wpQuiet_load_part (fun W hW => by obtain ⟨m, rfl⟩ := hW; exact pk) 58 (.tmp 29) rfl rfl rfl Tryd.underlying58 sizePrint ?_
  quiet_step (fail)
  refine wpQuiet_nil ?_
  rintro _ ⟨nq, rfl⟩
  obtain ⟨m5, hf5, hm5, hrw5, he5⟩ := HX.out.2.2.1
  have hrw5' : (W4.drewN nq).rowIs q 58 m5 hf5 := hrw5
  have hmi : i * 64 + 64 ≤ m5 := by omega
  clear pk hrw5 he5
  go_wp2_with (refine wpList_store_part hrw5' hmi _ _ _ rfl rfl rfl rfl sizePrint ?_; intro w5 S5)
  have hR5 := PrRow.store (show PrRow (W4.drewN nq) q n g from HX.out.2.2.1) S5
  have o50 := cell_stored (show (W4.drewN nq).cell? _ = _ from o0) S5 (by show w3.heap.size ≠ q; omega)
  have o51 := cell_stored (show (W4.drewN nq).cell? _ = _ from o1) S5 (by show w3.heap.size ≠ q; omega)
  have d51 := cell_stored (show (W4.drewN nq).cell? _ = _ from d41) S5 (by show w.heap.size ≠ q; omega)
  have pi := (show PartA (W4.drewN nq) b (o + i * 64) .i16 64 (g i) from HX.out.2.1 i hi).stored S5 hqb
  have H5 := Lib.hid (And.intro hR5 (And.intro (S5.below (below_drewA HX.out.2.2.2.1 nq) (by omega)) (And.intro (cell_stored (show (W4.drewN nq).cell? _ = _ from HX.out.2.2.2.2.1) S5 (by show w.heap.size + 1 ≠ q; omega)) (And.intro (cell_stored (show (W4.drewN nq).cell? _ = _ from HX.out.2.2.2.2.2.1) S5 (by show w.heap.size + 1 ≠ q; omega)) (And.intro (frozen_stored (show (W4.drewN nq).frozen? _ = _ from HX.out.2.2.2.2.2.2.1) S5 (by show w.heap.size + 1 ≠ q; omega)) (frozen_stored (show (W4.drewN nq).frozen? _ = _ from HX.out.2.2.2.2.2.2.2) S5 (by show w.heap.size + 1 ≠ q; omega)))))))
  clear hR5 o0 o1 d41 hrw5' hm5 hmi S5 HX
  refine wp_region_quiet_tail 9 (fun w' => ∃ m, w' = w5.drewN m) (by kernel_rfl) (by kernel_rfl) ⟨1, rfl⟩ ?_
  simp only [List.take_succ_cons, List.take_zero, List.drop_succ_cons, List.drop_zero]
  quiet_step (fail)
  quiet_step (fail)
  quiet_step (fail)
  quiet_step (fail)
  quiet_step (fail)
  quiet_step (fail)
  quiet_step (fail)
  refine wpQuiet_load_part (fun W hW => by obtain ⟨m, rfl⟩ := hW; exact pi) 58 (.tmp 38) rfl rfl rfl Tryd.underlying58 sizePrint ?_
  quiet_step (fail)
  refine wpQuiet_nil ?_
  rintro _ ⟨nq6, rfl⟩
  obtain ⟨m6, hf6, hm6, hrw6, he6⟩ := H5.out.1
  have hrw6' : (w5.drewN nq6).rowIs q 58 m6 hf6 := hrw6
  have hmk : k * 64 + 64 ≤ m6 := by omega
  clear pi hrw6 he6
  go_wp2_with (refine wpList_store_part hrw6' hmk _ _ _ rfl rfl rfl rfl sizePrint ?_; intro w6 S6; have hR6 : PrRow w6 q n (swpF g i k) := PrRow.store (show PrRow (w5.drewN nq6) q n _ from H5.out.1) S6; have o60 := cell_stored (show (w5.drewN nq6).cell? _ = _ from o50) S6 (by show w3.heap.size ≠ q; omega); have o61 := cell_stored (show (w5.drewN nq6).cell? _ = _ from o51) S6 (by show w3.heap.size ≠ q; omega); have k6 := S6.below (below_drewA H5.out.2.1 nq6) (show w.heap.size ≤ q by omega); have s60 := cell_stored (show (w5.drewN nq6).cell? _ = _ from H5.out.2.2.1) S6 (by show w.heap.size + 1 ≠ q; omega); have s61 := cell_stored (show (w5.drewN nq6).cell? _ = _ from H5.out.2.2.2.1) S6 (by show w.heap.size + 1 ≠ q; omega); have u60 := frozen_stored (show (w5.drewN nq6).frozen? _ = _ from H5.out.2.2.2.2.1) S6 (by show w.heap.size + 1 ≠ q; omega); have u61 := frozen_stored (show (w5.drewN nq6).frozen? _ = _ from H5.out.2.2.2.2.2) S6 (by show w.heap.size + 1 ≠ q; omega); clear o50 o51 d51 hrw6' hm6 hmk S6 H5)
  refine bodyPost_ret (v := .tuple #[.agg #[.int .i8 X, .slice (some ⟨q, 0, none⟩) n cq], .int .i64 0]) (by simp [results, Tryd.results7, go_sem, s60, s61]) rfl ⟨_, rfl, ?_, ?_⟩
  · exact ((hR6.other (by show q ≠ w.heap.size + 1; omega) _).other (by show q ≠ w.heap.size + 1; omega) _).mineL cq (by omega)
  · exact (k6.setCell (by show _ ≤ w.heap.size + 1; omega) _).setCell (by show _ ≤ w.heap.size + 1; omega) _

set_option maxRecDepth 100000 in
set_option maxHeartbeats 4000000 in
theorem specSwap_bad (X : Int) (A : Option Addr) (n cap : Nat) (g : Nat → Nat → Int) (i k : Int) (hn : n ≤ 1048576) (hX : -128 ≤ X ∧ X ≤ 127) (hs : ∀ i, i < n → S16 (g i)) (c : Int) (hc : swpC X n g i k = c) (hc0 : c = 1 ∨ c = 2) (w : World) (hr : PrsIn w A n g) :
    Calls Tryd.prog 7 #[.agg #[.int .i8 X, .slice A n cap], .int .i64 i, .int .i64 k] w (ShtOut w.heap.size 0 0 g c w) := by
  have k0 := ((Below.refl w.heap.size w).alloc (Nat.le_refl _) (.cells #[.int .i8 X, .slice A n cap] 29)).alloc (by simp) (.cells #[.int .i8 0, .slice none 0 0] 29)
  have hq := fun j W c0 c1 hp => l07Asked_any w.heap.size X A n cap g j hn hX hs W c0 c1 hp
  have Hqi := Lib.hid (hq i)
  have Hqk := Lib.hid (hq k)
  clear hq hs
  have d0 : ((w.alloc (.cells #[.int .i8 X, .slice A n cap] 29)).alloc (.cells #[.int .i8 0, .slice none 0 0] 29)).cell? ⟨w.heap.size, 0, none⟩ = some (.int .i8 X) := by simp
  have d1 : ((w.alloc (.cells #[.int .i8 X, .slice A n cap] 29)).alloc (.cells #[.int .i8 0, .slice none 0 0] 29)).cell? ⟨w.heap.size, 1, none⟩ = some (.slice A n cap) := by simp
  have r0 : ((w.alloc (.cells #[.int .i8 X, .slice A n cap] 29)).alloc (.cells #[.int .i8 0, .slice none 0 0] 29)).cell? ⟨w.heap.size + 1, 0, none⟩ = some (.int .i8 0) := by simp
  have r1 : ((w.alloc (.cells #[.int .i8 X, .slice A n cap] 29)).alloc (.cells #[.int .i8 0, .slice none 0 0] 29)).cell? ⟨w.heap.size + 1, 1, none⟩ = some (.slice none 0 0) := by simp
  have f0 : ((w.alloc (.cells #[.int .i8 X, .slice A n cap] 29)).alloc (.cells #[.int .i8 0, .slice none 0 0] 29)).frozen? ⟨w.heap.size + 1, 0, none⟩ = false := by simp
  have f1 : ((w.alloc (.cells #[.int .i8 X, .slice A n cap] 29)).alloc (.cells #[.int .i8 0, .slice none 0 0] 29)).frozen? ⟨w.heap.size + 1, 1, none⟩ = false := by simp
  have hsz : w.heap.size + 1 < ((w.alloc (.cells #[.int .i8 X, .slice A n cap] 29)).alloc (.cells #[.int .i8 0, .slice none 0 0] 29)).heap.size := by simp
  have HP := Lib.hid (hr.below k0 (Nat.le_refl _)); clear hr
  unfold swpC at hc
  by_cases hi : askC X n g i = 0
  · rw [if_pos hi] at hc
    rw [hi] at Hqi
    rw [hc] at Hqk
    clear hi hc
    have hcn : ¬ c = 0 := by omega
    go_enter Tryd.func7, Tryd.ntmps7
    go_wp2_with fail
    generalize ((w.alloc (.cells #[.int .i8 X, .slice A n cap] 29)).alloc (.cells #[.int .i8 0, .slice none 0 0] 29)) = W0 at *
    refine (Hqi.out _ d0 d1 HP.out).mono ?_; rintro e w1 ⟨rfl, hb1⟩
    have k1 := k0.trans (hb1.mono k0.size)
    have d10 := below_cellOf hb1 d0 (Nat.le_refl _)
    have d11 := below_cellOf hb1 d1 (Nat.le_refl _)
    have HP1 := Lib.hid (HP.out.below hb1 (Nat.le_refl _))
    have R1 := Lib.hid hb1
    clear hb1 d0 d1 HP
    go_wp2_with fail
    refine (Hqk.out _ d10 d11 HP1.out).mono ?_; rintro e w2 ⟨rfl, hb2⟩
    have k2 := k1.trans (hb2.mono k1.size)
    have R2 := R1.out.trans (hb2.mono R1.out.size)
    have s0 := below_cellOf R2 r0 (Nat.le_refl _)
    have s1 := below_cellOf R2 r1 (Nat.le_refl _)
    have u0 : w2.frozen? ⟨w.heap.size + 1, 0, none⟩ = false := by rw [R2.frozen (p := ⟨w.heap.size + 1, 0, none⟩) hsz]; exact f0
    have u1 : w2.frozen? ⟨w.heap.size + 1, 1, none⟩ = false := by rw [R2.frozen (p := ⟨w.heap.size + 1, 1, none⟩) hsz]; exact f1
    clear r0 r1 f0 f1 R1 R2 hb2 d10 d11 HP1 k1
    go_wp2_with fail
    refine bodyPost_ret (v := .tuple #[.agg #[.int .i8 0, .slice none 0 0], .int .i64 c]) (by simp [results, Tryd.results7, go_sem, s0, s1]) rfl ⟨_, rfl, .nil _ _ _ _ _ _ _ _, ?_⟩
    exact (k2.setCell (by show _ ≤ w.heap.size + 1; omega) _).setCell (by show _ ≤ w.heap.size + 1; omega) _
  · rw [if_neg hi] at hc
    rw [hc] at Hqi
    clear hi hc
    have hcn : ¬ c = 0 := by omega
    go_enter Tryd.func7, Tryd.ntmps7
    go_wp2_with fail
    generalize ((w.alloc (.cells #[.int .i8 X, .slice A n cap] 29)).alloc (.cells #[.int .i8 0, .slice none 0 0] 29)) = W0 at *
    refine (Hqi.out _ d0 d1 HP.out).mono ?_; rintro e w1 ⟨rfl, hb1⟩
    have k1 := k0.trans (hb1.mono k0.size)
    have s0 := below_cellOf hb1 r0 (Nat.le_refl _)
    have s1 := below_cellOf hb1 r1 (Nat.le_refl _)
    have u0 : w1.frozen? ⟨w.heap.size + 1, 0, none⟩ = false := by rw [hb1.frozen (p := ⟨w.heap.size + 1, 0, none⟩) hsz]; exact f0
    have u1 : w1.frozen? ⟨w.heap.size + 1, 1, none⟩ = false := by rw [hb1.frozen (p := ⟨w.heap.size + 1, 1, none⟩) hsz]; exact f1
    clear hb1 d0 d1 HP r0 r1 f0 f1
    go_wp2_with fail
    refine bodyPost_ret (v := .tuple #[.agg #[.int .i8 0, .slice none 0 0], .int .i64 c]) (by simp [results, Tryd.results7, go_sem, s0, s1]) rfl ⟨_, rfl, .nil _ _ _ _ _ _ _ _, ?_⟩
    exact (k1.setCell (by show _ ≤ w.heap.size + 1; omega) _).setCell (by show _ ≤ w.heap.size + 1; omega) _
end Go.Proofs.YtkmpfbjenddhjaaDoor

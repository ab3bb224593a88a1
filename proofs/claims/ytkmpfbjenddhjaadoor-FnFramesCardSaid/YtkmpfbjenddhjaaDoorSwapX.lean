/-
  Two frames exchanged, by the program. Condition: its variables hold their own errors; at most 1048576 frames of int16 numbers.
-/
import Derived.Test.YtkmpfbjenddhjaaDoorSwapS
import Derived.Maps.RangeWalk
import Derived.Test.YtkmpfbjenddhjaaDoorPickX
namespace Go.Proofs.YtkmpfbjenddhjaaDoor
open Go.RowKit

section
variable {P : Program} {w w' : World} {b o : Nat} {κ : IntKind} {n : Nat} {f g : Nat → Int}
theorem step_store_part {ops : Array Oper} {op : Oper} {a : Act} {K : Act → World → Prop} {Q : Exit → Act → World → Prop} {E : Prop} {T : TypeId} {m : Nat} {h : Nat → Value}
    (hr : w.rowIs b T m h) (hm : o + n ≤ m) (ty : TypeId) (x y : Operand) (hgd : op.guard = none) (ho : op.op = .store ty x y) (hx : a.eval x = .pointer (some ⟨b, o, none⟩)) {cs : Array Value} (hy : a.eval y = .agg cs) (hcs : cs = arrV κ n f) (hi : (P.info? ty).map (·.size) = some n)
    (hK : ∀ w', StoredP w w' b o n κ f → K (a.put op.dst undef) w') : if Region.wanted op (yielded ops a.tmps) = true then Oper.wp P op a w K Q else E := by
  have hw : Region.wanted op (yielded ops a.tmps) = true := by simp [Region.wanted, hgd]
  rw [if_pos hw]
  subst hcs
  exact wp_store_mid ty x y ho b o _ hx hy (fun j hj => by
    rw [arrV_size] at hj
    exact ⟨by rw [hr.cell (by omega)]; rfl, hr.frozen _⟩) (by rw [arrV_size]; exact hi) (arrV_one _ _ _) (hK _ (storedP _ _ _ _ _ _))
theorem PartA.loadAt (h : PartA w b o κ n f) (ty : TypeId) {m : Nat} {e : TypeId} (hu : P.underlying ty = some (.array m e)) (hi : (P.info? ty).map (·.size) = some n) :
    (Instr.loadAt ty (.pointer (some ⟨b, o, none⟩))).run P w = .ok (.agg (arrV κ n f)) w := by
  have hl := run_loadAt_mid (P := P) w b o ty (arrV κ n f).toList _ h.range hu rfl (by simpa [arrV_size] using hi)
  simpa using hl
end

set_option maxRecDepth 100000 in
set_option maxHeartbeats 4000000 in
theorem clonePr_any (b o n c : Nat) (g : Nat → Nat → Int) (hn : n ≤ 1048576) (hpos : 0 < n) (w : World) (hx : PrsAt w b o n g) (hb : b < w.heap.size) :
    Calls Tryd.prog 65 #[.slice (some ⟨b, o, none⟩) n c] w fun e w' => ∃ q cap, e = .returned (.slice (some ⟨q, 0, none⟩) n cap) ∧ w.heap.size ≤ q ∧ PrRow w' q n g ∧ Below w.heap.size w w' := by
  have hnil : ∀ W : World, (binOp .eql 80 (.slice (some ⟨b, o, none⟩) n c) (.slice none 0 0)).run Tryd.prog W = .ok (.bool false) W := fun W => by
    simpa using Lib.run_eql_slice_nil (P := Tryd.prog) W 80 58 (some ⟨b, o, none⟩) n c 0 0 Tryd.underlying80
  have o0 := World.ownsRow_lit (base := w.heap.size) (e := 58) (size := 64) w #[] 0 (Nat.le_refl _) (Nat.zero_le _) rfl
  have k1 := (Below.refl w.heap.size w).alloc (Nat.le_refl _) (.cells #[] 58)
  have O0 := Lib.hid (show (w.alloc (.cells #[] 58)).ownsRow w.heap.size 58 64 (.slice (some ⟨w.heap.size, 0, none⟩) 0 0) 0 (prL g 0) by simpa [prL_nil] using o0)
  have X0 := Lib.hid (hx.below k1 hb)
  have K1 := Lib.hid k1
  have hn0 : Hid (0 + n ≤ 2097152) := Lib.hid (by omega)
  clear o0 k1
  go_enter Tryd.func65, Tryd.ntmps65
  go_wp2_with (at_builtin; refine wpList_append_prs (c := c) rfl (.tmp 5) (.tmp 6) rfl Tryd.underlying80 rfl O0.out (.inr hpos) rfl X0.out hn0.out K1.out.size ?_; intro gg cq w5 hown hbl hgr)
  have e : appF g g 0 = g := by funext i; simp [appF]
  rw [e] at hown
  simp only [Nat.zero_add] at hown
  have hrow := own_row hown
  have hB := K1.out.trans hbl
  clear hown hbl hgr hnil
  go_wp2_with fail
  go_ret
  exact ⟨gg, cq, by simp, hrow.1, hrow.2, hB⟩

set_option maxRecDepth 100000 in
set_option maxHeartbeats 4000000 in
theorem swapped_any (b o n c : Nat) (g : Nat → Nat → Int) (i k : Nat) (hi : i < n) (hk : k < n) (hn : n ≤ 1048576) (w : World) (hx : PrsAt w b o n g) (hb : b < w.heap.size) :
    Calls Tryd.prog 54 #[.slice (some ⟨b, o, none⟩) n c, .int .i64 (i : Int), .int .i64 (k : Int)] w fun e w' => ∃ q cap, e = .returned (.slice (some ⟨q, 0, none⟩) n cap) ∧ w.heap.size ≤ q ∧ PrRow w' q n (swpF g i k) ∧ Below w.heap.size w w' := by
  have hcl := Lib.hid (clonePr_any b o n c g hn (by omega) w hx hb)
  go_enter Tryd.func54, Tryd.ntmps54
  go_wp2_with fail
  refine hcl.out.mono ?_; rintro e w2 ⟨q, cq, rfl, hq, hR, hb2⟩
  have hP2 := hx.below hb2 hb
  have pi := hP2 i hi
  have pk := hP2 k hk
  have HR := Lib.hid hR
  obtain ⟨m, hf, hm, hrw, he⟩ := hR
  have hmi : i * 64 + 64 ≤ m := by omega
  have hmk : k * 64 + 64 ≤ m := by omega
  have hi' : (i : Int) < n := by omega
  have hk' : (k : Int) < n := by omega
  have hqb : ¬ b = q := by omega
  have PI := Lib.hid pi; have PK := Lib.hid pk
  clear hcl hP2 hx he hm pi pk
  obtain ⟨VK, hVK⟩ : ∃ VK, arrV .i16 64 (g k) = VK := ⟨_, rfl⟩
  obtain ⟨VI, hVI⟩ : ∃ VI, arrV .i16 64 (g i) = VI := ⟨_, rfl⟩
  have lk := fun W (h : PartA W b (o + k * 64) .i16 64 (g k)) => PartA.loadAt (P := Tryd.prog) h 58 Tryd.underlying58 sizePrint
  have li := fun W (h : PartA W b (o + i * 64) .i16 64 (g i)) => PartA.loadAt (P := Tryd.prog) h 58 Tryd.underlying58 sizePrint
  rw [hVK] at lk
  rw [hVI] at li
  have LK := Lib.hid lk; have LI := Lib.hid li; have HVK := Lib.hid hVK.symm; have HVI := Lib.hid hVI.symm
  clear lk li hVK hVI
  go_wp2_with fail
  refine wp_region_held (S := fun W => PartA W b (o + k * 64) .i16 64 (g k) ∧ PartA W b (o + i * 64) .i16 64 (g i)) (by kernel_rfl) ?_
  have hS0 : PartA w2.drew b (o + k * 64) .i16 64 (g k) ∧ PartA w2.drew b (o + i * 64) .i16 64 (g i) := ⟨PK.out, PI.out⟩
  have hrwd : w2.drew.rowIs q 58 m hf := hrw
  have HRd : Hid (PrRow w2.drew q n g) := Lib.hid HR.out
  have hbd : Below w.heap.size w w2.drew := hb2.drew
  show wpAnyH _ _ _ _ _ _ _ _ w2.drew
  clear hrw HR hb2 PK PI
  generalize w2.drew = Wd at *
  simp only [List.size_toArray, List.length_cons, List.length_nil]
  refine wpAnyH_take (i := 0) (v := .slice (some ⟨q, 0, none⟩) n cq) rfl (by kernel_rfl) (by kernel_rfl) (by kernel_rfl) (fun _ _ _ h => h) (.inl ⟨by rfl, fun W _ => by go_simp⟩) hS0 ?_
  go_frame
  refine wpAnyH_take (i := 1) (v := .int .i64 (i : Int)) rfl (by kernel_rfl) (by kernel_rfl) (by kernel_rfl) (fun _ _ _ h => h) (.inl ⟨by rfl, fun W _ => by go_simp⟩) hS0 ?_
  go_frame
  refine wpAnyH_take (i := 2) (v := .slice (some ⟨q, 0, none⟩) n cq) rfl (by kernel_rfl) (by kernel_rfl) (by kernel_rfl) (fun _ _ _ h => h) (.inl ⟨by rfl, fun W _ => by go_simp⟩) hS0 ?_
  go_frame
  refine wpAnyH_take (i := 3) (v := .int .i64 (k : Int)) rfl (by kernel_rfl) (by kernel_rfl) (by kernel_rfl) (fun _ _ _ h => h) (.inl ⟨by rfl, fun W _ => by go_simp⟩) hS0 ?_
  go_frame
  refine wpAnyH_take (i := 4) (v := .slice (some ⟨b, o, none⟩) n c) rfl (by kernel_rfl) (by kernel_rfl) (by kernel_rfl) (fun _ _ _ h => h) (.inl ⟨by rfl, fun W _ => by go_simp⟩) hS0 ?_
  go_frame
  refine wpAnyH_take (i := 5) (v := .int .i64 (k : Int)) rfl (by kernel_rfl) (by kernel_rfl) (by kernel_rfl) (fun _ _ _ h => h) (.inl ⟨by rfl, fun W _ => by go_simp⟩) hS0 ?_
  go_frame
  refine wpAnyH_take (i := 6) (v := .pointer (some ⟨b, o + k * 64, none⟩)) rfl (by kernel_rfl) (by kernel_rfl) (by kernel_rfl) (fun _ _ _ h => h) (.inl ⟨by rfl, fun W _ => by go_simp⟩) hS0 ?_
  go_frame
  refine wpAnyH_take (i := 7) (v := .agg VK) rfl (by kernel_rfl) (by kernel_rfl) (by kernel_rfl) (fun _ _ _ h => h) (yields_load_part (fun W hW => hW.1) HVK.out.symm 58 (.tmp 16) rfl rfl (by go_simp) Tryd.underlying58 sizePrint) hS0 ?_
  go_frame
  refine wpAnyH_take (i := 8) (v := .slice (some ⟨b, o, none⟩) n c) rfl (by kernel_rfl) (by kernel_rfl) (by kernel_rfl) (fun _ _ _ h => h) (.inl ⟨by rfl, fun W _ => by go_simp⟩) hS0 ?_
  go_frame
  refine wpAnyH_take (i := 9) (v := .int .i64 (i : Int)) rfl (by kernel_rfl) (by kernel_rfl) (by kernel_rfl) (fun _ _ _ h => h) (.inl ⟨by rfl, fun W _ => by go_simp⟩) hS0 ?_
  go_frame
  refine wpAnyH_take (i := 10) (v := .pointer (some ⟨b, o + i * 64, none⟩)) rfl (by kernel_rfl) (by kernel_rfl) (by kernel_rfl) (fun _ _ _ h => h) (.inl ⟨by rfl, fun W _ => by go_simp⟩) hS0 ?_
  go_frame
  refine wpAnyH_take (i := 11) (v := .agg VI) rfl (by kernel_rfl) (by kernel_rfl) (by kernel_rfl) (fun _ _ _ h => h) (yields_load_part (fun W hW => hW.2) HVI.out.symm 58 (.tmp 20) rfl rfl (by go_simp) Tryd.underlying58 sizePrint) hS0 ?_
  go_frame
  refine wpAnyH_take (i := 12) (v := .pointer (some ⟨q, i * 64, none⟩)) rfl (by kernel_rfl) (by kernel_rfl) (by kernel_rfl) (fun _ _ _ h => h) (.inl ⟨by rfl, fun W _ => by go_simp⟩) hS0 ?_
  go_frame
  refine wpAnyH_ready (rs := [13]) (by kernel_rfl) (by decide) ?_
  refine AllReadyH.cons (by rfl) (fun K5 hK5 => step_store_part hrwd hmi 58 (.tmp 22) (.tmp 17) (by rfl) (by rfl) (by go_simp) (by go_simp) HVK.out sizePrint ?_) AllReadyH.nil
  intro w5 S5
  have hS5 : PartA w5 b (o + k * 64) .i16 64 (g k) ∧ PartA w5 b (o + i * 64) .i16 64 (g i) := ⟨hS0.1.stored S5 hqb, hS0.2.stored S5 hqb⟩
  refine hK5.out _ _ hS5 (fun _ => ?_)
  clear hK5 K5
  refine wpAnyH_take (i := 14) (v := .pointer (some ⟨q, k * 64, none⟩)) rfl (by kernel_rfl) (by kernel_rfl) (by kernel_rfl) (fun _ _ _ h => h) (.inl ⟨by rfl, fun W _ => by go_simp⟩) hS5 ?_
  go_frame
  refine wpAnyH_ready (rs := [15]) (by kernel_rfl) (by decide) ?_
  refine AllReadyH.cons (by rfl) (fun K6 hK6 => step_store_part (S5.row _ _ _ hrwd) hmk 58 (.tmp 23) (.tmp 21) (by rfl) (by rfl) (by go_simp) (by go_simp) HVI.out sizePrint ?_) AllReadyH.nil
  intro w6 S6
  have hS6 : PartA w6 b (o + k * 64) .i16 64 (g k) ∧ PartA w6 b (o + i * 64) .i16 64 (g i) := ⟨hS5.1.stored S6 hqb, hS5.2.stored S6 hqb⟩
  refine hK6.out _ _ hS6 (fun _ => ?_)
  clear hK6 K6
  refine wpAnyH_done (by kernel_rfl) ?_ _
  have hR5 := PrRow.store HRd.out S5
  have hR6 : PrRow w6 q n (swpF g i k) := PrRow.store hR5 S6
  have k6 : Below w.heap.size w w6 := S6.below (S5.below hbd hq) hq
  go_wp2_with fail
  go_ret
  exact ⟨_, _, rfl, hq, hR6, k6⟩
end Go.Proofs.YtkmpfbjenddhjaaDoor

namespace Go.Proofs.YtkmpfbjenddhjaaDoor
open Go.RowKit

/-- The two indices as a list. -/
def two (i k : Int) : Nat → Int := fun j => if j = 0 then i else k
theorem two_in (w : World) (i k : Int) : IntsIn (w.alloc (.cells #[.int .i64 i, .int .i64 k] 2)) (some ⟨w.heap.size, 0, none⟩) 2 (two i k) :=
  .inr ⟨_, 0, rfl, by simp, fun j hj => by
    rcases (show j = 0 ∨ j = 1 by omega) with rfl | rfl
    · simp [two]
    · simp [two]⟩

set_option maxRecDepth 100000 in
set_option maxHeartbeats 4000000 in
theorem swapFrames_ok (s : Ers) (X : Int) (A : Option Addr) (n cap : Nat) (g : Nat → Nat → Int) (i k : Nat) (hn : n ≤ 1048576) (hX : -128 ≤ X ∧ X ≤ 127) (w : World) (hr : PrsIn w A n g) (hE : ErrEnv s w) (hi : i < n) (hk : k < n)
    (hF : frmC X n g 2 (two i k) = 0) :
    Calls Tryd.prog 32 #[.agg #[.int .i8 X, .slice A n cap], .int .i64 (i : Int), .int .i64 (k : Int)] w (ShtErr s w.heap.size X n (swpF g i k) 0 w) := by
  have k8 := ((Below.refl w.heap.size w).alloc (Nat.le_refl _) (.cells #[.int .i8 X, .slice A n cap] 29)).alloc (by simp) (.cells #[.int .i8 0, .slice none 0 0] 29)
  have d0 : ((w.alloc (.cells #[.int .i8 X, .slice A n cap] 29)).alloc (.cells #[.int .i8 0, .slice none 0 0] 29)).cell? ⟨w.heap.size, 0, none⟩ = some (.int .i8 X) := by simp
  have d1 : ((w.alloc (.cells #[.int .i8 X, .slice A n cap] 29)).alloc (.cells #[.int .i8 0, .slice none 0 0] 29)).cell? ⟨w.heap.size, 1, none⟩ = some (.slice A n cap) := by simp
  have r0 : ((w.alloc (.cells #[.int .i8 X, .slice A n cap] 29)).alloc (.cells #[.int .i8 0, .slice none 0 0] 29)).cell? ⟨w.heap.size + 1, 0, none⟩ = some (.int .i8 0) := by simp
  have r1 : ((w.alloc (.cells #[.int .i8 X, .slice A n cap] 29)).alloc (.cells #[.int .i8 0, .slice none 0 0] 29)).cell? ⟨w.heap.size + 1, 1, none⟩ = some (.slice none 0 0) := by simp
  have f0 : ((w.alloc (.cells #[.int .i8 X, .slice A n cap] 29)).alloc (.cells #[.int .i8 0, .slice none 0 0] 29)).frozen? ⟨w.heap.size + 1, 0, none⟩ = false := by simp
  have f1 : ((w.alloc (.cells #[.int .i8 X, .slice A n cap] 29)).alloc (.cells #[.int .i8 0, .slice none 0 0] 29)).frozen? ⟨w.heap.size + 1, 1, none⟩ = false := by simp
  have hsz : w.heap.size + 1 < ((w.alloc (.cells #[.int .i8 X, .slice A n cap] 29)).alloc (.cells #[.int .i8 0, .slice none 0 0] 29)).heap.size := by simp
  have k9 := (Below.refl ((w.alloc (.cells #[.int .i8 X, .slice A n cap] 29)).alloc (.cells #[.int .i8 0, .slice none 0 0] 29)).heap.size ((w.alloc (.cells #[.int .i8 X, .slice A n cap] 29)).alloc (.cells #[.int .i8 0, .slice none 0 0] 29))).alloc (Nat.le_refl _) (.cells #[.int .i64 (i : Int), .int .i64 (k : Int)] 2)
  have k0 := k8.trans (k9.mono k8.size)
  have d0 := below_cellOf k9 d0 (Nat.le_refl _)
  have d1 := below_cellOf k9 d1 (Nat.le_refl _)
  have r0 := below_cellOf k9 r0 (Nat.le_refl _)
  have r1 := below_cellOf k9 r1 (Nat.le_refl _)
  have f0 := (k9.frozen (p := ⟨w.heap.size + 1, 0, none⟩) hsz).trans f0
  have f1 := (k9.frozen (p := ⟨w.heap.size + 1, 1, none⟩) hsz).trans f1
  have hsz := Nat.lt_of_lt_of_le hsz k9.size
  clear k8 k9
  have hi9 : IntsIn (((w.alloc (.cells #[.int .i8 X, .slice A n cap] 29)).alloc (.cells #[.int .i8 0, .slice none 0 0] 29)).alloc (.cells #[.int .i64 (i : Int), .int .i64 (k : Int)] 2)) (some ⟨w.heap.size + 1 + 1, 0, none⟩) 2 (two i k) := by simpa using two_in ((w.alloc (.cells #[.int .i8 X, .slice A n cap] 29)).alloc (.cells #[.int .i8 0, .slice none 0 0] 29)) (i : Int) (k : Int)
  have hq := framesOf_any s X A n cap g hn hX _ 2 2 (two i k) (by omega) _ (hr.below k0 (Nat.le_refl _)) hi9 (hE.below k0 (Nat.le_refl _))
  rw [hF, frmR_0] at hq
  have Hq := Lib.hid hq; clear hq hF hi9
  have HP := Lib.hid (hr.below k0 (Nat.le_refl _))
  have G4 := Lib.hid (And.intro r0 (And.intro r1 (And.intro f0 (And.intro f1 hsz)))); clear r0 r1 f0 f1 hsz hr hE
  have D0 := Lib.hid d0; have D1 := Lib.hid d1; clear d0 d1
  go_enter Tryd.func32, Tryd.ntmps32
  go_wp2_with fail
  generalize (((w.alloc (.cells #[.int .i8 X, .slice A n cap] 29)).alloc (.cells #[.int .i8 0, .slice none 0 0] 29)).alloc (.cells #[.int .i64 (i : Int), .int .i64 (k : Int)] 2)) = W0 at *
  refine Hq.out.mono ?_; rintro e w1 ⟨rfl, hb1⟩
  have s0 := below_cellOf hb1 G4.out.1 (Nat.le_refl _)
  have s1 := below_cellOf hb1 G4.out.2.1 (Nat.le_refl _)
  have u0 := (hb1.frozen (p := ⟨w.heap.size + 1, 0, none⟩) G4.out.2.2.2.2).trans G4.out.2.2.1
  have u1 := (hb1.frozen (p := ⟨w.heap.size + 1, 1, none⟩) G4.out.2.2.2.2).trans G4.out.2.2.2.1
  have KE := Lib.hid (k0.trans (hb1.mono k0.size))
  have R1 := Lib.hid hb1
  clear hb1 k0 Hq
  have e0 := below_cellOf R1.out D0.out (Nat.le_refl _)
  have e1 := below_cellOf R1.out D1.out (Nat.le_refl _)
  have hp0 : ∀ W : World, Below w1.heap.size w1 W → Calls Tryd.prog 54 #[.slice A n cap, .int .i64 (i : Int), .int .i64 (k : Int)] W fun e w' => ∃ q cap, e = .returned (.slice (some ⟨q, 0, none⟩) n cap) ∧ W.heap.size ≤ q ∧ PrRow w' q n (swpF g i k) ∧ Below W.heap.size W w' := fun W h => by
    rcases (HP.out.below R1.out (Nat.le_refl _)).below h (Nat.le_refl _) with h0 | ⟨b, o, hb, hlt, hc⟩
    · exfalso; omega
    · subst hb
      exact swapped_any b o n cap g i k hi hk hn W hc hlt
  have hp := Lib.hid hp0; clear hp0
  have hz := G4.out.2.2.2.2
  have hz1 := R1.out.size
  go_wp2_with fail
  go_region_with (first | (go_at_call 54; refine (hp.out _ (below_drew1 w1)).mono ?_; rintro e w5 ⟨q, cq, rfl, hq5, hR5, hb5⟩; have t0 := below_cellOf hb5 (show w1.drew.cell? _ = _ from e0) (Nat.le_refl _); have t1 := below_cellOf hb5 (show w1.drew.cell? _ = _ from e1) (Nat.le_refl _)) | (go_at_call 53; refine (withFrames_any X A _ n cap n _ _).mono ?_; rintro e w6 ⟨rfl, hb6⟩; have R6 := Below.trans ((below_drew1 w1).trans hb5) (hb6.mono (Nat.le_trans (below_drew1 w1).size hb5.size)); have v0 := below_cellOf R6 s0 (Nat.le_refl _); have v1 := below_cellOf R6 s1 (Nat.le_refl _); have x0 := (R6.frozen (p := ⟨w.heap.size + 1, 0, none⟩) (by show w.heap.size + 1 < w1.heap.size; omega)).trans u0; have x1 := (R6.frozen (p := ⟨w.heap.size + 1, 1, none⟩) (by show w.heap.size + 1 < w1.heap.size; omega)).trans u1))
  all_goals
    have hq6 : w1.heap.size ≤ q := hq5
    have hR6 := hR5.below hb6 hR5.lt
    go_wp2_with fail
    refine bodyPost_ret (v := .tuple #[.agg #[.int .i8 X, .slice (some ⟨q, 0, none⟩) n cq], .nilIface]) (by simp [results, Tryd.results32, go_sem, v0, v1]) rfl ⟨_, _, _, rfl, .ok, ?_, ?_⟩
    · exact ((hR6.other (by show q ≠ w.heap.size + 1; omega) _).other (by show q ≠ w.heap.size + 1; omega) _).mineL cq (by omega)
    · exact ((KE.out.trans (R6.mono KE.out.size)).setCell (by show _ ≤ w.heap.size + 1; omega) _).setCell (by show _ ≤ w.heap.size + 1; omega) _

end Go.Proofs.YtkmpfbjenddhjaaDoor

namespace Go.Proofs.YtkmpfbjenddhjaaDoor
open Go.RowKit

theorem frmC_two (X : Int) (n : Nat) (g : Nat → Nat → Int) (i k : Int) : frmC X n g 2 (two i k) = swpC X n g i k := by
  unfold frmC swpC askC
  rcases shtB X n g with _ | _ <;> rcases h1 : inB i 0 ((n : Int) - 1) with _ | _ <;> rcases h2 : inB k 0 ((n : Int) - 1) with _ | _ <;> simp [List.range_succ, two, h1, h2]

set_option maxRecDepth 100000 in
set_option maxHeartbeats 4000000 in
theorem swapFrames_bad (s : Ers) (X : Int) (A : Option Addr) (n cap : Nat) (g G : Nat → Nat → Int) (i k : Int) (hn : n ≤ 1048576) (hX : -128 ≤ X ∧ X ≤ 127) (w : World) (hr : PrsIn w A n g) (hE : ErrEnv s w)
    (E : Addr) (cc : Int) (hF : frmC X n g 2 (two i k) = cc) (hR : frmR s A n cap cc = #[.slice none 0 0, errV E]) (hI : IsCode s (errV E) cc) :
    Calls Tryd.prog 32 #[.agg #[.int .i8 X, .slice A n cap], .int .i64 i, .int .i64 k] w (ShtErr s w.heap.size 0 0 G cc w) := by
  have k8 := ((Below.refl w.heap.size w).alloc (Nat.le_refl _) (.cells #[.int .i8 X, .slice A n cap] 29)).alloc (by simp) (.cells #[.int .i8 0, .slice none 0 0] 29)
  have d0 : ((w.alloc (.cells #[.int .i8 X, .slice A n cap] 29)).alloc (.cells #[.int .i8 0, .slice none 0 0] 29)).cell? ⟨w.heap.size, 0, none⟩ = some (.int .i8 X) := by simp
  have d1 : ((w.alloc (.cells #[.int .i8 X, .slice A n cap] 29)).alloc (.cells #[.int .i8 0, .slice none 0 0] 29)).cell? ⟨w.heap.size, 1, none⟩ = some (.slice A n cap) := by simp
  have r0 : ((w.alloc (.cells #[.int .i8 X, .slice A n cap] 29)).alloc (.cells #[.int .i8 0, .slice none 0 0] 29)).cell? ⟨w.heap.size + 1, 0, none⟩ = some (.int .i8 0) := by simp
  have r1 : ((w.alloc (.cells #[.int .i8 X, .slice A n cap] 29)).alloc (.cells #[.int .i8 0, .slice none 0 0] 29)).cell? ⟨w.heap.size + 1, 1, none⟩ = some (.slice none 0 0) := by simp
  have f0 : ((w.alloc (.cells #[.int .i8 X, .slice A n cap] 29)).alloc (.cells #[.int .i8 0, .slice none 0 0] 29)).frozen? ⟨w.heap.size + 1, 0, none⟩ = false := by simp
  have f1 : ((w.alloc (.cells #[.int .i8 X, .slice A n cap] 29)).alloc (.cells #[.int .i8 0, .slice none 0 0] 29)).frozen? ⟨w.heap.size + 1, 1, none⟩ = false := by simp
  have hsz : w.heap.size + 1 < ((w.alloc (.cells #[.int .i8 X, .slice A n cap] 29)).alloc (.cells #[.int .i8 0, .slice none 0 0] 29)).heap.size := by simp
  have k9 := (Below.refl ((w.alloc (.cells #[.int .i8 X, .slice A n cap] 29)).alloc (.cells #[.int .i8 0, .slice none 0 0] 29)).heap.size ((w.alloc (.cells #[.int .i8 X, .slice A n cap] 29)).alloc (.cells #[.int .i8 0, .slice none 0 0] 29))).alloc (Nat.le_refl _) (.cells #[.int .i64 i, .int .i64 k] 2)
  have k0 := k8.trans (k9.mono k8.size)
  have d0 := below_cellOf k9 d0 (Nat.le_refl _)
  have d1 := below_cellOf k9 d1 (Nat.le_refl _)
  have r0 := below_cellOf k9 r0 (Nat.le_refl _)
  have r1 := below_cellOf k9 r1 (Nat.le_refl _)
  have f0 := (k9.frozen (p := ⟨w.heap.size + 1, 0, none⟩) hsz).trans f0
  have f1 := (k9.frozen (p := ⟨w.heap.size + 1, 1, none⟩) hsz).trans f1
  have hsz := Nat.lt_of_lt_of_le hsz k9.size
  clear k8 k9
  clear d0 d1
  have hi9 : IntsIn (((w.alloc (.cells #[.int .i8 X, .slice A n cap] 29)).alloc (.cells #[.int .i8 0, .slice none 0 0] 29)).alloc (.cells #[.int .i64 i, .int .i64 k] 2)) (some ⟨w.heap.size + 1 + 1, 0, none⟩) 2 (two i k) := by simpa using two_in ((w.alloc (.cells #[.int .i8 X, .slice A n cap] 29)).alloc (.cells #[.int .i8 0, .slice none 0 0] 29)) i k
  have hq := framesOf_any s X A n cap g hn hX _ 2 2 (two i k) (by omega) _ (hr.below k0 (Nat.le_refl _)) hi9 (hE.below k0 (Nat.le_refl _))
  rw [hF, hR] at hq
  have Hq := Lib.hid hq; clear hq hr hE hF hR hi9
  have G4 := Lib.hid (And.intro r0 (And.intro r1 (And.intro f0 (And.intro f1 hsz)))); clear r0 r1 f0 f1 hsz
  go_enter Tryd.func32, Tryd.ntmps32
  go_wp2_with fail
  generalize (((w.alloc (.cells #[.int .i8 X, .slice A n cap] 29)).alloc (.cells #[.int .i8 0, .slice none 0 0] 29)).alloc (.cells #[.int .i64 i, .int .i64 k] 2)) = W0 at *
  refine Hq.out.mono ?_; rintro e w1 ⟨rfl, hb1⟩
  have s0 := below_cellOf hb1 G4.out.1 (Nat.le_refl _)
  have s1 := below_cellOf hb1 G4.out.2.1 (Nat.le_refl _)
  have u0 := (hb1.frozen (p := ⟨w.heap.size + 1, 0, none⟩) G4.out.2.2.2.2).trans G4.out.2.2.1
  have u1 := (hb1.frozen (p := ⟨w.heap.size + 1, 1, none⟩) G4.out.2.2.2.2).trans G4.out.2.2.2.1
  have KE := Lib.hid (k0.trans (hb1.mono k0.size))
  clear hb1 G4 k0 Hq
  go_wp2_with fail
  refine bodyPost_ret (v := .tuple #[.agg #[.int .i8 0, .slice none 0 0], errV E]) (by simp [results, Tryd.results32, go_sem, s0, s1]) rfl ⟨_, _, _, rfl, hI, .nil _ _ _ _ _ _ _ _, ?_⟩
  exact (KE.out.setCell (by show _ ≤ w.heap.size + 1; omega) _).setCell (by show _ ≤ w.heap.size + 1; omega) _

end Go.Proofs.YtkmpfbjenddhjaaDoor

namespace Go.Proofs.YtkmpfbjenddhjaaDoor
open Go.RowKit

/-- What exchanging hands back. -/
def SwpOut (L : Nat) (X : Int) (n : Nat) (g : Nat → Nat → Int) (i k : Int) (w : World) (e : Ending) (w' : World) : Prop :=
  ShtOut L (if swpC X n g i k = 0 then X else 0) (if swpC X n g i k = 0 then n else 0) (swpF g i.toNat k.toNat) (swpC X n g i k) w e w'
theorem two_nat {n : Nat} {i k : Int} (ha : ∀ j, j < 2 → inB (two i k j) 0 ((n : Int) - 1) = true) : ∃ i' k' : Nat, i = i' ∧ k = k' ∧ i' < n ∧ k' < n := by
  have h1 := inB_true.1 (ha 0 (by omega))
  have h2 := inB_true.1 (ha 1 (by omega))
  simp only [two, if_true] at h1
  rw [show two i k 1 = k from rfl] at h2
  exact ⟨i.toNat, k.toNat, by omega, by omega, by omega, by omega⟩
theorem swapFrames_any (s : Ers) (X : Int) (A : Option Addr) (n cap : Nat) (g : Nat → Nat → Int) (i k : Int) (hn : n ≤ 1048576) (hX : -128 ≤ X ∧ X ≤ 127) (w : World) (hr : PrsIn w A n g) (hE : ErrEnv s w) :
    Calls Tryd.prog 32 #[.agg #[.int .i8 X, .slice A n cap], .int .i64 i, .int .i64 k] w (ShtErr s w.heap.size (if swpC X n g i k = 0 then X else 0) (if swpC X n g i k = 0 then n else 0) (swpF g i.toNat k.toNat) (swpC X n g i k) w) := by
  rcases frmC_cases X n 2 g (two i k) with ⟨h, _, ha⟩ | h | h
  · obtain ⟨i', k', rfl, rfl, hi, hk⟩ := two_nat ha
    rw [(frmC_two X n g i' k').symm.trans h]
    exact swapFrames_ok s X A n cap g i' k' hn hX w hr hE hi hk h
  · rw [(frmC_two X n g i k).symm.trans h]
    exact swapFrames_bad s X A n cap g _ i k hn hX w hr hE s.einvalid 1 h rfl .einvalid
  · rw [(frmC_two X n g i k).symm.trans h]
    exact swapFrames_bad s X A n cap g _ i k hn hX w hr hE s.erange 2 h rfl .erange
theorem specSwap_any (X : Int) (A : Option Addr) (n cap : Nat) (g : Nat → Nat → Int) (i k : Int) (hn : n ≤ 1048576) (hX : -128 ≤ X ∧ X ≤ 127) (hs : ∀ i, i < n → S16 (g i)) (w : World) (hr : PrsIn w A n g) :
    Calls Tryd.prog 7 #[.agg #[.int .i8 X, .slice A n cap], .int .i64 i, .int .i64 k] w (SwpOut w.heap.size X n g i k w) := by
  unfold SwpOut
  rcases frmC_cases X n 2 g (two i k) with ⟨h, hv, ha⟩ | h | h
  · have h3 := ha 0 (by omega)
    have h4 := ha 1 (by omega)
    obtain ⟨i', k', rfl, rfl, hi, hk⟩ := two_nat ha
    rw [(frmC_two X n g i' k').symm.trans h]
    exact specSwap_ok X A n cap g i' k' hn hX hs hi hk (askC_ok hv h3) (askC_ok hv h4) w hr
  · have h2 := (frmC_two X n g i k).symm.trans h
    rw [h2]
    exact (specSwap_bad X A n cap g i k hn hX hs 1 h2 (.inl rfl) w hr).mono fun e w' ⟨v, he, hm, hb⟩ => ⟨v, he, by obtain ⟨A', c', hv, _⟩ := hm; exact ⟨A', c', hv, .inl rfl⟩, hb⟩
  · have h2 := (frmC_two X n g i k).symm.trans h
    rw [h2]
    exact (specSwap_bad X A n cap g i k hn hX hs 2 h2 (.inr rfl) w hr).mono fun e w' ⟨v, he, hm, hb⟩ => ⟨v, he, by obtain ⟨A', c', hv, _⟩ := hm; exact ⟨A', c', hv, .inl rfl⟩, hb⟩

set_option maxRecDepth 100000 in
set_option maxHeartbeats 4000000 in
theorem SwapFrames_any (s : Ers) (X : Int) (A : Option Addr) (n cap : Nat) (g : Nat → Nat → Int) (i k : Int) (hn : n ≤ 1048576) (hX : -128 ≤ X ∧ X ≤ 127) (w : World) (hr : PrsIn w A n g) (hE : ErrEnv s w) :
    Calls Tryd.prog 9 #[.agg #[.int .i8 X, .slice A n cap], .int .i64 i, .int .i64 k] w (SwpOut w.heap.size X n g i k w) := by
  have k0 := ((Below.refl w.heap.size w).alloc (Nat.le_refl _) (.cells #[.int .i8 X, .slice A n cap] 29)).alloc (by simp) (.cells #[.int .i8 0, .slice none 0 0] 29)
  have r0 : ((w.alloc (.cells #[.int .i8 X, .slice A n cap] 29)).alloc (.cells #[.int .i8 0, .slice none 0 0] 29)).cell? ⟨w.heap.size + 1, 0, none⟩ = some (.int .i8 0) := by simp
  have r1 : ((w.alloc (.cells #[.int .i8 X, .slice A n cap] 29)).alloc (.cells #[.int .i8 0, .slice none 0 0] 29)).cell? ⟨w.heap.size + 1, 1, none⟩ = some (.slice none 0 0) := by simp
  have f0 : ((w.alloc (.cells #[.int .i8 X, .slice A n cap] 29)).alloc (.cells #[.int .i8 0, .slice none 0 0] 29)).frozen? ⟨w.heap.size + 1, 0, none⟩ = false := by simp
  have f1 : ((w.alloc (.cells #[.int .i8 X, .slice A n cap] 29)).alloc (.cells #[.int .i8 0, .slice none 0 0] 29)).frozen? ⟨w.heap.size + 1, 1, none⟩ = false := by simp
  have hsz : w.heap.size + 1 < ((w.alloc (.cells #[.int .i8 X, .slice A n cap] 29)).alloc (.cells #[.int .i8 0, .slice none 0 0] 29)).heap.size := by simp
  have hq := swapFrames_any s X A n cap g i k hn hX _ (hr.below k0 (Nat.le_refl _)) (hE.below k0 (Nat.le_refl _))
  have HE := Lib.hid (hE.below k0 (Nat.le_refl _))
  unfold SwpOut
  generalize (if swpC X n g i k = 0 then X else 0) = RX at *
  generalize (if swpC X n g i k = 0 then n else 0) = RN at *
  generalize swpC X n g i k = C at *
  generalize swpF g i.toNat k.toNat = G at *
  have Hq := Lib.hid hq; clear hq hr hE
  have G4 := Lib.hid (And.intro r0 (And.intro r1 (And.intro f0 (And.intro f1 hsz)))); clear r0 r1 f0 f1
  have d0 : ((w.alloc (.cells #[.int .i8 X, .slice A n cap] 29)).alloc (.cells #[.int .i8 0, .slice none 0 0] 29)).cell? ⟨w.heap.size, 0, none⟩ = some (.int .i8 X) := by simp
  have d1 : ((w.alloc (.cells #[.int .i8 X, .slice A n cap] 29)).alloc (.cells #[.int .i8 0, .slice none 0 0] 29)).cell? ⟨w.heap.size, 1, none⟩ = some (.slice A n cap) := by simp
  go_enter Tryd.func9, Tryd.ntmps9
  go_wp2_with fail
  generalize ((w.alloc (.cells #[.int .i8 X, .slice A n cap] 29)).alloc (.cells #[.int .i8 0, .slice none 0 0] 29)) = W0 at *
  refine Hq.out.mono ?_; rintro e w1 ⟨A1, c1, v1, rfl, hI, hM, hb1⟩
  have R1 := Lib.hid hb1
  clear hb1 Hq d0 d1
  go_wp2_with fail
  refine (codedSheet_any RX A1 RN c1 hI _ (HE.out.below R1.out (Nat.le_refl _))).mono ?_; rintro e w2 ⟨rfl, hb2⟩
  have R2 := R1.out.trans (hb2.mono R1.out.size)
  have hM2 := hM.below hb2 (Nat.le_refl _)
  have s0 := below_cellOf R2 G4.out.1 (Nat.le_refl _)
  have s1 := below_cellOf R2 G4.out.2.1 (Nat.le_refl _)
  have u0 := (R2.frozen (p := ⟨w.heap.size + 1, 0, none⟩) G4.out.2.2.2.2).trans G4.out.2.2.1
  have u1 := (R2.frozen (p := ⟨w.heap.size + 1, 1, none⟩) G4.out.2.2.2.2).trans G4.out.2.2.2.1
  have KE := Lib.hid (k0.trans (R2.mono k0.size))
  have hz1 := hb2.size
  clear R2 hb2 hM
  go_wp2_with fail
  refine bodyPost_ret (v := .tuple #[.agg #[.int .i8 RX, .slice A1 RN c1], .int .i64 C]) (by simp [results, Tryd.results9, go_sem, s0, s1]) rfl ⟨_, rfl, ?_, ?_⟩
  · refine (hM2.keep (fun b h1 h2 h3 => ?_)).mono (by omega) (by simpa [World.setCell] using hz1)
    rw [Below.heap_setCell _ _ _ _ (by show b ≠ w.heap.size + 1; omega), Below.heap_setCell _ _ _ _ (by show b ≠ w.heap.size + 1; omega)]
  · exact (KE.out.setCell (by show _ ≤ w.heap.size + 1; omega) _).setCell (by show _ ≤ w.heap.size + 1; omega) _
end Go.Proofs.YtkmpfbjenddhjaaDoor

/-
  Two frames exchanged, by the program. Condition: its variables hold their own errors; at most 1048576 frames of int16 numbers.
-/
import Derived.Test.YtkmpfbjenddhjaaDoorSwapS
import Derived.Maps.RangeWalk
import Derived.Test.YtkmpfbjenddhjaaDoorPickI
namespace Go.Proofs.YtkmpfbjenddhjaaDoor
open Go.RowKit

section
variable {P : Program} {w w' : World} {b o : Nat} {κ : IntKind} {n : Nat} {f g : Nat → Int}
theorem step_store_part {ops : Array Oper} {op : Oper} {a : Act} {K : Act → World → Prop} {Q : Exit → Act → World → Prop} {E : Prop} {T : TypeId} {m : Nat} {h : Nat → Value}
    (hr : w.rowIs b T m h) (hm : o + n ≤ m) (ty : TypeId) (x y : Operand) (hgd : op.guard = none) (ho : op.op = .store ty x y) (hx : a.eval x = .pointer (some ⟨b, o, none⟩)) {cs : Array Value} (hy : a.eval y = .agg cs) (hcs : cs = arrV κ n f) (hi : (P.info? ty).map (·.size) = some n)
    (hK : ∀ w', StoredP w w' b o n κ f → K (a.put op.dst undef) w') : if Region.wanted op (yielded ops a.tmps) = true then Oper.wp P op a w K Q else E := by
  have hw : Region.wanted op (yielded ops a.tmps) = true := by simp [Region.wanted, hgd]
  rw [if_pos hw]
  subst hcs
  exact wp_store_mid ty x y ho b o _ hx hy (fun j hj => by
    rw [arrV_size] at hj
    exact ⟨by rw [hr.cell (by omega)]; rfl, hr.frozen _⟩) (by rw [arrV_size]; exact hi) (arrV_one _ _ _) (hK _ (storedP _ _ _ _ _ _))
theorem PartA.loadAt (h : PartA w b o κ n f) (ty : TypeId) {m : Nat} {e : TypeId} (hu : P.underlying ty = some (.array m e)) (hi : (P.info? ty).map (·.size) = some n) :
    (Instr.loadAt ty (.pointer (some ⟨b, o, none⟩))).run P w = .ok (.agg (arrV κ n f)) w := by
  have hl := run_loadAt_mid (P := P) w b o ty (arrV κ n f).toList _ h.range hu rfl (by simpa [arrV_size] using hi)
  simpa using hl
end

set_option maxRecDepth 100000 in
set_option maxHeartbeats 4000000 in
theorem clonePr_any (b o n c : Nat) (g : Nat → Nat → Int) (hn : n ≤ 1048576) (hpos : 0 < n) (w : World) (hx : PrsAt w b o n g) (hb : b < w.heap.size) :
    Calls Tryd.prog 65 #[.slice (some ⟨b, o, none⟩) n c] w fun e w' => ∃ q cap, e = .returned (.slice (some ⟨q, 0, none⟩) n cap) ∧ w.heap.size ≤ q ∧ PrRow w' q n g ∧ Below w.heap.size w w' := by
  have hnil : ∀ W : World, (binOp .eql 80 (.slice (some ⟨b, o, none⟩) n c) (.slice none 0 0)).run Tryd.prog W = .ok (.bool false) W := fun W => by
    simpa using Lib.run_eql_slice_nil (P := Tryd.prog) W 80 58 (some ⟨b, o, none⟩) n c 0 0 Tryd.underlying80
  have o0 := World.ownsRow_lit (base := w.heap.size) (e := 58) (size := 64) w #[] 0 (Nat.le_refl _) (Nat.zero_le _) rfl
  have k1 := (Below.refl w.heap.size w).alloc (Nat.le_refl _) (.cells #[] 58)
  have O0 := Lib.hid (show (w.alloc (.cells #[] 58)).ownsRow w.heap.size 58 64 (.slice (some ⟨w.heap.size, 0, none⟩) 0 0) 0 (prL g 0) by simpa [prL_nil] using o0)
  have X0 := Lib.hid (hx.below k1 hb)
  have K1 := Lib.hid k1
  have hn0 : Hid (0 + n ≤ 2097152) := Lib.hid (by omega)
  clear o0 k1
  go_enter Tryd.func65, Tryd.ntmps65
  go_wp2_with (at_builtin; refine wpList_append_prs (c := c) rfl (.tmp 5) (.tmp 6) rfl Tryd.underlying80 rfl O0.out (.inr hpos) rfl X0.out hn0.out K1.out.size ?_; intro gg cq w5 hown hbl hgr)
  have e : appF g g 0 = g := by funext i; simp [appF]
  rw [e] at hown
  simp only [Nat.zero_add] at hown
  have hrow := own_row hown
  have hB := K1.out.trans hbl
  clear hown hbl hgr hnil
  go_wp2_with fail
  go_ret
  exact ⟨gg, cq, by simp, hrow.1, hrow.2, hB⟩

set_option maxRecDepth 100000 in
set_option maxHeartbeats 4000000 in
theorem swapped_any (b o n c : Nat) (g : Nat → Nat → Int) (i k : Nat) (hi : i < n) (hk : k < n) (hn : n ≤ 1048576) (w : World) (hx : PrsAt w b o n g) (hb : b < w.heap.size) :
    Calls Tryd.prog 54 #[.slice (some ⟨b, o, none⟩) n c, .int .i64 (i : Int), .int .i64 (k : Int)] w fun e w' => ∃ q cap, e = .returned (.slice (some ⟨q, 0, none⟩) n cap) ∧ w.heap.size ≤ q ∧ PrRow w' q n (swpF g i k) ∧ Below w.heap.size w w' := by
  have hcl := Lib.hid (clonePr_any b o n c g hn (by omega) w hx hb)
  go_enter Tryd.func54, Tryd.ntmps54
  go_wp2_with fail
  refine hcl.out.mono ?_; rintro e w2 ⟨q, cq, rfl, hq, hR, hb2⟩
  have hP2 := hx.below hb2 hb
  have pi := hP2 i hi
  have pk := hP2 k hk
  have HR := Lib.hid hR
  obtain ⟨m, hf, hm, hrw, he⟩ := hR
  have hmi : i * 64 + 64 ≤ m := by omega
  have hmk : k * 64 + 64 ≤ m := by omega
  have hi' : (i : Int) < n := by omega
  have hk' : (k : Int) < n := by omega
  have hqb : ¬ b = q := by omega
  have PI := Lib.hid pi; have PK := Lib.hid pk
  clear hcl hP2 hx he hm pi pk
  obtain ⟨VK, hVK⟩ : ∃ VK, arrV .i16 64 (g k) = VK := ⟨_, rfl⟩
  obtain ⟨VI, hVI⟩ : ∃ VI, arrV .i16 64 (g i) = VI := ⟨_, rfl⟩
  have lk := fun W (h : PartA W b (o + k * 64) .i16 64 (g k)) => PartA.loadAt (P := Tryd.prog) h 58 Tryd.underlying58 sizePrint
  have li := fun W (h : PartA W b (o + i * 64) .i16 64 (g i)) => PartA.loadAt (P := Tryd.prog) h 58 Tryd.underlying58 sizePrint
  rw [hVK] at lk
  rw [hVI] at li
  have LK := Lib.hid lk; have LI := Lib.hid li; have HVK := Lib.hid hVK.symm; have HVI := Lib.hid hVI.symm
  clear lk li hVK hVI
  go_wp2_with fail
  refine wp_region_held (S := fun W => PartA W b (o + k * 64) .i16 64 (g k) ∧ PartA W b (o + i * 64) .i16 64 (g i)) (by kernel_rfl) ?_
  have hS0 : PartA w2.drew b (o + k * 64) .i16 64 (g k) ∧ PartA w2.drew b (o + i * 64) .i16 64 (g i) := ⟨PK.out, PI.out⟩
  have hrwd : w2.drew.rowIs q 58 m hf := hrw
  have HRd : Hid (PrRow w2.drew q n g) := Lib.hid HR.out
  have hbd : Below w.heap.size w w2.drew := hb2.drew
  show wpAnyH _ _ _ _ _ _ _ _ w2.drew
  clear hrw HR hb2 PK PI
  generalize w2.drew = Wd at *
  simp only [List.size_toArray, List.length_cons, List.length_nil]
  refine wpAnyH_take (i := 0) (v := .slice (some ⟨q, 0, none⟩) n cq) rfl (by kernel_rfl) (by kernel_rfl) (by kernel_rfl) (fun _ _ _ h => h) (.inl ⟨by rfl, fun W _ => by go_simp⟩) hS0 ?_
  go_frame
  refine wpAnyH_take (i := 1) (v := .int .i64 (i : Int)) rfl (by kernel_rfl) (by kernel_rfl) (by kernel_rfl) (fun _ _ _ h => h) (.inl ⟨by rfl, fun W _ => by go_simp⟩) hS0 ?_
  go_frame
  refine wpAnyH_take (i := 2) (v := .slice (some ⟨q, 0, none⟩) n cq) rfl (by kernel_rfl) (by kernel_rfl) (by kernel_rfl) (fun _ _ _ h => h) (.inl ⟨by rfl, fun W _ => by go_simp⟩) hS0 ?_
  go_frame
  refine wpAnyH_take (i := 3) (v := .int .i64 (k : Int)) rfl (by kernel_rfl) (by kernel_rfl) (by kernel_rfl) (fun _ _ _ h => h) (.inl ⟨by rfl, fun W _ => by go_simp⟩) hS0 ?_
  go_frame
  refine wpAnyH_take (i := 4) (v := .slice (some ⟨b, o, none⟩) n c) rfl (by kernel_rfl) (by kernel_rfl) (by kernel_rfl) (fun _ _ _ h => h) (.inl ⟨by rfl, fun W _ => by go_simp⟩) hS0 ?_
  go_frame
  refine wpAnyH_take (i := 5) (v := .int .i64 (k : Int)) rfl (by kernel_rfl) (by kernel_rfl) (by kernel_rfl) (fun _ _ _ h => h) (.inl ⟨by rfl, fun W _ => by go_simp⟩) hS0 ?_
  go_frame
  refine wpAnyH_take (i := 6) (v := .pointer (some ⟨b, o + k * 64, none⟩)) rfl (by kernel_rfl) (by kernel_rfl) (by kernel_rfl) (fun _ _ _ h => h) (.inl ⟨by rfl, fun W _ => by go_simp⟩) hS0 ?_
  go_frame
  refine wpAnyH_take (i := 7) (v := .agg VK) rfl (by kernel_rfl) (by kernel_rfl) (by kernel_rfl) (fun _ _ _ h => h) (yields_load_part (fun W hW => hW.1) HVK.out.symm 58 (.tmp 16) rfl rfl (by go_simp) Tryd.underlying58 sizePrint) hS0 ?_
  go_frame
  refine wpAnyH_take (i := 8) (v := .slice (some ⟨b, o, none⟩) n c) rfl (by kernel_rfl) (by kernel_rfl) (by kernel_rfl) (fun _ _ _ h => h) (.inl ⟨by rfl, fun W _ => by go_simp⟩) hS0 ?_
  go_frame
  refine wpAnyH_take (i := 9) (v := .int .i64 (i : Int)) rfl (by kernel_rfl) (by kernel_rfl) (by kernel_rfl) (fun _ _ _ h => h) (.inl ⟨by rfl, fun W _ => by go_simp⟩) hS0 ?_
  go_frame
  refine wpAnyH_take (i := 10) (v := .pointer (some ⟨b, o + i * 64, none⟩)) rfl (by kernel_rfl) (by kernel_rfl) (by kernel_rfl) (fun _ _ _ h => h) (.inl ⟨by rfl, fun W _ => by go_simp⟩) hS0 ?_
  go_frame
  refine wpAnyH_take (i := 11) (v := .agg VI) rfl (by kernel_rfl) (by kernel_rfl) (by kernel_rfl) (fun _ _ _ h => h) (yields_load_part (fun W hW => hW.2) HVI.out.symm 58 (.tmp 20) rfl rfl (by go_simp) Tryd.underlying58 sizePrint) hS0 ?_
  go_frame
  refine wpAnyH_take (i := 12) (v := .pointer (some ⟨q, i * 64, none⟩)) rfl (by kernel_rfl) (by kernel_rfl) (by kernel_rfl) (fun _ _ _ h => h) (.inl ⟨by rfl, fun W _ => by go_simp⟩) hS0 ?_
  go_frame
  refine wpAnyH_ready (rs := [13]) (by kernel_rfl) (by decide) ?_
  refine AllReadyH.cons (by rfl) (fun K5 hK5 => step_store_part hrwd hmi 58 (.tmp 22) (.tmp 17) (by rfl) (by rfl) (by go_simp) (by go_simp) HVK.out sizePrint ?_) AllReadyH.nil
  intro w5 S5
  have hS5 : PartA w5 b (o + k * 64) .i16 64 (g k) ∧ PartA w5 b (o + i * 64) .i16 64 (g i) := ⟨hS0.1.stored S5 hqb, hS0.2.stored S5 hqb⟩
  refine hK5.out _ _ hS5 (fun _ => ?_)
  clear hK5 K5
  refine wpAnyH_take (i := 14) (v := .pointer (some ⟨q, k * 64, none⟩)) rfl (by kernel_rfl) (by kernel_rfl) (by kernel_rfl) (fun _ _ _ h => h) (.inl ⟨by rfl, fun W _ => by go_simp⟩) hS5 ?_
  go_frame
  refine wpAnyH_ready (rs := [15]) (by kernel_rfl) (by decide) ?_
  refine AllReadyH.cons (by rfl) (fun K6 hK6 => step_store_part (S5.row _ _ _ hrwd) hmk 58 (.tmp 23) (.tmp 21) (by rfl) (by rfl) (by go_simp) (by go_simp) HVI.out sizePrint ?_) AllReadyH.nil
  intro w6 S6
  have hS6 : PartA w6 b (o + k * 64) .i16 64 (g k) ∧ PartA w6 b (o + i * 64) .i16 64 (g i) := ⟨hS5.1.stored S6 hqb, hS5.2.stored S6 hqb⟩
  refine hK6.out _ _ hS6 (fun _ => ?_)
  clear hK6 K6
  refine wpAnyH_done (by kernel_rfl) ?_ _
  have hR5 := PrRow.store HRd.out S5
  have hR6 : PrRow w6 q n (swpF g i k) := PrRow.store hR5 S6
  have k6 : Below w.heap.size w w6 := S6.below (S5.below hbd hq) hq
  go_wp2_with fail
  go_ret
  exact ⟨_, _, rfl, hq, hR6, k6⟩
end Go.Proofs.YtkmpfbjenddhjaaDoor

/-
  The light of each cell: what the reference hands out. Condition: at most 1048576 steps.
-/
import Derived.Test.YtnlcjbobfhmnmaaDoorLightS
namespace Go.Proofs.YtnlcjbobfhmnmaaDoor
open Go.RowKit

theorem results_row_tmp {P : Program} {fn : Func} {p q : Tmp} {ty : TypeId} (h : fn.results = #[.cell p ty, .tmp q]) (tmps : Array Value) (w : World) (g : Nat) (t : TypeId) (cs : Array Value) (fr : Nat × Nat) (d : TypeDesc)
    (hp : tmps.getD p undef = .pointer (some ⟨g, 0, none⟩)) (hg : w.heap[g]? = some (.cells cs t fr))
    (hu : P.underlying ty = some d) (hd : (match d with | .struct _ | .array _ _ => true | _ => false) = true) (hi : (P.info? ty).map (·.size) = some cs.size) (v : Value) (hq : tmps.getD q undef = v) :
    (results fn tmps).run P w = .ok (.tuple #[.agg cs, v]) w := by
  have hp' : tmps[p]?.getD undef = .pointer (some ⟨g, 0, none⟩) := by simpa using hp
  have hq' : tmps[q]?.getD undef = v := by simpa using hq
  simp [results, h, hp', hq', asAddr, run_loadVar_row w g t ty cs fr d hg hu hd hi]

set_option maxRecDepth 100000 in
set_option maxHeartbeats 4000000 in
theorem l03Light_any (b n cap : Nat) (fs es : Nat → Int) (hn : n ≤ 1048576) (hs : SmallS n fs es) (hl : ∀ k, k < n → inB (es k) 0 36 = true) (w : World) (hr : StRow w b n fs es) :
    Calls Tryd.prog 38 #[.slice (some ⟨b, 0, none⟩) n cap] w fun e w' => e = .returned (.agg (arrV .i64 64 fun c => thin (addT fs es n c))) ∧ Below w.heap.size w w' := by
  have a0 := HasArr.zeroI w rfl
  have k0 := (Below.refl w.heap.size w).alloc (Nat.le_refl _) (.cells #[.int .i64 0, .int .i64 0, .int .i64 0, .int .i64 0, .int .i64 0, .int .i64 0, .int .i64 0, .int .i64 0, .int .i64 0, .int .i64 0, .int .i64 0, .int .i64 0, .int .i64 0, .int .i64 0, .int .i64 0, .int .i64 0, .int .i64 0, .int .i64 0, .int .i64 0, .int .i64 0, .int .i64 0, .int .i64 0, .int .i64 0, .int .i64 0, .int .i64 0, .int .i64 0, .int .i64 0, .int .i64 0, .int .i64 0, .int .i64 0, .int .i64 0, .int .i64 0, .int .i64 0, .int .i64 0, .int .i64 0, .int .i64 0, .int .i64 0, .int .i64 0, .int .i64 0, .int .i64 0, .int .i64 0, .int .i64 0, .int .i64 0, .int .i64 0, .int .i64 0, .int .i64 0, .int .i64 0, .int .i64 0, .int .i64 0, .int .i64 0, .int .i64 0, .int .i64 0, .int .i64 0, .int .i64 0, .int .i64 0, .int .i64 0, .int .i64 0, .int .i64 0, .int .i64 0, .int .i64 0, .int .i64 0, .int .i64 0, .int .i64 0, .int .i64 0] 80)
  have hrk := hr.below k0 hr.lt
  have ht := fun W h => l03Times_any b n cap fs es hn hs hl W h
  generalize addT fs es n = F at *
  have Ht := Lib.hid ht; clear ht hl hs
  go_enter Tryd.func38, Tryd.ntmps38
  go_wp2_with fail
  refine (Ht.out _ hrk).mono ?_; rintro e w1 ⟨rfl, hb1⟩
  have b0 := a0.below hb1 a0.lt
  have k1 := k0.trans (hb1.mono k0.size)
  have z1 : w.heap.size < w1.heap.size := b0.lt
  have a1 := HasArr.zeroI w1 (b := w1.heap.size) rfl
  have b1 := (a1.setRow .i64 F).congr (fun j _ => mixG_0 F (fun c => thin (F c)) j)
  have b2 := (b0.alloc (.cells #[.int .i64 0, .int .i64 0, .int .i64 0, .int .i64 0, .int .i64 0, .int .i64 0, .int .i64 0, .int .i64 0, .int .i64 0, .int .i64 0, .int .i64 0, .int .i64 0, .int .i64 0, .int .i64 0, .int .i64 0, .int .i64 0, .int .i64 0, .int .i64 0, .int .i64 0, .int .i64 0, .int .i64 0, .int .i64 0, .int .i64 0, .int .i64 0, .int .i64 0, .int .i64 0, .int .i64 0, .int .i64 0, .int .i64 0, .int .i64 0, .int .i64 0, .int .i64 0, .int .i64 0, .int .i64 0, .int .i64 0, .int .i64 0, .int .i64 0, .int .i64 0, .int .i64 0, .int .i64 0, .int .i64 0, .int .i64 0, .int .i64 0, .int .i64 0, .int .i64 0, .int .i64 0, .int .i64 0, .int .i64 0, .int .i64 0, .int .i64 0, .int .i64 0, .int .i64 0, .int .i64 0, .int .i64 0, .int .i64 0, .int .i64 0, .int .i64 0, .int .i64 0, .int .i64 0, .int .i64 0, .int .i64 0, .int .i64 0, .int .i64 0, .int .i64 0] 80)).rowOther (b' := w1.heap.size) (by omega) (arrV .i64 64 F)
  have k2 := below_setRow (k1.alloc k1.size (.cells #[.int .i64 0, .int .i64 0, .int .i64 0, .int .i64 0, .int .i64 0, .int .i64 0, .int .i64 0, .int .i64 0, .int .i64 0, .int .i64 0, .int .i64 0, .int .i64 0, .int .i64 0, .int .i64 0, .int .i64 0, .int .i64 0, .int .i64 0, .int .i64 0, .int .i64 0, .int .i64 0, .int .i64 0, .int .i64 0, .int .i64 0, .int .i64 0, .int .i64 0, .int .i64 0, .int .i64 0, .int .i64 0, .int .i64 0, .int .i64 0, .int .i64 0, .int .i64 0, .int .i64 0, .int .i64 0, .int .i64 0, .int .i64 0, .int .i64 0, .int .i64 0, .int .i64 0, .int .i64 0, .int .i64 0, .int .i64 0, .int .i64 0, .int .i64 0, .int .i64 0, .int .i64 0, .int .i64 0, .int .i64 0, .int .i64 0, .int .i64 0, .int .i64 0, .int .i64 0, .int .i64 0, .int .i64 0, .int .i64 0, .int .i64 0, .int .i64 0, .int .i64 0, .int .i64 0, .int .i64 0, .int .i64 0, .int .i64 0, .int .i64 0, .int .i64 0] 80)) (b := w1.heap.size) k1.size (arrV .i64 64 F)
  have K0 := Lib.hid (And.intro b2 (And.intro b1 k2))
  clear a0 k0 hrk hb1 b0 k1 b1 b2 k2
  go_wp2_with (refine wpList_store_arr a1 _ _ _ rfl rfl rfl rfl sizeI64 ?_)
  clear a1
  go_loopw [4] (fun i wr => ∃ c : Nat, c ≤ 64 ∧ i = .int .i64 (c : Int) ∧ HasArr wr w.heap.size 80 .i64 64 (fun _ => 0) ∧ HasArr wr w1.heap.size 80 .i64 64 (mixG F (fun c => thin (F c)) c) ∧ Below w.heap.size w wr) (fun i _ => 64 - (intOf i).toNat)
  case atStart => exact ⟨0, by omega, rfl, K0.out⟩
  case round =>
    obtain ⟨c, hc, rfl, h0, h1, hB⟩ := hrel
    clear K0
    by_cases hcn : c < 64
    · have w4 : (c : Int) < 64 := by omega
      have hcell := h1.cell hcn
      rw [mixG_at] at hcell
      have hst := fun (W : World) (h : HasArr W w1.heap.size 80 .i64 64 (mixG F (fun c => thin (F c)) c)) => (h.set c (thin (F c))).congr (fun j _ => mixG_step F (fun c => thin (F c)) c j)
      have hin := fun W => l01In_any (F c) W
      generalize thin (F c) = X at *
      generalize F c = Y at *
      have Hst := Lib.hid hst; clear hst
      have Hin := Lib.hid hin; clear hin
      have HR0 := Lib.hid h0; clear h0
      have HR1 := Lib.hid h1; clear h1
      have HB := Lib.hid hB; clear hB
      go_wp2_with fail
      refine (Hin.out _).mono ?_; rintro e w2 ⟨rfl, hb2⟩
      have g0 := HR0.out.below hb2 HR0.out.lt
      have g1 := HR1.out.below hb2 HR1.out.lt
      have gB := HB.out.trans (hb2.mono HB.out.size)
      have d0 := g1.cell hcn
      have e0 := g1.free c
      have K := Lib.hid (And.intro (g0.other (a := ⟨w1.heap.size, c, none⟩) (by simp; omega) (.int .i64 X)) (And.intro (Hst.out _ g1) (gB.setCell (p := ⟨w1.heap.size, c, none⟩) (by simp; omega) (.int .i64 X))))
      clear g0 g1 gB hcell
      go_wp2_with fail
      go_roundw
      case rel => exact ⟨c + 1, by omega, by go_num, K.out⟩
      case measure => simp [intOf]; omega
    · obtain rfl : c = 64 := by omega
      have h1 := h1.congr (g := fun c => thin (F c)) (fun j hj => mixG_64 hj)
      have h2' := h0.setRow .i64 (fun c => thin (F c))
      have hB' := below_setRow hB (b := w.heap.size) (by omega) (arrV .i64 64 fun c => thin (F c))
      go_wp2_with (first | (refine wpList_load_arr h1 _ _ rfl rfl rfl Tryd.underlying80 sizeI64 ?_) | (refine wpList_store_arr h0 _ _ _ rfl rfl rfl rfl sizeI64 ?_))
      refine bodyPost_ret (v := .agg (arrV .i64 64 fun c => thin (F c))) ?_ rfl ⟨rfl, hB'⟩
      exact results_cell_row rfl _ _ _ _ _ _ _ rfl h2' Tryd.underlying80 rfl (by rw [arrV_size]; exact sizeI64)

/-- The light of each cell, or none. -/
def lgtV (n : Nat) (fs es : Nat → Int) : Nat → Int := if stpB n es = true then (fun c => thin (addT fs es n c)) else fun _ => 0
theorem lgt_1 {n : Nat} {fs es : Nat → Int} (h : stpB n es = false) : lgtV n fs es = fun _ => 0 := by simp [lgtV, h]
theorem lgt_0 {n : Nat} {fs es : Nat → Int} (h : stpB n es = true) : lgtV n fs es = fun c => thin (addT fs es n c) := by simp [lgtV, h]
theorem stpB_lit {n : Nat} {es : Nat → Int} (h : stpB n es = true) : ∀ k, k < n → inB (es k) 0 36 = true := by
  unfold stpB at h
  rw [Bool.and_eq_true] at h
  exact litB_iff.1 h.1

end Go.Proofs.YtnlcjbobfhmnmaaDoor

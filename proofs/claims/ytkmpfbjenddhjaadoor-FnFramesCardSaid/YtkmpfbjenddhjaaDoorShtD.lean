/-
  A sheet that is drawn: valid, at most five frames, whatever the bytes. Condition: at most 1048576 bytes.
-/
import Derived.Test.YtkmpfbjenddhjaaDoorCells
import Derived.Test.YtkmpfbjenddhjaaDoorPickX
namespace Go.Proofs.YtkmpfbjenddhjaaDoor
open Go.RowKit

section
variable {L U B k : Nat} {a b c w w' : World} {v : Value} {xs : List Value}
theorem Only.thenBelow (h : Only L U a b) (h' : Below B b c) (hB : a.heap.size ≤ B) : Only L U a c :=
  ⟨h'.os.trans h.os, h'.tape.trans h.tape, h'.output.trans h.output, Nat.le_trans h.size h'.size, fun k hk hkk => (h'.block k (Nat.lt_of_lt_of_le hk hB)).trans (h.block k hk hkk)⟩
theorem own_keepQ (h : w.ownsRow L 58 64 v k xs) (hb : ∀ g, L ≤ g → g < w.heap.size → w'.heap[g]? = w.heap[g]?) : w'.ownsRow L 58 64 v k xs := by
  obtain ⟨hl, h⟩ := h
  refine ⟨hl, ?_⟩
  rcases h with h | ⟨b, cap, cur, e, hbL, hh, hr⟩
  · exact .inl h
  · exact .inr ⟨b, cap, cur, e, hbL, (hb b hbL (Array.getElem?_eq_some_iff.1 hh).1).trans hh, hr⟩
theorem own_form (h : w.ownsRow L 58 64 v k xs) : ∃ A c, v = .slice A k c ∧ k ≤ c := by
  obtain ⟨hl, h⟩ := h
  rcases h with ⟨rfl, h0⟩ | ⟨b, cap, cur, rfl, hb, hh, hn', hm, hs, ht⟩
  · subst h0
    exact ⟨none, 0, rfl, Nat.le_refl _⟩
  · exact ⟨_, cap, rfl, hn'⟩
theorem Only.frozenOf (h : Only L U w w') {p : Addr} (hp : p.block < w.heap.size) (hb : p.block < L ∨ U ≤ p.block) : w'.frozen? p = w.frozen? p := World.frozen?_of_block (h.block p.block hp hb)
end
/-- A sheet that was drawn. -/
def ShtDr (L : Nat) (w' : World) (e : Ending) : Prop :=
  ∃ (X : Int) (m : Nat) (g : Nat → Nat → Int) (A' : Option Addr) (c' : Nat), e = .returned (.agg #[.int .i8 X, .slice A' m c']) ∧ 1 ≤ X ∧ X ≤ 5 ∧ m ≤ 5 ∧ m ≤ c' ∧ (∀ i, i < m → Dn 64 (g i)) ∧ Mine w' L w'.heap.size 58 64 (.slice A' m c') m (prF g)

set_option maxRecDepth 100000 in
set_option maxHeartbeats 4000000 in
theorem l07Drawn_any (b : Nat) (A : Option Addr) (n cap : Nat) (bs : Nat → Int) (hn : n ≤ 1048576) (hbs : ∀ j, j < n → 0 ≤ bs j ∧ bs j ≤ 255) (w : World) (hS0 : SrcAt w b A n cap 0) (hB : BytesIn w A n bs) (hA : 0 < n → ∀ a, A = some a → a.block < b) :
    Calls Tryd.prog 37 #[.pointer (some ⟨b, 0, none⟩)] w fun e w' => ShtDr (w.heap.size + 1) w' e ∧ Only b (b + 1) w w' := by
  have hblt : b < w.heap.size := by obtain ⟨_, _, _, _, _, h⟩ := hS0.cells; exact h
  have hBB : ∀ W, Below b w W → BytesIn W A n bs := fun W h => by
    rcases hB with h0 | ⟨b', o, e, hlt, hc⟩
    · exact .inl h0
    · rcases Nat.eq_zero_or_pos n with h0 | h0
      · exact .inl h0
      have h1 : b' < b := hA h0 _ e
      exact .inr ⟨b', o, e, by have := h.size; omega, fun j hj => by rw [h.cell (p := ⟨b', o + j, none⟩) h1]; exact hc j hj⟩
  have hpk := fun (W : World) (m : Int) (p : Nat) (h0 : 0 ≤ m) (h1 : m ≤ 1000) (hp : p ≤ 2000) (hS : SrcAt W b A n cap p) (hb : Only b (b + 1) w W) =>
    srcPick_any b n cap p A bs m h0 (by omega) hn (by omega) hbs W hS (hBB W (hb.below (Nat.le_of_lt hblt))) hA
  have hce := fun (W : World) (p : Nat) (hp : p ≤ 1000) (hS : SrcAt W b A n cap p) (hb : Only b (b + 1) w W) =>
    l03Cells_any b A n cap p bs hn hp hbs W hS (hBB W (hb.below (Nat.le_of_lt hblt))) hA
  have Hpk := Lib.hid hpk; have Hce := Lib.hid hce; clear hpk hce hbs hBB hB hA
  have o0 := Only.allocM b (b + 1) w (.cells #[.int .i8 0, .slice none 0 0] 29)
  have s0 := hS0.below ((Below.refl w.heap.size w).alloc (Nat.le_refl _) (.cells #[.int .i8 0, .slice none 0 0] 29)) hblt
  have y0 : (w.alloc (.cells #[.int .i8 0, .slice none 0 0] 29)).cell? ⟨w.heap.size, 0, none⟩ = some (.int .i8 0) := by simp
  have y1 : (w.alloc (.cells #[.int .i8 0, .slice none 0 0] 29)).cell? ⟨w.heap.size, 1, none⟩ = some (.slice none 0 0) := by simp
  have f0 : (w.alloc (.cells #[.int .i8 0, .slice none 0 0] 29)).frozen? ⟨w.heap.size, 0, none⟩ = false := by simp
  have f1 : (w.alloc (.cells #[.int .i8 0, .slice none 0 0] 29)).frozen? ⟨w.heap.size, 1, none⟩ = false := by simp
  have z0 : w.heap.size < (w.alloc (.cells #[.int .i8 0, .slice none 0 0] 29)).heap.size := by simp
  clear hS0
  have Y := Lib.hid (And.intro y0 (And.intro y1 (And.intro f0 f1))); clear y0 y1 f0 f1
  go_enter Tryd.func37, Tryd.ntmps37
  go_wp2_with fail
  generalize (w.alloc (.cells #[.int .i8 0, .slice none 0 0] 29)) = W0 at *
  refine (Hpk.out _ 5 0 (by omega) (by omega) (by omega) s0 o0).mono ?_; rintro e w1 ⟨r, q1, rfl, hr, _, hq1, s1, ho1⟩
  have hr := hr.lt (by omega)
  have O1 := Lib.hid ho1
  have o1 := o0.trans ho1
  have z1 := ho1.size
  have OW := Lib.hid o0
  clear s0 o0 ho1
  have i8f : IntKind.i8.wrap (1 + r) = 1 + r := IntWalk.i8_in _ (by omega)
  have u1 := (Below.refl w1.heap.size w1).alloc (Nat.le_refl _) (.cells #[.int .i8 (1 + r), .slice none 0 0] 29)
  have x0 : (w1.alloc (.cells #[.int .i8 (1 + r), .slice none 0 0] 29)).cell? ⟨w1.heap.size, 0, none⟩ = some (.int .i8 (1 + r)) := by simp
  have x1 : (w1.alloc (.cells #[.int .i8 (1 + r), .slice none 0 0] 29)).cell? ⟨w1.heap.size, 1, none⟩ = some (.slice none 0 0) := by simp
  have xf : (w1.alloc (.cells #[.int .i8 (1 + r), .slice none 0 0] 29)).frozen? ⟨w1.heap.size, 1, none⟩ = false := by simp
  have zt : w1.heap.size < (w1.alloc (.cells #[.int .i8 (1 + r), .slice none 0 0] 29)).heap.size := by simp
  have s2 := s1.below u1 (by omega)
  have O2 := Lib.hid (O1.out.thenBelow u1 z1)
  have o2 := o1.thenBelow u1 (by omega)
  have X2 := Lib.hid (And.intro x0 (And.intro x1 xf))
  clear x0 x1 xf s1 o1 O1 u1
  go_wp2_with fail
  generalize hWB : (w1.alloc (.cells #[.int .i8 (1 + r), .slice none 0 0] 29)) = W2 at *
  clear hWB
  obtain ⟨t, ht⟩ : ∃ t, t = w1.heap.size := ⟨_, rfl⟩
  rw [← ht] at X2 zt z1 ⊢
  clear ht
  refine (Hpk.out _ 6 q1 (by omega) (by omega) (by omega) s2 o2).mono ?_; rintro e w3 ⟨K, q3, rfl, hK, _, hq3, s3, ho3⟩
  have hK := hK.lt (by omega)
  have z3 := ho3.size
  have O3 := O2.out.trans ho3
  have x30 := ho3.cellOf X2.out.1 (.inr (by show b + 1 ≤ t; omega))
  have x31 := ho3.cellOf X2.out.2.1 (.inr (by show b + 1 ≤ t; omega))
  have xf3 := (ho3.frozenOf (p := ⟨t, 1, none⟩) zt (.inr (by show b + 1 ≤ t; omega))).trans X2.out.2.2
  have ow3 : w3.ownsRow (t + 1) 58 64 (.slice none 0 0) 0 (prL (fun _ _ => 0) 0) := ⟨rfl, .inl ⟨rfl, rfl⟩⟩
  have P3 := Lib.hid (And.intro (show t + 1 ≤ w3.heap.size by omega) (And.intro x30 (And.intro x31 (And.intro xf3 (And.intro ow3 (And.intro s3 O3))))))
  clear x30 x31 xf3 ow3 s3 O3 ho3 X2 O2 o2 s2
  go_wp2_with fail
  go_loopw [4] (fun kk wr => ∃ (j : Nat) (v : Value) (g : Nat → Nat → Int) (q : Nat), (j : Int) ≤ K ∧ kk = .int .i64 (K - j) ∧ (∀ i, i < j → Dn 64 (g i)) ∧ q ≤ 4 + 40 * j ∧ t + 1 ≤ wr.heap.size ∧ wr.cell? ⟨t, 0, none⟩ = some (.int .i8 (1 + r)) ∧ wr.cell? ⟨t, 1, none⟩ = some v ∧ wr.frozen? ⟨t, 1, none⟩ = false ∧ wr.ownsRow (t + 1) 58 64 v j (prL g j) ∧ SrcAt wr b A n cap q ∧ Only b (b + 1) W0 wr) (fun kk _ => (intOf kk).toNat)
  case atStart => exact ⟨0, _, fun _ _ => 0, q3, by omega, by simp, fun i hi => by omega, by omega, P3.out⟩
  case round =>
    clear P3 z3
    obtain ⟨j, v, g, q, hj, rfl, hg, hq, zr, x0, x1, xf, ow, hS, hO⟩ := hrel
    have Hg := Lib.hid hg; clear hg
    obtain ⟨A', c', hv, hjc⟩ := own_form ow
    have zO := hO.size
    by_cases hc : (0 : Int) < K - j
    rotate_left
    · have ej : (j : Int) = K := by omega
      subst hv
      have y0 := hO.cellOf Y.out.1 (.inr (by show b + 1 ≤ w.heap.size; omega))
      have y1 := hO.cellOf Y.out.2.1 (.inr (by show b + 1 ≤ w.heap.size; omega))
      have f0 := (hO.frozenOf (p := ⟨w.heap.size, 0, none⟩) z0 (.inr (by show b + 1 ≤ w.heap.size; omega))).trans Y.out.2.2.1
      have f1 := (hO.frozenOf (p := ⟨w.heap.size, 1, none⟩) z0 (.inr (by show b + 1 ≤ w.heap.size; omega))).trans Y.out.2.2.2
      have HR := Lib.hid (And.intro ow hO)
      clear ow hO hS Y
      go_wp2_with fail
      refine bodyPost_ret (v := .agg #[.int .i8 (1 + r), .slice A' j c']) (by simp [results, Tryd.results37, go_sem, y0, y1]) rfl ⟨⟨_, j, g, A', c', rfl, by omega, by omega, by omega, hjc, Hg.out, ?_⟩, ?_⟩
      · refine ((mine_prs (own_keepQ HR.out.1 fun k h1 h2 => ?_)).mono (show w.heap.size + 1 ≤ t + 1 by omega) (Nat.le_refl _))
        rw [Below.heap_setCell _ _ _ _ (by show k ≠ w.heap.size; omega), Below.heap_setCell _ _ _ _ (by show k ≠ w.heap.size; omega)]
      · exact ((OW.out.trans HR.out.2).setNew (by show w.heap.size ≤ w.heap.size; omega) _).setNew (by show w.heap.size ≤ w.heap.size; omega) _
    have OR := Lib.hid ow; have SR := Lib.hid hS; have XF := Lib.hid xf; have X0 := Lib.hid x0
    have hO2 := Lib.hid hO
    clear ow hS xf x0 hO
    subst hv
    go_wp2_with fail
    refine wp_region_held (S := fun _ => True) (by kernel_rfl) ?_
    have XD : Hid (wr.drew.cell? ⟨t, 1, none⟩ = some (.slice A' j c')) := Lib.hid x1
    have OD : Hid (wr.drew.ownsRow (t + 1) 58 64 (.slice A' j c') j (prL g j)) := Lib.hid OR.out
    have SD : Hid (SrcAt wr.drew b A n cap q) := Lib.hid SR.out
    have ODr : Hid (Only b (b + 1) W0 wr.drew) := Lib.hid hO2.out.drew
    have XFD : Hid (wr.drew.frozen? ⟨t, 1, none⟩ = false) := Lib.hid XF.out
    have X0D : Hid (wr.drew.cell? ⟨t, 0, none⟩ = some (.int .i8 (1 + r))) := Lib.hid X0.out
    have ZD : t + 1 ≤ wr.drew.heap.size := zr
    show wpAnyH _ _ _ _ _ _ _ _ wr.drew
    clear x1 OR SR XF X0 hO2 zr zO
    generalize wr.drew = Wd at *
    simp only [List.size_toArray, List.length_cons, List.length_nil]
    refine wpAnyH_take (i := 0) (v := .pointer (some ⟨t, 1, none⟩)) rfl (by kernel_rfl) (by kernel_rfl) (by kernel_rfl) (fun _ _ _ h => h) (.inl ⟨by rfl, fun W _ => by go_simp⟩) trivial ?_
    go_frame
    refine wpAnyH_take (i := 2) (v := .pointer (some ⟨b, 0, none⟩)) rfl (by kernel_rfl) (by kernel_rfl) (by kernel_rfl) (fun _ _ _ h => h) (.inl ⟨by rfl, fun W _ => by go_simp⟩) trivial ?_
    go_frame
    refine wpAnyH_ready (rs := [1, 3]) (by kernel_rfl) (by decide) ?_
    refine AllReadyH.cons rfl ?_ (AllReadyH.cons rfl ?_ AllReadyH.nil)
    · intro KA hKA
      have XD' := XD.out
      go_simp
      clear XD'
      refine hKA.out _ _ trivial (fun _ => ?_)
      clear hKA KA
      refine wpAnyH_ready (rs := [3]) (by kernel_rfl) (by decide) ?_
      refine AllReadyH.cons rfl ?_ AllReadyH.nil
      intro KB hKB
      go_simp
      refine (Hce.out _ q (by omega) SD.out (OW.out.trans ODr.out)).mono ?_; rintro e w5 ⟨f, q5, he5, hf, hq5, s5, ho5⟩
      obtain ⟨V, hV⟩ : ∃ V, arrV .i16 64 f = V := ⟨_, rfl⟩
      rw [hV] at he5
      subst he5
      have z5 := ho5.size
      have HV := Lib.hid hV
      have x51 := Lib.hid (ho5.cellOf XD.out (.inr (by show b + 1 ≤ t; omega)))
      have P5 := Lib.hid (And.intro (own_keepQ OD.out fun k h1 h2 => ho5.block k h2 (.inr (by omega))) (And.intro s5 (And.intro (ODr.out.trans ho5) (And.intro ((ho5.frozenOf (p := ⟨t, 1, none⟩) (by show t < _; omega) (.inr (by show b + 1 ≤ t; omega))).trans XFD.out) (ho5.cellOf X0D.out (.inr (by show b + 1 ≤ t; omega)))))))
      clear hV s5 ho5 OD SD ODr XFD X0D
      go_wp2_with fail
      refine hKB.out _ _ trivial (fun _ => ?_)
      clear hKB KB
      refine wpAnyH_ready (rs := [4]) (by kernel_rfl) (by decide) ?_
      refine AllReadyH.cons rfl ?_ AllReadyH.nil
      intro K7 hK7
      refine step_lit_pr (.tmp 19) (by rfl) (by rfl) Tryd.underlying27 (by go_simp) HV.out ?_
      have hx7 := Lib.hid (lit_at w5 f)
      have k7 := (Below.refl w5.heap.size w5).alloc (Nat.le_refl _) (.cells (arrV .i16 64 f) 58)
      have ow7 := Lib.hid (P5.out.1.alloc (.cells (arrV .i16 64 f) 58))
      have k7 := Lib.hid (k7.mono (show t + 1 ≤ w5.heap.size by omega))
      clear HV
      generalize (w5.alloc (.cells (arrV .i16 64 f) 58)) = W7 at *
      refine hK7.out _ _ trivial (fun _ => ?_)
      clear hK7 K7
      try go_frame
      refine wpAnyH_ready (rs := [5]) (by kernel_rfl) (by decide) ?_
      refine AllReadyH.cons rfl ?_ AllReadyH.nil
      intro K8 hK8
      have z7 := k7.out.size
      refine step_append_prs (c := 1) (by rfl) (.tmp 17) (.tmp 20) (by rfl) Tryd.underlying27 (by go_simp) ow7.out (.inr (by omega)) (by go_simp) hx7.out (by omega) (by omega) ?_
      intro gg c8 w8 ow8 hb8 hg8
      have k8 := k7.out.trans hb8
      have z8 := k8.size
      have PP := Lib.hid (And.intro ow8 (And.intro (P5.out.2.1.below k8 (by omega)) (And.intro (P5.out.2.2.1.thenBelow k8 (by omega)) ((k8.cell (p := ⟨t, 0, none⟩) (by show t < t + 1; omega)).trans P5.out.2.2.2.2))))
      have x81 := (k8.cell (p := ⟨t, 1, none⟩) (by show t < t + 1; omega)).trans x51.out
      have xf8 := (k8.frozen (p := ⟨t, 1, none⟩) (by show t < t + 1; omega)).trans P5.out.2.2.2.1
      have z8' : t + 1 ≤ w8.heap.size := by omega
      clear ow8 hb8 hg8 k8 ow7 hx7 k7 P5
      refine hK8.out _ _ trivial (fun _ => ?_)
      clear hK8 K8
      try go_frame
      refine wpAnyH_take (i := 6) (v := .pointer (some ⟨t, 1, none⟩)) rfl (by kernel_rfl) (by kernel_rfl) (by kernel_rfl) (fun _ _ _ h => h) (.inl ⟨by rfl, fun W _ => by go_simp⟩) trivial ?_
      go_frame
      refine wpAnyH_ready (rs := [7]) (by kernel_rfl) (by decide) ?_
      refine AllReadyH.cons rfl ?_ AllReadyH.nil
      intro K9 hK9
      go_simp
      refine hK9.out _ _ trivial (fun _ => ?_)
      clear hK9 K9
      refine wpAnyH_done (by kernel_rfl) ?_ _
      go_wp2_with fail
      go_roundw
      case rel => exact ⟨j + 1, .slice (some ⟨gg, 0, none⟩) (j + 1) c8, appF g (fun _ => f) j, q5, by omega, congrArg (Value.int .i64) (by omega), fun i hi => by
        unfold appF
        by_cases h : i < j
        · rw [if_pos h]; exact Hg.out i h
        · rw [if_neg h]; exact hf, by omega, by simp; exact z8', (World.cell?_setCell_other w8 ⟨t, 1, none⟩ ⟨t, 0, none⟩ _ (by simp)).trans PP.out.2.2.2, World.cell?_setCell_same _ _ _ x81, (by rw [World.frozen?_setCell]; exact xf8), own_keepQ PP.out.1 (fun k h1 h2 => by rw [Below.heap_setCell _ _ _ _ (by show k ≠ t; omega)]), PP.out.2.1.below ((Below.refl (b + 1) w8).setCell (by show b + 1 ≤ t; omega) _) (by omega), PP.out.2.2.1.setNew (by show W0.heap.size ≤ t; omega) _⟩
      case measure => simp [intOf]; omega
    · intro KA hKA
      go_simp
      refine (Hce.out _ q (by omega) SD.out (OW.out.trans ODr.out)).mono ?_; rintro e w5 ⟨f, q5, he5, hf, hq5, s5, ho5⟩
      obtain ⟨V, hV⟩ : ∃ V, arrV .i16 64 f = V := ⟨_, rfl⟩
      rw [hV] at he5
      subst he5
      have z5 := ho5.size
      have HV := Lib.hid hV
      have x51 := Lib.hid (ho5.cellOf XD.out (.inr (by show b + 1 ≤ t; omega)))
      have P5 := Lib.hid (And.intro (own_keepQ OD.out fun k h1 h2 => ho5.block k h2 (.inr (by omega))) (And.intro s5 (And.intro (ODr.out.trans ho5) (And.intro ((ho5.frozenOf (p := ⟨t, 1, none⟩) (by show t < _; omega) (.inr (by show b + 1 ≤ t; omega))).trans XFD.out) (ho5.cellOf X0D.out (.inr (by show b + 1 ≤ t; omega)))))))
      clear hV s5 ho5 OD SD ODr XFD X0D
      go_wp2_with fail
      refine hKA.out _ _ trivial (fun _ => ?_)
      clear hKA KA
      refine wpAnyH_ready (rs := [1, 4]) (by kernel_rfl) (by decide) ?_
      refine AllReadyH.cons rfl ?_ (AllReadyH.cons rfl ?_ AllReadyH.nil)
      · intro KB hKB
        have x51 := x51.out
        go_simp
        have x51 := Lib.hid x51
        refine hKB.out _ _ trivial (fun _ => ?_)
        clear hKB KB
        refine wpAnyH_ready (rs := [4]) (by kernel_rfl) (by decide) ?_
        refine AllReadyH.cons rfl ?_ AllReadyH.nil
        intro K7 hK7
        refine step_lit_pr (.tmp 19) (by rfl) (by rfl) Tryd.underlying27 (by go_simp) HV.out ?_
        have hx7 := Lib.hid (lit_at w5 f)
        have k7 := (Below.refl w5.heap.size w5).alloc (Nat.le_refl _) (.cells (arrV .i16 64 f) 58)
        have ow7 := Lib.hid (P5.out.1.alloc (.cells (arrV .i16 64 f) 58))
        have k7 := Lib.hid (k7.mono (show t + 1 ≤ w5.heap.size by omega))
        clear HV
        generalize (w5.alloc (.cells (arrV .i16 64 f) 58)) = W7 at *
        refine hK7.out _ _ trivial (fun _ => ?_)
        clear hK7 K7
        try go_frame
        refine wpAnyH_ready (rs := [5]) (by kernel_rfl) (by decide) ?_
        refine AllReadyH.cons rfl ?_ AllReadyH.nil
        intro K8 hK8
        have z7 := k7.out.size
        refine step_append_prs (c := 1) (by rfl) (.tmp 17) (.tmp 20) (by rfl) Tryd.underlying27 (by go_simp) ow7.out (.inr (by omega)) (by go_simp) hx7.out (by omega) (by omega) ?_
        intro gg c8 w8 ow8 hb8 hg8
        have k8 := k7.out.trans hb8
        have z8 := k8.size
        have PP := Lib.hid (And.intro ow8 (And.intro (P5.out.2.1.below k8 (by omega)) (And.intro (P5.out.2.2.1.thenBelow k8 (by omega)) ((k8.cell (p := ⟨t, 0, none⟩) (by show t < t + 1; omega)).trans P5.out.2.2.2.2))))
        have x81 := (k8.cell (p := ⟨t, 1, none⟩) (by show t < t + 1; omega)).trans x51.out
        have xf8 := (k8.frozen (p := ⟨t, 1, none⟩) (by show t < t + 1; omega)).trans P5.out.2.2.2.1
        have z8' : t + 1 ≤ w8.heap.size := by omega
        clear ow8 hb8 hg8 k8 ow7 hx7 k7 P5
        refine hK8.out _ _ trivial (fun _ => ?_)
        clear hK8 K8
        try go_frame
        refine wpAnyH_take (i := 6) (v := .pointer (some ⟨t, 1, none⟩)) rfl (by kernel_rfl) (by kernel_rfl) (by kernel_rfl) (fun _ _ _ h => h) (.inl ⟨by rfl, fun W _ => by go_simp⟩) trivial ?_
        go_frame
        refine wpAnyH_ready (rs := [7]) (by kernel_rfl) (by decide) ?_
        refine AllReadyH.cons rfl ?_ AllReadyH.nil
        intro K9 hK9
        go_simp
        refine hK9.out _ _ trivial (fun _ => ?_)
        clear hK9 K9
        refine wpAnyH_done (by kernel_rfl) ?_ _
        go_wp2_with fail
        go_roundw
        case rel => exact ⟨j + 1, .slice (some ⟨gg, 0, none⟩) (j + 1) c8, appF g (fun _ => f) j, q5, by omega, congrArg (Value.int .i64) (by omega), fun i hi => by
          unfold appF
          by_cases h : i < j
          · rw [if_pos h]; exact Hg.out i h
          · rw [if_neg h]; exact hf, by omega, by simp; exact z8', (World.cell?_setCell_other w8 ⟨t, 1, none⟩ ⟨t, 0, none⟩ _ (by simp)).trans PP.out.2.2.2, World.cell?_setCell_same _ _ _ x81, (by rw [World.frozen?_setCell]; exact xf8), own_keepQ PP.out.1 (fun k h1 h2 => by rw [Below.heap_setCell _ _ _ _ (by show k ≠ t; omega)]), PP.out.2.1.below ((Below.refl (b + 1) w8).setCell (by show b + 1 ≤ t; omega) _) (by omega), PP.out.2.2.1.setNew (by show W0.heap.size ≤ t; omega) _⟩
        case measure => simp [intOf]; omega
      · intro K7 hK7
        refine step_lit_pr (.tmp 19) (by rfl) (by rfl) Tryd.underlying27 (by go_simp) HV.out ?_
        have hx7 := Lib.hid (lit_at w5 f)
        have k7 := (Below.refl w5.heap.size w5).alloc (Nat.le_refl _) (.cells (arrV .i16 64 f) 58)
        have ow7 := Lib.hid (P5.out.1.alloc (.cells (arrV .i16 64 f) 58))
        have k7 := Lib.hid (k7.mono (show t + 1 ≤ w5.heap.size by omega))
        clear HV
        generalize (w5.alloc (.cells (arrV .i16 64 f) 58)) = W7 at *
        refine hK7.out _ _ trivial (fun _ => ?_)
        clear hK7 K7
        try go_frame
        refine wpAnyH_ready (rs := [1]) (by kernel_rfl) (by decide) ?_
        refine AllReadyH.cons rfl ?_ AllReadyH.nil
        intro KB hKB
        have x71 := (k7.out.cell (p := ⟨t, 1, none⟩) (by show t < t + 1; omega)).trans x51.out
        go_simp
        clear x71
        refine hKB.out _ _ trivial (fun _ => ?_)
        clear hKB KB
        refine wpAnyH_ready (rs := [5]) (by kernel_rfl) (by decide) ?_
        refine AllReadyH.cons rfl ?_ AllReadyH.nil
        intro K8 hK8
        have z7 := k7.out.size
        refine step_append_prs (c := 1) (by rfl) (.tmp 17) (.tmp 20) (by rfl) Tryd.underlying27 (by go_simp) ow7.out (.inr (by omega)) (by go_simp) hx7.out (by omega) (by omega) ?_
        intro gg c8 w8 ow8 hb8 hg8
        have k8 := k7.out.trans hb8
        have z8 := k8.size
        have PP := Lib.hid (And.intro ow8 (And.intro (P5.out.2.1.below k8 (by omega)) (And.intro (P5.out.2.2.1.thenBelow k8 (by omega)) ((k8.cell (p := ⟨t, 0, none⟩) (by show t < t + 1; omega)).trans P5.out.2.2.2.2))))
        have x81 := (k8.cell (p := ⟨t, 1, none⟩) (by show t < t + 1; omega)).trans x51.out
        have xf8 := (k8.frozen (p := ⟨t, 1, none⟩) (by show t < t + 1; omega)).trans P5.out.2.2.2.1
        have z8' : t + 1 ≤ w8.heap.size := by omega
        clear ow8 hb8 hg8 k8 ow7 hx7 k7 P5
        refine hK8.out _ _ trivial (fun _ => ?_)
        clear hK8 K8
        try go_frame
        refine wpAnyH_take (i := 6) (v := .pointer (some ⟨t, 1, none⟩)) rfl (by kernel_rfl) (by kernel_rfl) (by kernel_rfl) (fun _ _ _ h => h) (.inl ⟨by rfl, fun W _ => by go_simp⟩) trivial ?_
        go_frame
        refine wpAnyH_ready (rs := [7]) (by kernel_rfl) (by decide) ?_
        refine AllReadyH.cons rfl ?_ AllReadyH.nil
        intro K9 hK9
        go_simp
        refine hK9.out _ _ trivial (fun _ => ?_)
        clear hK9 K9
        refine wpAnyH_done (by kernel_rfl) ?_ _
        go_wp2_with fail
        go_roundw
        case rel => exact ⟨j + 1, .slice (some ⟨gg, 0, none⟩) (j + 1) c8, appF g (fun _ => f) j, q5, by omega, congrArg (Value.int .i64) (by omega), fun i hi => by
          unfold appF
          by_cases h : i < j
          · rw [if_pos h]; exact Hg.out i h
          · rw [if_neg h]; exact hf, by omega, by simp; exact z8', (World.cell?_setCell_other w8 ⟨t, 1, none⟩ ⟨t, 0, none⟩ _ (by simp)).trans PP.out.2.2.2, World.cell?_setCell_same _ _ _ x81, (by rw [World.frozen?_setCell]; exact xf8), own_keepQ PP.out.1 (fun k h1 h2 => by rw [Below.heap_setCell _ _ _ _ (by show k ≠ t; omega)]), PP.out.2.1.below ((Below.refl (b + 1) w8).setCell (by show b + 1 ≤ t; omega) _) (by omega), PP.out.2.2.1.setNew (by show W0.heap.size ≤ t; omega) _⟩
        case measure => simp [intOf]; omega

set_option maxRecDepth 100000 in
set_option maxHeartbeats 2000000 in
theorem P6Sheet_any (A : Option Addr) (n cap : Nat) (bs : Nat → Int) (hn : n ≤ 1048576) (hbs : ∀ j, j < n → 0 ≤ bs j ∧ bs j ≤ 255) (w : World) (hB : BytesIn w A n bs) :
    Calls Tryd.prog 16 #[.slice A n cap] w fun e w' => ShtDr w.heap.size w' e ∧ Below w.heap.size w w' := by
  have hA := hB.lt
  have k0 := (Below.refl w.heap.size w).alloc (Nat.le_refl _) (.cells #[.int .i8 0, .slice none 0 0] 29)
  have k1 := k0.alloc (by simp) (.cells #[.slice A n cap, .int .i64 0, .int .u64 0] 96)
  have y0 : (w.alloc (.cells #[.int .i8 0, .slice none 0 0] 29)).cell? ⟨w.heap.size, 0, none⟩ = some (.int .i8 0) := by simp
  have y1 : (w.alloc (.cells #[.int .i8 0, .slice none 0 0] 29)).cell? ⟨w.heap.size, 1, none⟩ = some (.slice none 0 0) := by simp
  have f0 : (w.alloc (.cells #[.int .i8 0, .slice none 0 0] 29)).frozen? ⟨w.heap.size, 0, none⟩ = false := by simp
  have f1 : (w.alloc (.cells #[.int .i8 0, .slice none 0 0] 29)).frozen? ⟨w.heap.size, 1, none⟩ = false := by simp
  have z0 : w.heap.size < (w.alloc (.cells #[.int .i8 0, .slice none 0 0] 29)).heap.size := by simp
  have s1 := srcAt_new (w.alloc (.cells #[.int .i8 0, .slice none 0 0] 29)) A n cap
  have t1 := (Below.refl (w.alloc (.cells #[.int .i8 0, .slice none 0 0] 29)).heap.size (w.alloc (.cells #[.int .i8 0, .slice none 0 0] 29))).alloc (Nat.le_refl _) (.cells #[.slice A n cap, .int .i64 0, .int .u64 0] 96)
  have y0 := below_cellOf t1 y0 (Nat.le_refl _)
  have y1 := below_cellOf t1 y1 (Nat.le_refl _)
  have f0 := (t1.frozen (p := ⟨w.heap.size, 0, none⟩) z0).trans f0
  have f1 := (t1.frozen (p := ⟨w.heap.size, 1, none⟩) z0).trans f1
  have zz := t1.size
  have hd := l07Drawn_any (w.alloc (.cells #[.int .i8 0, .slice none 0 0] 29)).heap.size A n cap bs hn hbs _ s1 (hB.below k1 (Nat.le_refl _)) (fun h a ha => by have := hA h a ha; omega)
  have Hd := Lib.hid hd
  have Y := Lib.hid (And.intro y0 (And.intro y1 (And.intro f0 f1)))
  have K1 := Lib.hid k1
  have hz1 : (w.alloc (.cells #[.int .i8 0, .slice none 0 0] 29)).heap.size < ((w.alloc (.cells #[.int .i8 0, .slice none 0 0] 29)).alloc (.cells #[.slice A n cap, .int .i64 0, .int .u64 0] 96)).heap.size := by simp
  clear hd y0 y1 f0 f1 hA hbs hB s1 t1 k0 k1
  go_enter Tryd.func16, Tryd.ntmps16
  go_wp2_with fail
  refine (l00From_any _ _ _ _).mono ?_; rintro e w1 ⟨rfl, rfl⟩
  generalize hWA : ((w.alloc (.cells #[.int .i8 0, .slice none 0 0] 29)).alloc (.cells #[.slice A n cap, .int .i64 0, .int .u64 0] 96)) = W1 at *
  clear hWA
  generalize (w.alloc (.cells #[.int .i8 0, .slice none 0 0] 29)).heap.size = sb at *
  go_wp2_with fail
  refine Hd.out.mono ?_; rintro e w2 ⟨⟨X, m, g, A', c', rfl, hX0, hX1, hm, hmc, hg, hM⟩, ho2⟩
  have y0 := ho2.cellOf Y.out.1 (.inl (by show w.heap.size < sb; omega))
  have y1 := ho2.cellOf Y.out.2.1 (.inl (by show w.heap.size < sb; omega))
  have f0 := (ho2.frozenOf (p := ⟨w.heap.size, 0, none⟩) (by show w.heap.size < W1.heap.size; omega) (.inl (by show w.heap.size < sb; omega))).trans Y.out.2.2.1
  have f1 := (ho2.frozenOf (p := ⟨w.heap.size, 1, none⟩) (by show w.heap.size < W1.heap.size; omega) (.inl (by show w.heap.size < sb; omega))).trans Y.out.2.2.2
  have k2 := K1.out.trans ((ho2.below (Nat.le_of_lt hz1)).mono (by omega))
  have H2 := Lib.hid (And.intro hg (And.intro hM k2))
  clear hg hM k2 ho2 Hd Y K1
  go_wp2_with fail
  refine bodyPost_ret (v := .agg #[.int .i8 X, .slice A' m c']) (by simp [results, Tryd.results16, go_sem, y0, y1]) rfl ⟨⟨X, m, g, A', c', rfl, hX0, hX1, hm, hmc, H2.out.1, ?_⟩, ?_⟩
  · refine ((H2.out.2.1.keep fun k h1 h2 h3 => ?_).mono (by omega) (by simp [World.setCell]))
    rw [Below.heap_setCell _ _ _ _ (by show k ≠ w.heap.size; omega), Below.heap_setCell _ _ _ _ (by show k ≠ w.heap.size; omega)]
  · exact (H2.out.2.2.setCell (by show _ ≤ w.heap.size; omega) _).setCell (by show _ ≤ w.heap.size; omega) _
end Go.Proofs.YtkmpfbjenddhjaaDoor

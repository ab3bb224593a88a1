/-
  The light of each cell: plain sums; what the reference's functions return. Condition: at most 1048576 steps, each with a time of its own.
-/
import Derived.Test.YtnlcjbobfhmnmaaDoorMirX
import Derived.Test.YtnlcjbobfhmnmaaDoorTimX
import Derived.Test.YtnlcjbobfhmnmaaDoorArr
import Derived.Test.YtnlcjbobfhmnmaaDoorQuietTail
namespace Go.Proofs.YtnlcjbobfhmnmaaDoor
open Go.RowKit

/-- Is a cell in a mask? -/
def bitB (m : Int) (c : Nat) : Bool := m.toNat.testBit c
/-- The time of a cell, of the first k steps. -/
def addT (fs es : Nat → Int) : Nat → Nat → Int
  | 0, _ => 0
  | k + 1, c => addT fs es k c + (if bitB (fs k) c = true then tm (es k) else 0)
theorem addT_bd {fs es : Nat → Int} {n : Nat} (h : ∀ k, k < n → inB (es k) 0 36 = true) : ∀ k c, k ≤ n → 0 ≤ addT fs es k c ∧ addT fs es k c ≤ k * 5160960
  | 0, c, _ => by simp [addT]
  | k + 1, c, hk => by
    have h1 := addT_bd (fs := fs) h k c (by omega)
    have h2 := inB_true.1 (h k (by omega))
    have h3 := tm_bd (es k) h2.1 (by omega)
    unfold addT
    split <;> omega
/-- In the midst of a step: the cells ahead of c have it. -/
def mixT (fs es : Nat → Int) (k c j : Nat) : Int := if j < c then addT fs es (k + 1) j else addT fs es k j
theorem mixT_0 (fs es : Nat → Int) (k j : Nat) : addT fs es k j = mixT fs es k 0 j := by simp [mixT]
theorem mixT_64 {fs es : Nat → Int} {k j : Nat} (h : j < 64) : mixT fs es k 64 j = addT fs es (k + 1) j := by simp [mixT, h]
theorem mixT_at (fs es : Nat → Int) (k c : Nat) : mixT fs es k c c = addT fs es k c := by simp [mixT]
theorem mixT_yes {fs es : Nat → Int} {k c : Nat} (h : bitB (fs k) c = true) (j : Nat) : upd (mixT fs es k c) c (addT fs es k c + tm (es k)) j = mixT fs es k (c + 1) j := by
  unfold upd mixT
  by_cases h1 : j = c
  · subst h1
    have h2 : j < j + 1 := by omega
    simp [h2, addT, h]
  · by_cases h2 : j < c
    · have h3 : j < c + 1 := by omega
      simp [h1, h2, h3]
    · have h3 : ¬ j < c + 1 := by omega
      simp [h1, h2, h3]
theorem mixT_no {fs es : Nat → Int} {k c : Nat} (h : bitB (fs k) c = false) (j : Nat) : mixT fs es k c j = mixT fs es k (c + 1) j := by
  unfold mixT
  by_cases h1 : j = c
  · subst h1
    have h2 : j < j + 1 := by omega
    simp [h2, addT, h]
  · by_cases h2 : j < c
    · have h3 : j < c + 1 := by omega
      simp [h2, h3]
    · have h3 : ¬ j < c + 1 := by omega
      simp [h2, h3]
/-- The cells ahead of c are g's. -/
def mixG (f g : Nat → Int) (c j : Nat) : Int := if j < c then g j else f j
theorem mixG_0 (f g : Nat → Int) (j : Nat) : f j = mixG f g 0 j := by simp [mixG]
theorem mixG_at (f g : Nat → Int) (c : Nat) : mixG f g c c = f c := by simp [mixG]
theorem mixG_64 {f g : Nat → Int} {j : Nat} (h : j < 64) : mixG f g 64 j = g j := by simp [mixG, h]
theorem mixG_step (f g : Nat → Int) (c j : Nat) : upd (mixG f g c) c (g c) j = mixG f g (c + 1) j := by
  unfold upd mixG
  by_cases h1 : j = c
  · subst h1
    have h2 : j < j + 1 := by omega
    simp [h2]
  · by_cases h2 : j < c
    · have h3 : j < c + 1 := by omega
      simp [h1, h2, h3]
    · have h3 : ¬ j < c + 1 := by omega
      simp [h1, h2, h3]

theorem zeroArrI : #[.int .i64 0, .int .i64 0, .int .i64 0, .int .i64 0, .int .i64 0, .int .i64 0, .int .i64 0, .int .i64 0, .int .i64 0, .int .i64 0, .int .i64 0, .int .i64 0, .int .i64 0, .int .i64 0, .int .i64 0, .int .i64 0, .int .i64 0, .int .i64 0, .int .i64 0, .int .i64 0, .int .i64 0, .int .i64 0, .int .i64 0, .int .i64 0, .int .i64 0, .int .i64 0, .int .i64 0, .int .i64 0, .int .i64 0, .int .i64 0, .int .i64 0, .int .i64 0, .int .i64 0, .int .i64 0, .int .i64 0, .int .i64 0, .int .i64 0, .int .i64 0, .int .i64 0, .int .i64 0, .int .i64 0, .int .i64 0, .int .i64 0, .int .i64 0, .int .i64 0, .int .i64 0, .int .i64 0, .int .i64 0, .int .i64 0, .int .i64 0, .int .i64 0, .int .i64 0, .int .i64 0, .int .i64 0, .int .i64 0, .int .i64 0, .int .i64 0, .int .i64 0, .int .i64 0, .int .i64 0, .int .i64 0, .int .i64 0, .int .i64 0, .int .i64 0] = arrV .i64 64 fun _ => 0 := by kernel_rfl
theorem sizeI64 : (Tryd.prog.info? 80).map (·.size) = some 64 := by kernel_rfl
theorem HasArr.zeroI (w : World) {b : Nat} (hb : b = w.heap.size) : HasArr (w.alloc (.cells #[.int .i64 0, .int .i64 0, .int .i64 0, .int .i64 0, .int .i64 0, .int .i64 0, .int .i64 0, .int .i64 0, .int .i64 0, .int .i64 0, .int .i64 0, .int .i64 0, .int .i64 0, .int .i64 0, .int .i64 0, .int .i64 0, .int .i64 0, .int .i64 0, .int .i64 0, .int .i64 0, .int .i64 0, .int .i64 0, .int .i64 0, .int .i64 0, .int .i64 0, .int .i64 0, .int .i64 0, .int .i64 0, .int .i64 0, .int .i64 0, .int .i64 0, .int .i64 0, .int .i64 0, .int .i64 0, .int .i64 0, .int .i64 0, .int .i64 0, .int .i64 0, .int .i64 0, .int .i64 0, .int .i64 0, .int .i64 0, .int .i64 0, .int .i64 0, .int .i64 0, .int .i64 0, .int .i64 0, .int .i64 0, .int .i64 0, .int .i64 0, .int .i64 0, .int .i64 0, .int .i64 0, .int .i64 0, .int .i64 0, .int .i64 0, .int .i64 0, .int .i64 0, .int .i64 0, .int .i64 0, .int .i64 0, .int .i64 0, .int .i64 0, .int .i64 0] 80)) b 80 .i64 64 fun _ => 0 := by
  subst hb; rw [zeroArrI]; exact HasArr.new w _ _ _ _
theorem wpList_store_zI {P : Program} {ops : Array Oper} {rest : List Oper} {o : Oper} {a : Act} {w : World} {Q : Exit → Act → World → Prop} {b : Nat} {T : TypeId} {κ : IntKind} {f : Nat → Int}
    (h : HasArr w b T κ 64 f) (ty : TypeId) (x y : Operand) (hgd : o.guard = none) (ho : o.op = .store ty x y) (hx : a.eval x = .pointer (some ⟨b, 0, none⟩)) (hy : a.eval y = .agg #[.int .i64 0, .int .i64 0, .int .i64 0, .int .i64 0, .int .i64 0, .int .i64 0, .int .i64 0, .int .i64 0, .int .i64 0, .int .i64 0, .int .i64 0, .int .i64 0, .int .i64 0, .int .i64 0, .int .i64 0, .int .i64 0, .int .i64 0, .int .i64 0, .int .i64 0, .int .i64 0, .int .i64 0, .int .i64 0, .int .i64 0, .int .i64 0, .int .i64 0, .int .i64 0, .int .i64 0, .int .i64 0, .int .i64 0, .int .i64 0, .int .i64 0, .int .i64 0, .int .i64 0, .int .i64 0, .int .i64 0, .int .i64 0, .int .i64 0, .int .i64 0, .int .i64 0, .int .i64 0, .int .i64 0, .int .i64 0, .int .i64 0, .int .i64 0, .int .i64 0, .int .i64 0, .int .i64 0, .int .i64 0, .int .i64 0, .int .i64 0, .int .i64 0, .int .i64 0, .int .i64 0, .int .i64 0, .int .i64 0, .int .i64 0, .int .i64 0, .int .i64 0, .int .i64 0, .int .i64 0, .int .i64 0, .int .i64 0, .int .i64 0, .int .i64 0]) (hi : (P.info? ty).map (·.size) = some 64)
    (hK : wpList P ops Q rest (a.put o.dst undef) (w.setRow b (arrV .i64 64 fun _ => 0))) : wpList P ops Q (o :: rest) a w :=
  wpList_store_arr h ty x y hgd ho hx (hy.trans (by rw [zeroArrI])) hi hK

set_option maxRecDepth 100000 in
set_option maxHeartbeats 4000000 in
theorem l03Times_any (b n cap : Nat) (fs es : Nat → Int) (hn : n ≤ 1048576) (hs : SmallS n fs es) (hl : ∀ k, k < n → inB (es k) 0 36 = true) (w : World) (hr : StRow w b n fs es) :
    Calls Tryd.prog 53 #[.slice (some ⟨b, 0, none⟩) n cap] w fun e w' => e = .returned (.agg (arrV .i64 64 (addT fs es n))) ∧ Below w.heap.size w w' := by
  have hbd := addT_bd (fs := fs) hl
  have Hbd := Lib.hid hbd; clear hbd
  have Hs := Lib.hid hs; clear hs
  have Hl := Lib.hid hl; clear hl
  have a0 := (HasArr.zeroI w rfl).alloc (.cells #[.int .i64 0, .int .i64 0, .int .i64 0, .int .i64 0, .int .i64 0, .int .i64 0, .int .i64 0, .int .i64 0, .int .i64 0, .int .i64 0, .int .i64 0, .int .i64 0, .int .i64 0, .int .i64 0, .int .i64 0, .int .i64 0, .int .i64 0, .int .i64 0, .int .i64 0, .int .i64 0, .int .i64 0, .int .i64 0, .int .i64 0, .int .i64 0, .int .i64 0, .int .i64 0, .int .i64 0, .int .i64 0, .int .i64 0, .int .i64 0, .int .i64 0, .int .i64 0, .int .i64 0, .int .i64 0, .int .i64 0, .int .i64 0, .int .i64 0, .int .i64 0, .int .i64 0, .int .i64 0, .int .i64 0, .int .i64 0, .int .i64 0, .int .i64 0, .int .i64 0, .int .i64 0, .int .i64 0, .int .i64 0, .int .i64 0, .int .i64 0, .int .i64 0, .int .i64 0, .int .i64 0, .int .i64 0, .int .i64 0, .int .i64 0, .int .i64 0, .int .i64 0, .int .i64 0, .int .i64 0, .int .i64 0, .int .i64 0, .int .i64 0, .int .i64 0] 80)
  have a1 := HasArr.zeroI (w.alloc (.cells #[.int .i64 0, .int .i64 0, .int .i64 0, .int .i64 0, .int .i64 0, .int .i64 0, .int .i64 0, .int .i64 0, .int .i64 0, .int .i64 0, .int .i64 0, .int .i64 0, .int .i64 0, .int .i64 0, .int .i64 0, .int .i64 0, .int .i64 0, .int .i64 0, .int .i64 0, .int .i64 0, .int .i64 0, .int .i64 0, .int .i64 0, .int .i64 0, .int .i64 0, .int .i64 0, .int .i64 0, .int .i64 0, .int .i64 0, .int .i64 0, .int .i64 0, .int .i64 0, .int .i64 0, .int .i64 0, .int .i64 0, .int .i64 0, .int .i64 0, .int .i64 0, .int .i64 0, .int .i64 0, .int .i64 0, .int .i64 0, .int .i64 0, .int .i64 0, .int .i64 0, .int .i64 0, .int .i64 0, .int .i64 0, .int .i64 0, .int .i64 0, .int .i64 0, .int .i64 0, .int .i64 0, .int .i64 0, .int .i64 0, .int .i64 0, .int .i64 0, .int .i64 0, .int .i64 0, .int .i64 0, .int .i64 0, .int .i64 0, .int .i64 0, .int .i64 0] 80)) (b := w.heap.size + 1) (by simp)
  have k0 := ((Below.refl w.heap.size w).alloc (Nat.le_refl _) (.cells #[.int .i64 0, .int .i64 0, .int .i64 0, .int .i64 0, .int .i64 0, .int .i64 0, .int .i64 0, .int .i64 0, .int .i64 0, .int .i64 0, .int .i64 0, .int .i64 0, .int .i64 0, .int .i64 0, .int .i64 0, .int .i64 0, .int .i64 0, .int .i64 0, .int .i64 0, .int .i64 0, .int .i64 0, .int .i64 0, .int .i64 0, .int .i64 0, .int .i64 0, .int .i64 0, .int .i64 0, .int .i64 0, .int .i64 0, .int .i64 0, .int .i64 0, .int .i64 0, .int .i64 0, .int .i64 0, .int .i64 0, .int .i64 0, .int .i64 0, .int .i64 0, .int .i64 0, .int .i64 0, .int .i64 0, .int .i64 0, .int .i64 0, .int .i64 0, .int .i64 0, .int .i64 0, .int .i64 0, .int .i64 0, .int .i64 0, .int .i64 0, .int .i64 0, .int .i64 0, .int .i64 0, .int .i64 0, .int .i64 0, .int .i64 0, .int .i64 0, .int .i64 0, .int .i64 0, .int .i64 0, .int .i64 0, .int .i64 0, .int .i64 0, .int .i64 0] 80)).alloc (by simp) (.cells #[.int .i64 0, .int .i64 0, .int .i64 0, .int .i64 0, .int .i64 0, .int .i64 0, .int .i64 0, .int .i64 0, .int .i64 0, .int .i64 0, .int .i64 0, .int .i64 0, .int .i64 0, .int .i64 0, .int .i64 0, .int .i64 0, .int .i64 0, .int .i64 0, .int .i64 0, .int .i64 0, .int .i64 0, .int .i64 0, .int .i64 0, .int .i64 0, .int .i64 0, .int .i64 0, .int .i64 0, .int .i64 0, .int .i64 0, .int .i64 0, .int .i64 0, .int .i64 0, .int .i64 0, .int .i64 0, .int .i64 0, .int .i64 0, .int .i64 0, .int .i64 0, .int .i64 0, .int .i64 0, .int .i64 0, .int .i64 0, .int .i64 0, .int .i64 0, .int .i64 0, .int .i64 0, .int .i64 0, .int .i64 0, .int .i64 0, .int .i64 0, .int .i64 0, .int .i64 0, .int .i64 0, .int .i64 0, .int .i64 0, .int .i64 0, .int .i64 0, .int .i64 0, .int .i64 0, .int .i64 0, .int .i64 0, .int .i64 0, .int .i64 0, .int .i64 0] 80)
  have b0 := a0.rowOther (b' := w.heap.size + 1) (by omega) (arrV .i64 64 fun _ => 0)
  have b1 := (a1.setRow .i64 fun _ => 0).congr (g := addT fs es 0) (fun j _ => rfl)
  have k1 := below_setRow k0 (b := w.heap.size + 1) (by omega) (arrV .i64 64 fun _ => 0)
  have K0 := Lib.hid (And.intro b0 (And.intro b1 k1))
  clear a0 k0 b0 b1 k1
  go_enter Tryd.func53, Tryd.ntmps53
  go_wp2_with (refine wpList_store_zI a1 _ _ _ rfl rfl rfl rfl sizeI64 ?_)
  clear a1
  go_loopw [4] (fun i wr => ∃ k : Nat, k ≤ n ∧ i = .int .i64 (k : Int) ∧ HasArr wr w.heap.size 80 .i64 64 (fun _ => 0) ∧ HasArr wr (w.heap.size + 1) 80 .i64 64 (addT fs es k) ∧ Below w.heap.size w wr) (fun i _ => n - (intOf i).toNat)
  case atStart => exact ⟨0, Nat.zero_le _, rfl, K0.out⟩
  case round =>
    obtain ⟨k, hk, rfl, h0, h1, hB⟩ := hrel
    obtain ⟨wo, rfl⟩ : ∃ wo : World, wo = wr := ⟨_, rfl⟩
    clear K0
    by_cases hkn : k < n
    · have w3 : (k : Int) < n := by omega
      have H1 := Lib.hid (h1.congr (fun j _ => mixT_0 fs es k j)); clear h1
      have H0 := Lib.hid h0; clear h0
      have HB := Lib.hid hB; clear hB
      go_wp2_with fail
      go_loopw [5] (fun i wr => ∃ c : Nat, c ≤ 64 ∧ i = .int .i64 (c : Int) ∧ HasArr wr w.heap.size 80 .i64 64 (fun _ => 0) ∧ HasArr wr (w.heap.size + 1) 80 .i64 64 (mixT fs es k c) ∧ Below w.heap.size w wr) (fun i _ => 64 - (intOf i).toNat)
      case atStart => exact ⟨0, by omega, rfl, H0.out, H1.out, HB.out⟩
      case round =>
        obtain ⟨c, hc, rfl, h0, h1, hB⟩ := hrel
        clear H0 H1 HB
        by_cases hcn : c < 64
        · have w4 : (c : Int) < 64 := by omega
          have hrk := hr.below hB hr.lt
          have c0 := hrk.cell0 hkn
          have c1 := hrk.cell1 hkn
          clear hrk
          have hsm := Hs.out k hkn
          have hfm : fs k = (((fs k).toNat : Nat) : Int) := by omega
          have hml : (fs k).toNat < 18446744073709551616 := by omega
          have hdl : (fs k).toNat / 2 ^ c < 18446744073709551616 := Nat.lt_of_le_of_lt (Nat.div_le_self _ _) hml
          have Hdl := Lib.hid hdl; clear hdl
          rw [hfm] at c0
          have hY := mixT_yes (fs := fs) (es := es) (k := k) (c := c)
          have hN := mixT_no (fs := fs) (es := es) (k := k) (c := c)
          have hq : bitB (fs k) c = (fs k).toNat.testBit c := rfl
          rw [hq] at hY hN
          clear hq hfm hsm hml
          generalize (fs k).toNat = M at *
          rcases hb : M.testBit c with _ | _
          · have hc2 : M / 2 ^ c % 2 = 0 := by
              rw [Nat.testBit_eq_decide_div_mod_eq] at hb
              have := of_decide_eq_false hb; omega
            have Hc := Lib.hid hc2; clear hc2
            have K := Lib.hid (And.intro h0 (And.intro (h1.congr (fun j _ => hN hb j)) hB))
            clear hY hN h0 h1 hB hb
            go_wp2_with (first | (refine wpList_yield rfl (run_shrM (κ := .u64) (m := M) (k := c) rfl rfl rfl hcn) ?_) | (refine wpList_yield rfl (run_and1c (m := M / 2 ^ c) (c := 0) rfl rfl rfl Hdl.out Hc.out) ?_))
            go_roundw
            case rel => exact ⟨c + 1, by omega, by go_num, K.out⟩
            case measure => simp [intOf]; omega
          · have hc2 : M / 2 ^ c % 2 = 1 := by
              rw [Nat.testBit_eq_decide_div_mod_eq] at hb
              exact of_decide_eq_true hb
            have Hc := Lib.hid hc2; clear hc2
            have hbk := Hbd.out k c hk
            have hle := inB_true.1 (Hl.out k hkn)
            have htm := tm_bd (es k) hle.1 (by omega)
            have hcell := h1.cell hcn
            rw [mixT_at] at hcell
            have hst := fun (W : World) (h : HasArr W (w.heap.size + 1) 80 .i64 64 (mixT fs es k c)) => (h.set c (addT fs es k c + tm (es k))).congr (fun j _ => hY hb j)
            have htc := fun W => l01Time_any (es k) hle.1 (by omega) W
            have hfr := h1.free c
            clear hY hN hb
            have hlo : (-9223372036854775808 : Int) ≤ addT fs es k c + tm (es k) := by omega
            have hhi : addT fs es k c + tm (es k) ≤ 9223372036854775807 := by omega
            have Hst := Lib.hid hst; clear hst
            have HR0 := Lib.hid h0; clear h0
            have HR1 := Lib.hid h1; clear h1
            have HB := Lib.hid hB; clear hB
            generalize addT fs es k c = A at *
            generalize tm (es k) = V at *
            generalize es k = E at *
            have Htc := Lib.hid htc; clear htc
            go_wp2_with (first | (refine wpList_yield rfl (run_shrM (κ := .u64) (m := M) (k := c) rfl rfl rfl hcn) ?_) | (refine wpList_yield rfl (run_and1c (m := M / 2 ^ c) (c := 1) rfl rfl rfl Hdl.out Hc.out) ?_))
            refine wp_region_quiet_tail 12 (fun w' => ∃ x : WIn (Below wr.heap.size wr), w' = x.w) (by kernel_rfl) (by kernel_rfl) ⟨⟨_, below_drew1 _⟩, rfl⟩ ?_
            simp only [List.take_succ_cons, List.take_zero, List.drop_succ_cons, List.drop_zero]
            have n0 := below_nonempty wr
            have f0 := inCell hcell
            have f1 := inCell c1
            repeat (go_big_quiet_step ((go_at_call 62; exact inCall _ (Htc.out _))))
            refine wpQuiet_nil ?_
            rintro w2 ⟨⟨w3, hb2⟩, rfl⟩
            have g0 := HR0.out.below hb2 HR0.out.lt
            have g1 := HR1.out.below hb2 HR1.out.lt
            have gB := HB.out.trans (hb2.mono HB.out.size)
            have d0 := g1.cell hcn
            have e0 := g1.free c
            have K := Lib.hid (And.intro (g0.other (a := ⟨w.heap.size + 1, c, none⟩) (by simp) (.int .i64 (A + V))) (And.intro (Hst.out _ g1) (gB.setCell (p := ⟨w.heap.size + 1, c, none⟩) (by simp) (.int .i64 (A + V)))))
            clear g0 g1 gB f0 f1 n0 hcell hfr c0 c1
            go_wp2_with fail
            go_roundw
            case rel => exact ⟨c + 1, by omega, by go_num, K.out⟩
            case measure => simp [intOf]; omega
        · obtain rfl : c = 64 := by omega
          have K := Lib.hid (And.intro h0 (And.intro (h1.congr (fun j hj => mixT_64 hj)) hB))
          clear h0 h1 hB
          go_wp2_with fail
          go_roundw
          case rel => exact ⟨k + 1, by omega, by go_num, K.out⟩
          case measure => simp [intOf]; omega
    · obtain rfl : k = n := by omega
      have h2' := h0.setRow .i64 (addT fs es k)
      have hB' := below_setRow hB (b := w.heap.size) (by omega) (arrV .i64 64 (addT fs es k))
      go_wp2_with (first | (refine wpList_load_arr h1 _ _ rfl rfl rfl Tryd.underlying80 sizeI64 ?_) | (refine wpList_store_arr h0 _ _ _ rfl rfl rfl rfl sizeI64 ?_))
      refine bodyPost_ret (v := .agg (arrV .i64 64 (addT fs es k))) ?_ rfl ⟨rfl, hB'⟩
      exact results_cell_row rfl _ _ _ _ _ _ _ rfl h2' Tryd.underlying80 rfl (by rw [arrV_size]; exact sizeI64)
end Go.Proofs.YtnlcjbobfhmnmaaDoor

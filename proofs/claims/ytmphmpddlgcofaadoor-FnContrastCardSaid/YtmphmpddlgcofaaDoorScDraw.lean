/-
  Scenes and fields that the reference's source of choices draws; a list of bytes with one more ahead. Condition: at most 1048576 bytes.
-/
import Derived.Test.YtmphmpddlgcofaaDoorSrc
import Derived.Test.YtmphmpddlgcofaaDoorScn
import Derived.Test.YtmphmpddlgcofaaDoorZns
import Derived.Laws.AppendOwnNone
import Derived.OwnWalk
namespace Go.Proofs.YtmphmpddlgcofaaDoor
open Go.RowKit Go.ChangeShapes Go.WideShapes

/-! ### THE SOURCE -/
/-- The block b is a source over the bytes of A, at the place p. -/
structure Src (W : World) (b : Nat) (A : Option Addr) (n cap : Nat) (bs : Nat → Int) (p : Nat) : Prop where
  at_ : SrcAt W b A n cap p
  bytes : BytesIn W A n bs
  low : 0 < n → ∀ a, A = some a → a.block < b
  hn : n ≤ 1048576
  hbs : ∀ j, j < n → 0 ≤ bs j ∧ bs j ≤ 255
section
variable {W W' : World} {b n cap p q : Nat} {A : Option Addr} {bs : Nat → Int}
theorem Src.lt (h : Src W b A n cap bs p) : b < W.heap.size := by obtain ⟨_, _, _, _, _, h⟩ := h.at_.cells; exact h
theorem Src.keep (h : Src W b A n cap bs p) (hb : Below (b + 1) W W') : Src W' b A n cap bs p := by
  refine ⟨h.at_.below hb (Nat.lt_succ_self _), ?_, h.low, h.hn, h.hbs⟩
  rcases h.bytes with h0 | ⟨b', o, e, hlt, hc⟩
  · exact .inl h0
  · rcases Nat.eq_zero_or_pos n with h0 | h0
    · exact .inl h0
    have h1 : b' < b := h.low h0 _ e
    exact .inr ⟨b', o, e, by have := hb.size; omega, fun j hj => by rw [hb.cell (p := ⟨b', o + j, none⟩) (by show b' < b + 1; omega)]; exact hc j hj⟩
theorem Src.alloc (h : Src W b A n cap bs p) (o : Obj) : Src (W.alloc o) b A n cap bs p := h.keep ((Below.refl _ _).alloc h.lt o)
theorem Src.setNe (h : Src W b A n cap bs p) {a : Addr} (ha : b < a.block) (x : Value) : Src (W.setCell a x) b A n cap bs p := h.keep ((Below.refl _ _).setCell ha x)
theorem Src.only (h : Src W b A n cap bs p) (ho : Only b (b + 1) W W') (hs : SrcAt W' b A n cap q) : Src W' b A n cap bs q :=
  ⟨hs, h.bytes.only h.low ho (Nat.le_refl _), h.low, h.hn, h.hbs⟩
theorem gOnly (h : Only b (b + 1) W W') : W.grownBy W' (some b) := ⟨h.os, h.tape, h.output, h.size, fun i hi hne => h.block i hi (by
  have : i ≠ b := fun e => hne (by rw [e])
  omega)⟩
theorem gSet {w : World} {row : Option Nat} (h : w.grownBy W row) {a : Addr} (ha : w.heap.size ≤ a.block) (x : Value) : w.grownBy (W.setCell a x) row :=
  ⟨h.os, h.tape, h.output, by have := h.size; simpa [World.setCell] using this, fun i hi hne => by rw [Below.heap_setCell _ _ _ _ (by omega)]; exact h.block i hi hne⟩
theorem gAlloc {w : World} {row : Option Nat} (h : w.grownBy W row) (o : Obj) : w.grownBy (W.alloc o) row := h.trans (World.grownBy_alloc W o row)

def PickS (W : World) (b : Nat) (A : Option Addr) (n cap : Nat) (bs : Nat → Int) (p : Nat) (m : Int) (e : Ending) (w' : World) : Prop := ∃ (r : Int) (q : Nat), e = .returned (.int .i64 r) ∧ Picked m r ∧ q ≤ p + 2 ∧ Src w' b A n cap bs q ∧ W.grownBy w' (some b)
theorem pick_any (h : Src W b A n cap bs p) (m : Int) (hm0 : 0 ≤ m) (hm1 : m ≤ 1000000000) (hp : p ≤ 900) :
    Calls Tryd.prog 69 #[.pointer (some ⟨b, 0, none⟩), .int .i64 m] W (PickS W b A n cap bs p m) :=
  (srcPick_any b n cap p A bs m hm0 hm1 h.hn (by omega) h.hbs W h.at_ h.bytes h.low).mono fun _ _ ⟨r, q, e, hr, _, hq, hs, ho⟩ => ⟨r, q, e, hr, hq, h.only ho hs, gOnly ho⟩
end

def atV (bs : Nat → Int) (n k : Nat) (m : Int) : Int := if k < n then bs k % m else 0
theorem atV_bd {bs : Nat → Int} {n k : Nat} {m : Int} (hm : 1 ≤ m) : 0 ≤ atV bs n k m ∧ atV bs n k m < m := by
  unfold atV
  split
  · exact ⟨Int.emod_nonneg _ (by omega), Int.emod_lt_of_pos _ (by omega)⟩
  · omega
theorem atV_any (A : Option Addr) (n cap : Nat) (bs : Nat → Int) (k : Nat) (m : Int) (hk : k ≤ 10) (hm : 1 ≤ m) (hm' : m ≤ 100000) (hn : n ≤ 1048576) (hbs : ∀ j, j < n → 0 ≤ bs j ∧ bs j ≤ 255) (w : World) (hB : BytesIn w A n bs) :
    Calls Tryd.prog 40 #[.slice A n cap, .int .i64 k, .int .i64 m] w fun e w' => e = .returned (.int .i64 (atV bs n k m)) ∧ w = w' := by
  by_cases h : k < n
  · have hv : atV bs n k m = bs k % m := if_pos h
    rw [hv]
    rcases hB with h0 | ⟨b, o, rfl, hlt, hc⟩
    · omega
    have c0 := hc k h
    have hb := hbs k h
    clear hc hbs hv
    generalize bs k = B at *
    have h1 : decide ((n : Int) ≤ (k : Int)) = false := decide_eq_false (by omega)
    have h2 : decide (m < 1) = false := decide_eq_false (by omega)
    have h3 : (k : Int) < n := by omega
    have hr0 := Int.emod_nonneg B (show m ≠ 0 by omega)
    have hr1 := Int.emod_lt_of_pos B (show 0 < m by omega)
    have h4 : ¬ m = 0 := by omega
    go_enter Tryd.func40, Tryd.ntmps40
    go_wp2
    go_ret
    exact ⟨rfl, rfl⟩
  · have hv : atV bs n k m = 0 := if_neg h
    rw [hv]
    have h1 : (n : Int) ≤ (k : Int) := by omega
    go_enter Tryd.func40, Tryd.ntmps40
    go_wp2
    go_ret
    exact ⟨rfl, rfl⟩

theorem a2Long_any (A : Option Addr) (n cap : Nat) (A' : Option Addr) (m cap' : Nat) (hn : n ≤ 9223372036854775807) (hm : m ≤ 9223372036854775807) (w : World) :
    Calls Tryd.prog 24 #[.slice A n cap, .slice A' m cap'] w fun e w' => e = .returned (.bool (decide (3000 < n) || decide (3000 < m))) ∧ w = w' := by
  by_cases h : 3000 < n
  · go_enter Tryd.func24, Tryd.ntmps24
    go_wp2
    go_ret
    exact ⟨ret_bool (by simp [h] <;> omega), rfl⟩
  · have h1 : decide ((3000 : Int) < (n : Int)) = false := decide_eq_false (by omega)
    go_enter Tryd.func24, Tryd.ntmps24
    go_wp2
    go_ret
    exact ⟨ret_bool (by simp [h] <;> omega), rfl⟩

/-- A list of bytes, opened: nil or not. -/
theorem bytes_open0 {H : Type} {enc : TypeId × Value → H} {P : Program} {w : World} {t e : TypeId} {v : Value} {d : DataW H} {p : List MemPlace} {r : Reach} {b0 : Nat} (ht : P.underlying t = some (.slice e)) (he : P.underlying e = some (.int .u8)) (hc : P.cellsOf e = 1)
    (hv : Value.okWide P w r b0 t v) (h : DataW.Trod enc P w 0 (fun _ => true) true t v d p) :
    ∃ A n cap bs, v = .slice A n cap ∧ BytesIn w A n bs ∧ n ≤ maxLen ∧ (∀ j, j < n → (Lit.int .u8 (bs j)).wf = true) ∧ (A = none → cap = 0) := by
  obtain ⟨a0, len, cap, rfl⟩ := okWide_slice ht hv
  obtain ⟨fuel, hf⟩ := h
  rcases open_ints ht he hc hf with ⟨hcs, _⟩ | ⟨a, len', cap', zs, hcs, _, hl, hm, hz, _, hcell, hw⟩
  · simp only [Value.cells] at hcs
    have e1 : (Value.slice a0 len cap) = .slice none 0 0 := by simpa using hcs
    injection e1 with e1 e2 e3
    subst e1; subst e2
    exact ⟨none, 0, cap, fun _ => 0, rfl, .inl rfl, Nat.zero_le _, fun j hj => by omega, fun _ => e3⟩
  · simp only [Value.cells] at hcs
    have e1 : (Value.slice a0 len cap) = .slice (some a) len' cap' := by simpa using hcs
    injection e1 with e1 e2 e3
    subst e1; subst e2; subst e3
    simp only [if_true] at hz
    have hmx : len ≤ maxLen := Nat.le_trans hl hm
    by_cases h0 : len = 0
    · subst h0
      exact ⟨some a, 0, cap, fun _ => 0, rfl, .inl rfl, Nat.zero_le _, fun j hj => by omega, fun h => by cases h⟩
    · obtain ⟨b, off, rfl, hc'⟩ := ints_at hcell (by omega)
      have hb : b < w.heap.size := by
        rcases Nat.lt_or_ge b w.heap.size with h2 | h2
        · exact h2
        · have := hc' 0 (by omega)
          simp [World.cell?, Array.getElem?_eq_none h2] at this
      refine ⟨some ⟨b, off, none⟩, len, cap, fun j => zs.getD j 0, rfl, .inr ⟨b, off, rfl, hb, fun j hj => hc' j (by omega)⟩, hmx, fun j hj => ?_, fun h => by cases h⟩
      have hj' : j < zs.length := by omega
      simp only [List.getD_eq_getElem?_getD, List.getElem?_eq_getElem hj', Option.getD_some]
      exact hw _ (List.getElem_mem hj')

theorem HasArr.far {w w' : World} {g b : Nat} {T : TypeId} {κ : IntKind} {n : Nat} {f : Nat → Int} (h : HasArr w g T κ n f) (hg : w.grownBy w' (some b)) (hne : g ≠ b) : HasArr w' g T κ n f :=
  (hg.block g h.lt (fun e => hne (by injection e))).trans h
theorem grownBy_trans {a b c : World} {row : Option Nat} (h1 : a.grownBy b row) (h2 : b.grownBy c row) : a.grownBy c row := h1.trans h2
/-- Numbers from 0 to 60. -/
def R60 (g : Nat → Int) : Prop := ∀ j, j < 24 → 0 ≤ g j ∧ g j ≤ 60
theorem R60.scn {g : Nat → Int} (h : R60 g) : scnB g = true := scnB_iff.2 fun k hk => inB_true.2 (h k hk)
theorem R60.upd {g : Nat → Int} (h : R60 g) (k : Nat) {v : Int} (h0 : 0 ≤ v) (h1 : v ≤ 60) : R60 (upd g k v) := fun j hj => by
  by_cases e : j = k
  · subst e; rw [upd_same]; exact ⟨h0, h1⟩
  · rw [upd_other e]; exact h j hj
/-- A scene that is drawn. -/
def SceneOut (w : World) (b : Nat) (e : Ending) (w' : World) : Prop := ∃ g, e = .returned (.agg (arrV .i8 24 g)) ∧ R60 g ∧ w.grownBy w' (some b)

set_option maxRecDepth 100000 in
set_option maxHeartbeats 2000000 in
theorem l06Drawn_any {b n cap : Nat} {A : Option Addr} {bs : Nat → Int} (w : World) (hs : Src w b A n cap bs 0) :
    Calls Tryd.prog 67 #[.pointer (some ⟨b, 0, none⟩)] w (SceneOut w b) := by
  have hlt := hs.lt
  have r0 := HasArr.zeroS w 28 (b := w.heap.size) rfl
  have o1 := HasArr.zeroS (w.alloc (.cells #[.int .i8 0, .int .i8 0, .int .i8 0, .int .i8 0, .int .i8 0, .int .i8 0, .int .i8 0, .int .i8 0, .int .i8 0, .int .i8 0, .int .i8 0, .int .i8 0, .int .i8 0, .int .i8 0, .int .i8 0, .int .i8 0, .int .i8 0, .int .i8 0, .int .i8 0, .int .i8 0, .int .i8 0, .int .i8 0, .int .i8 0, .int .i8 0] 28)) 28 (b := w.heap.size + 1) (by simp)
  have g0 : w.grownBy (((w.alloc (.cells #[.int .i8 0, .int .i8 0, .int .i8 0, .int .i8 0, .int .i8 0, .int .i8 0, .int .i8 0, .int .i8 0, .int .i8 0, .int .i8 0, .int .i8 0, .int .i8 0, .int .i8 0, .int .i8 0, .int .i8 0, .int .i8 0, .int .i8 0, .int .i8 0, .int .i8 0, .int .i8 0, .int .i8 0, .int .i8 0, .int .i8 0, .int .i8 0] 28)).alloc (.cells #[.int .i8 0, .int .i8 0, .int .i8 0, .int .i8 0, .int .i8 0, .int .i8 0, .int .i8 0, .int .i8 0, .int .i8 0, .int .i8 0, .int .i8 0, .int .i8 0, .int .i8 0, .int .i8 0, .int .i8 0, .int .i8 0, .int .i8 0, .int .i8 0, .int .i8 0, .int .i8 0, .int .i8 0, .int .i8 0, .int .i8 0, .int .i8 0] 28)).setRow (w.heap.size + 1) (arrV .i8 24 fun _ => 0)) (some b) := by
    have k := below_setRow (((Below.refl w.heap.size w).alloc (Nat.le_refl _) (.cells #[.int .i8 0, .int .i8 0, .int .i8 0, .int .i8 0, .int .i8 0, .int .i8 0, .int .i8 0, .int .i8 0, .int .i8 0, .int .i8 0, .int .i8 0, .int .i8 0, .int .i8 0, .int .i8 0, .int .i8 0, .int .i8 0, .int .i8 0, .int .i8 0, .int .i8 0, .int .i8 0, .int .i8 0, .int .i8 0, .int .i8 0, .int .i8 0] 28)).alloc (by simp) (.cells #[.int .i8 0, .int .i8 0, .int .i8 0, .int .i8 0, .int .i8 0, .int .i8 0, .int .i8 0, .int .i8 0, .int .i8 0, .int .i8 0, .int .i8 0, .int .i8 0, .int .i8 0, .int .i8 0, .int .i8 0, .int .i8 0, .int .i8 0, .int .i8 0, .int .i8 0, .int .i8 0, .int .i8 0, .int .i8 0, .int .i8 0, .int .i8 0] 28)) (b := w.heap.size + 1) (by omega) (arrV .i8 24 fun _ => 0)
    exact ⟨k.os, k.tape, k.output, k.size, fun i hi _ => k.block i hi⟩
  have s0 : Src (((w.alloc (.cells #[.int .i8 0, .int .i8 0, .int .i8 0, .int .i8 0, .int .i8 0, .int .i8 0, .int .i8 0, .int .i8 0, .int .i8 0, .int .i8 0, .int .i8 0, .int .i8 0, .int .i8 0, .int .i8 0, .int .i8 0, .int .i8 0, .int .i8 0, .int .i8 0, .int .i8 0, .int .i8 0, .int .i8 0, .int .i8 0, .int .i8 0, .int .i8 0] 28)).alloc (.cells #[.int .i8 0, .int .i8 0, .int .i8 0, .int .i8 0, .int .i8 0, .int .i8 0, .int .i8 0, .int .i8 0, .int .i8 0, .int .i8 0, .int .i8 0, .int .i8 0, .int .i8 0, .int .i8 0, .int .i8 0, .int .i8 0, .int .i8 0, .int .i8 0, .int .i8 0, .int .i8 0, .int .i8 0, .int .i8 0, .int .i8 0, .int .i8 0] 28)).setRow (w.heap.size + 1) (arrV .i8 24 fun _ => 0)) b A n cap bs 0 :=
    hs.keep ((below_setRow (((Below.refl w.heap.size w).alloc (Nat.le_refl _) (.cells #[.int .i8 0, .int .i8 0, .int .i8 0, .int .i8 0, .int .i8 0, .int .i8 0, .int .i8 0, .int .i8 0, .int .i8 0, .int .i8 0, .int .i8 0, .int .i8 0, .int .i8 0, .int .i8 0, .int .i8 0, .int .i8 0, .int .i8 0, .int .i8 0, .int .i8 0, .int .i8 0, .int .i8 0, .int .i8 0, .int .i8 0, .int .i8 0] 28)).alloc (by simp) (.cells #[.int .i8 0, .int .i8 0, .int .i8 0, .int .i8 0, .int .i8 0, .int .i8 0, .int .i8 0, .int .i8 0, .int .i8 0, .int .i8 0, .int .i8 0, .int .i8 0, .int .i8 0, .int .i8 0, .int .i8 0, .int .i8 0, .int .i8 0, .int .i8 0, .int .i8 0, .int .i8 0, .int .i8 0, .int .i8 0, .int .i8 0, .int .i8 0] 28)) (b := w.heap.size + 1) (by omega) (arrV .i8 24 fun _ => 0)).mono (by omega))
  have K0 := Lib.hid (And.intro s0 (And.intro ((r0.alloc (.cells #[.int .i8 0, .int .i8 0, .int .i8 0, .int .i8 0, .int .i8 0, .int .i8 0, .int .i8 0, .int .i8 0, .int .i8 0, .int .i8 0, .int .i8 0, .int .i8 0, .int .i8 0, .int .i8 0, .int .i8 0, .int .i8 0, .int .i8 0, .int .i8 0, .int .i8 0, .int .i8 0, .int .i8 0, .int .i8 0, .int .i8 0, .int .i8 0] 28)).rowOther (b' := w.heap.size + 1) (by omega) (arrV .i8 24 fun _ => 0)) (And.intro (o1.setRow .i8 fun _ => 0) g0)))
  clear r0 g0 s0 hs
  go_enter Tryd.func67, Tryd.ntmps67
  go_wp2_with (refine wpList_store_zS o1 _ _ _ rfl rfl rfl rfl sizeScn ?_)
  clear o1
  refine (pick_any K0.out.1 40 (by omega) (by omega) (by omega)).mono ?_; rintro e w1 ⟨B, q1, rfl, hB, hq1, hs1, hg1⟩
  have bB := hB.lt (by omega)
  have K1 := Lib.hid (And.intro hs1 (And.intro (K0.out.2.1.far hg1 (by omega)) (And.intro (K0.out.2.2.1.far hg1 (by omega)) (grownBy_trans K0.out.2.2.2 hg1))))
  clear K0 hs1 hg1 hB
  go_wp2_with fail
  refine (pick_any K1.out.1 21 (by omega) (by omega) (by omega)).mono ?_; rintro e w2 ⟨D, q2, rfl, hD, hq2, hs2, hg2⟩
  have bD := hD.lt (by omega)
  have K2 := Lib.hid (And.intro hs2 (And.intro (K1.out.2.1.far hg2 (by omega)) (And.intro (K1.out.2.2.1.far hg2 (by omega)) (grownBy_trans K1.out.2.2.2 hg2))))
  clear K1 hs2 hg2 hD
  go_wp2_with fail
  go_loopw [6] (fun i wr => ∃ (k q : Nat) (g : Nat → Int), k ≤ 24 ∧ i = .int .i64 (k : Int) ∧ q ≤ 4 + 2 * k ∧ R60 g ∧ Src wr b A n cap bs q ∧ HasArr wr w.heap.size 28 .i8 24 (fun _ => 0) ∧ HasArr wr (w.heap.size + 1) 28 .i8 24 g ∧ w.grownBy wr (some b)) (fun i _ => 24 - (intOf i).toNat)
  case atStart => exact ⟨0, q2, fun _ => 0, by omega, rfl, by omega, fun j _ => ⟨by show (0 : Int) ≤ 0; omega, by show (0 : Int) ≤ 60; omega⟩, K2.out⟩
  case round =>
    obtain ⟨k, q, g, hk, rfl, hq, hR, hs, h1, h2, hG⟩ := hrel
    clear K2
    have HR := Lib.hid hR; clear hR
    by_cases hkn : k < 24
    · have w0 : (0 : Int) ≤ (k : Int) := by omega
      have wk : (k : Int) < 24 := by omega
      have hpk := pick_any hs (1 + D) (by omega) (by omega) (by omega)
      have Hpk := Lib.hid hpk; clear hpk hs
      have H1 := Lib.hid h1; have H2 := Lib.hid h2; have HG := Lib.hid hG; clear h1 h2 hG
      go_wp2_with fail
      refine Hpk.out.mono ?_; rintro e w3 ⟨r, q3, rfl, hr, hq3, hs3, hg3⟩
      have br : 0 ≤ r ∧ r ≤ 20 := by
        by_cases hD0 : 1 + D ≤ 1
        · have := hr.1 hD0; omega
        · have := hr.2 (by omega); omega
      have h2 := H2.out.far hg3 (by omega)
      have c2 := h2.cell hkn
      have f2 := h2.free k
      have K := Lib.hid (And.intro (hs3.setNe (a := ⟨w.heap.size + 1, k, none⟩) (by show b < w.heap.size + 1; omega) (.int .i8 (B + r))) (And.intro ((H1.out.far hg3 (by omega)).other (a := ⟨w.heap.size + 1, k, none⟩) (by simp) (.int .i8 (B + r))) (And.intro (h2.set k (B + r)) (gSet (grownBy_trans HG.out hg3) (a := ⟨w.heap.size + 1, k, none⟩) (by show w.heap.size ≤ w.heap.size + 1; omega) (.int .i8 (B + r))))))
      clear h2 hs3 hg3 hr H1 H2 HG Hpk
      go_wp2_with fail
      go_roundw
      case rel => exact ⟨k + 1, q3, upd g k (B + r), by omega, by go_num, by omega, HR.out.upd k (by omega) (by omega), K.out⟩
      case measure => simp [intOf]; omega
    · obtain rfl : k = 24 := by omega
      have K3 := Lib.hid (And.intro h1 (And.intro h2 hG)); clear h1 h2 hG
      have hpk := pick_any hs 5 (by omega) (by omega) (by omega)
      have Hpk := Lib.hid hpk; clear hpk hs
      go_wp2_with fail
      refine Hpk.out.mono ?_; rintro e w3 ⟨R, q3, rfl, hr, hq3, hs3, hg3⟩
      have bR := hr.lt (by omega)
      have K4 := Lib.hid (And.intro hs3 (And.intro (K3.out.1.far hg3 (by omega)) (And.intro (K3.out.2.1.far hg3 (by omega)) (grownBy_trans K3.out.2.2 hg3))))
      clear K3 hs3 hg3 hr Hpk
      go_wp2_with fail
      go_loopw [7] (fun i wr => ∃ (c : Int) (q : Nat) (g : Nat → Int), 0 ≤ c ∧ c ≤ 4 ∧ i = .int .i64 c ∧ q ≤ 74 - 4 * c ∧ R60 g ∧ Src wr b A n cap bs q ∧ HasArr wr w.heap.size 28 .i8 24 (fun _ => 0) ∧ HasArr wr (w.heap.size + 1) 28 .i8 24 g ∧ w.grownBy wr (some b)) (fun i _ => (intOf i).toNat)
      case atStart => exact ⟨R, q3, g, by omega, by omega, rfl, by omega, HR.out, K4.out⟩
      case round =>
        obtain ⟨c, q, g', hc0, hc4, rfl, hq', hR', hs, h1, h2, hG⟩ := hrel
        clear K4 HR
        have HR := Lib.hid hR'; clear hR'
        by_cases hcn : 0 < c
        · have hpk := pick_any hs 24 (by omega) (by omega) (by omega)
          have Hpk := Lib.hid hpk; clear hpk hs
          have H1 := Lib.hid h1; have H2 := Lib.hid h2; have HG := Lib.hid hG; clear h1 h2 hG
          go_wp2_with fail
          refine Hpk.out.mono ?_; rintro e w4 ⟨x, q4, rfl, hx, hq4, hs4, hg4⟩
          have bx := hx.lt (by omega)
          obtain ⟨X, rfl⟩ := Int.eq_ofNat_of_zero_le bx.1
          have hX : X < 24 := by omega
          have hpk := pick_any hs4 61 (by omega) (by omega) (by omega)
          have Hpk2 := Lib.hid hpk; clear hpk hs4 Hpk hx
          have G1 := Lib.hid (H1.out.far hg4 (by omega)); have G2 := Lib.hid (H2.out.far hg4 (by omega)); have GG := Lib.hid (grownBy_trans HG.out hg4); clear H1 H2 HG hg4
          go_wp2_with fail
          refine Hpk2.out.mono ?_; rintro e w5 ⟨r, q5, rfl, hr, hq5, hs5, hg5⟩
          have br := hr.lt (by omega)
          have h2 := G2.out.far hg5 (by omega)
          have c2 := h2.cell hX
          have f2 := h2.free X
          have K := Lib.hid (And.intro (hs5.setNe (a := ⟨w.heap.size + 1, X, none⟩) (by show b < w.heap.size + 1; omega) (.int .i8 r)) (And.intro ((G1.out.far hg5 (by omega)).other (a := ⟨w.heap.size + 1, X, none⟩) (by simp) (.int .i8 r)) (And.intro (h2.set X r) (gSet (grownBy_trans GG.out hg5) (a := ⟨w.heap.size + 1, X, none⟩) (by show w.heap.size ≤ w.heap.size + 1; omega) (.int .i8 r)))))
          clear h2 hs5 hg5 hr G1 G2 GG Hpk2
          go_wp2_with fail
          go_roundw
          case rel => exact ⟨c - 1, q5, upd g' X r, by omega, by omega, rfl, by omega, HR.out.upd X (by omega) (by omega), K.out⟩
          case measure => simp [intOf]; omega
        · have h1' := h1.setRow .i8 g'
          have hG' : w.grownBy (wr.setRow w.heap.size (arrV .i8 24 g')) (some b) := ⟨hG.os, hG.tape, hG.output, by simpa using hG.size, fun i hi hne => (setRow_other wr w.heap.size i _ (by omega)).trans (hG.block i hi hne)⟩
          go_wp2_with (first | (refine wpList_load_arr h2 _ _ rfl rfl rfl Tryd.underlying28 sizeScn ?_) | (refine wpList_store_arr h1 _ _ _ rfl rfl rfl rfl sizeScn ?_))
          refine bodyPost_ret (v := .agg (arrV .i8 24 g')) ?_ rfl ⟨g', rfl, HR.out, hG'⟩
          exact results_cell_row rfl _ _ _ _ _ _ _ rfl h1' Tryd.underlying28 rfl (by rw [arrV_size]; exact sizeScn)

set_option maxRecDepth 100000 in
set_option maxHeartbeats 1000000 in
theorem A2Scene_any {n cap : Nat} {A : Option Addr} {bs : Nat → Int} (hn : n ≤ 1048576) (hbs : ∀ j, j < n → 0 ≤ bs j ∧ bs j ≤ 255) (w : World) (hB : BytesIn w A n bs) :
    Calls Tryd.prog 25 #[.slice A n cap] w fun e w' => ∃ g, e = .returned (.agg (arrV .i8 24 g)) ∧ R60 g ∧ Below w.heap.size w w' := by
  have r0 := HasArr.zeroS w 28 (b := w.heap.size) rfl
  have k0 := (Below.refl w.heap.size w).alloc (Nat.le_refl _) (.cells #[.int .i8 0, .int .i8 0, .int .i8 0, .int .i8 0, .int .i8 0, .int .i8 0, .int .i8 0, .int .i8 0, .int .i8 0, .int .i8 0, .int .i8 0, .int .i8 0, .int .i8 0, .int .i8 0, .int .i8 0, .int .i8 0, .int .i8 0, .int .i8 0, .int .i8 0, .int .i8 0, .int .i8 0, .int .i8 0, .int .i8 0, .int .i8 0] 28)
  have hb0 := hB.below k0 (Nat.le_refl _)
  have hl0 := hB.lt
  have hz0 : (w.alloc (.cells #[.int .i8 0, .int .i8 0, .int .i8 0, .int .i8 0, .int .i8 0, .int .i8 0, .int .i8 0, .int .i8 0, .int .i8 0, .int .i8 0, .int .i8 0, .int .i8 0, .int .i8 0, .int .i8 0, .int .i8 0, .int .i8 0, .int .i8 0, .int .i8 0, .int .i8 0, .int .i8 0, .int .i8 0, .int .i8 0, .int .i8 0, .int .i8 0] 28)).heap.size = w.heap.size + 1 := by simp
  have HZ := Lib.hid hz0; clear hz0
  go_enter Tryd.func25, Tryd.ntmps25
  go_wp2_with fail
  have hz0 := HZ.out; clear HZ
  generalize w.alloc (.cells #[.int .i8 0, .int .i8 0, .int .i8 0, .int .i8 0, .int .i8 0, .int .i8 0, .int .i8 0, .int .i8 0, .int .i8 0, .int .i8 0, .int .i8 0, .int .i8 0, .int .i8 0, .int .i8 0, .int .i8 0, .int .i8 0, .int .i8 0, .int .i8 0, .int .i8 0, .int .i8 0, .int .i8 0, .int .i8 0, .int .i8 0, .int .i8 0] 28) = W at *
  refine (l00From_any _ _ _ _).mono ?_; rintro e w1 ⟨rfl, rfl⟩
  have s1 : Src (W.alloc (.cells #[.slice A n cap, .int .i64 0, .int .u64 0] 163)) W.heap.size A n cap bs 0 :=
    ⟨srcAt_new W A n cap, hb0.below ((Below.refl _ _).alloc (Nat.le_refl _) _) (Nat.le_refl _), fun h a e => by have := hl0 h a e; omega, hn, hbs⟩
  have hdr := l06Drawn_any _ s1
  have R1 := Lib.hid (And.intro (r0.alloc (.cells #[.slice A n cap, .int .i64 0, .int .u64 0] 163)) (k0.alloc k0.size (.cells #[.slice A n cap, .int .i64 0, .int .u64 0] 163)))
  have Hdr := Lib.hid hdr; clear hdr s1 hb0 hl0 r0 k0 hbs
  have HZ := Lib.hid hz0; clear hz0
  go_wp2_with fail
  refine Hdr.out.mono ?_; rintro e w2 ⟨g, rfl, hR, hg⟩
  have hz0 := HZ.out
  have r2 := R1.out.1.far hg (by omega)
  have k2 : Below w.heap.size w w2 := R1.out.2.grown hg (by have := R1.out.2.size; exact this) (fun j e => by injection e with e; omega)
  have HR := Lib.hid hR; clear hR hg Hdr R1 HZ hz0
  go_wp2_with (refine wpList_store_arr r2 _ _ _ rfl rfl rfl rfl sizeScn ?_)
  refine bodyPost_ret (v := .agg (arrV .i8 24 g)) ?_ rfl ⟨g, rfl, HR.out, below_setRow k2 (by omega) _⟩
  exact results_cell_row rfl _ _ _ _ _ _ _ rfl (r2.setRow .i8 g) Tryd.underlying28 rfl (by rw [arrV_size]; exact sizeScn)

set_option maxHeartbeats 1000000 in
theorem A2Field_any {n cap : Nat} {A : Option Addr} {bs : Nat → Int} (hn : n ≤ 1048576) (hbs : ∀ j, j < n → 0 ≤ bs j ∧ bs j ≤ 255) (w : World) (hB : BytesIn w A n bs) :
    Calls Tryd.prog 26 #[.slice A n cap] w fun e w' => ∃ M : Nat, e = .returned (.int .u32 (M : Int)) ∧ M < 16777216 ∧ Below w.heap.size w w' := by
  have hl0 := hB.lt
  have Hbs := Lib.hid hbs; clear hbs
  go_enter Tryd.func26, Tryd.ntmps26
  go_wp2_with fail
  refine (l00From_any _ _ _ _).mono ?_; rintro e w1 ⟨rfl, rfl⟩
  have k0 : Below w.heap.size w (w.alloc (.cells #[.slice A n cap, .int .i64 0, .int .u64 0] 163)) := (Below.refl _ _).alloc (Nat.le_refl _) _
  have hs := srcAt_new w A n cap
  have hB1 := hB.below k0 (Nat.le_refl _)
  go_wp2_with fail
  refine (srcPick_any _ n cap 0 A bs 16777216 (by omega) (by omega) hn (by omega) Hbs.out _ hs hB1 hB.lt).mono ?_; rintro e w2 ⟨r, q, rfl, hr, _, _, _, ho⟩
  have br := hr.lt (by omega)
  obtain ⟨M, rfl⟩ := Int.eq_ofNat_of_zero_le br.1
  have hM : M < 16777216 := by omega
  go_wp2_with fail
  go_ret
  exact ⟨M, rfl, hM, k0.trans (ho.below (by simp))⟩

theorem infoByte : (Tryd.prog.info? 5).map (fun i => (i.zero, i.size, i.bytes)) = some (some (.int .u8 0), 1, 1) := by kernel_rfl

/-- Bytes with one more ahead. -/
def ahead3 (bs : Nat → Int) : Nat → Int := fun j => if j = 0 then 3 else bs (j - 1)

set_option maxHeartbeats 1000000 in
theorem wpList_append_3 {ops : Array Oper} {rest : List Oper} {o : Oper} {a : Act} {w0 : World} {Q : Exit → Act → World → Prop} {A : Option Addr} {n cap : Nat} {bs : Nat → Int} (s x : Operand) (hgd : o.guard = none) (ho : o.op = .call { callee := .builtin .append, args := #[s, x], argTypes := #[43, 43] })
    (hs : a.eval s = .slice (some ⟨w0.heap.size, 0, none⟩) 1 1) (hx : a.eval x = .slice A n cap) (hcap : A = none → cap = 0) (hn : n ≤ 3000) (hB : BytesIn w0 A n bs)
    (h : ∀ g c w', w0.heap.size ≤ g → BytesIn w' (some ⟨g, 0, none⟩) (n + 1) (ahead3 bs) → Below w0.heap.size w0 w' → wpList Tryd.prog ops Q rest (a.put o.dst (.slice (some ⟨g, 0, none⟩) (n + 1) c)) w') :
    wpList Tryd.prog ops Q (o :: rest) a (w0.alloc (.cells #[.int .u8 3] 5)) := by
  obtain ⟨i0, hi, hz0, hz1, hz2⟩ := info_parts infoByte
  have k0 : Below w0.heap.size w0 (w0.alloc (.cells #[.int .u8 3] 5)) := (Below.refl _ _).alloc (Nat.le_refl _) _
  have hown : (w0.alloc (.cells #[.int .u8 3] 5)).ownsRow w0.heap.size 5 1 (.slice (some ⟨w0.heap.size, 0, none⟩) 1 1) 1 [.int .u8 3] :=
    ⟨rfl, .inr ⟨w0.heap.size, 1, #[.int .u8 3], rfl, Nat.le_refl _, heap_alloc_last w0 _, Nat.le_refl _, by unfold maxLen; omega, rfl, rfl⟩⟩
  have hfin : ∀ v' w' m (ys : List Value), m = n → ys = (List.range n).map (fun j => Value.int .u8 (bs j)) → w'.ownsRow w0.heap.size 5 1 v' (1 + m) ([.int .u8 3] ++ ys) → (w0.alloc (.cells #[.int .u8 3] 5)).grownBy w' (some w0.heap.size) → wpList Tryd.prog ops Q rest (a.put o.dst v') w' := by
    intro v' w' m ys hm hys hown' hg
    subst hm; subst hys
    obtain ⟨hl, h2⟩ := hown'
    rcases h2 with ⟨_, h0⟩ | ⟨g, c, cur, rfl, hb, hh, hn', hmx, hsz, ht⟩
    · omega
    · have e1 : 1 + m = m + 1 := by omega
      rw [e1]
      refine h g c w' hb (.inr ⟨g, 0, rfl, (Array.getElem?_eq_some_iff.1 hh).1, fun j hj => ?_⟩) (k0.grown hg k0.size (fun k e => by injection e with e; omega))
      rw [Nat.zero_add, cell_of_row w' g j _ _ (0, 0) hh]
      have h3 : cur.toList[j]? = ([Value.int .u8 3] ++ (List.range m).map (fun j => Value.int .u8 (bs j)))[j]? := by
        rw [← ht, List.getElem?_take, if_pos (by omega)]
      rw [← Array.getElem?_toList, h3]
      unfold ahead3
      cases j with
      | zero => rfl
      | succ j => have hj' : j < m := by omega
                  simp [hj']
  rcases hB with h0 | ⟨b, off, rfl, hlt, hc⟩
  · subst h0
    cases A with
    | none =>
      rw [hcap rfl] at hx
      refine wpList_append_own_none hgd s x 43 ho w0.heap.size 5 i0 1 Tryd.underlying43 hi _ _ _ hs hown hx ?_
      refine h w0.heap.size 1 _ (Nat.le_refl _) (.inr ⟨w0.heap.size, 0, rfl, by simp, fun j hj => ?_⟩) k0
      obtain rfl : j = 0 := by omega
      rw [Nat.zero_add, cell_of_row _ w0.heap.size 0 _ _ (0, 0) (heap_alloc_last w0 _)]
      rfl
    | some ad =>
      refine wpList_append_own _ hgd s x 43 ho w0.heap.size 5 i0 (.int .u8 0) 1 1 Tryd.underlying43 hi hz0 hz1 hz2 rfl (by decide) _ _ _ hs hown ad 0 cap [] hx rfl (fun j u hu => by simp at hu) (fun u hu => by simp at hu) (by unfold maxLen; omega) (by omega) (by simp) fun v' w' h1 h2 _ => ?_
      exact hfin v' w' 0 [] rfl rfl h1 h2
  · refine wpList_append_own _ hgd s x 43 ho w0.heap.size 5 i0 (.int .u8 0) 1 1 Tryd.underlying43 hi hz0 hz1 hz2 rfl (by decide) _ _ _ hs hown ⟨b, off, none⟩ n cap ((List.range n).map (fun j => Value.int .u8 (bs j))) hx (by simp) (fun j u hu => ?_) (fun u hu => ?_) (by unfold maxLen; omega) (by omega) (by simp) fun v' w' h1 h2 _ => ?_
    · have hj : j < n := by
        rcases Nat.lt_or_ge j n with h' | h'
        · exact h'
        · rw [List.getElem?_eq_none (by simp; omega)] at hu; cases hu
      have hu' : Value.int .u8 (bs j) = u := by simpa [hj] using hu
      rw [Addr.add_lit, ← hu']
      exact (k0.cell (p := ⟨b, off + j, none⟩) hlt).trans (hc j hj)
    · obtain ⟨j, _, rfl⟩ := List.mem_map.1 hu
      rfl
    · exact hfin v' w' n _ rfl rfl h1 h2
end Go.Proofs.YtmphmpddlgcofaaDoor

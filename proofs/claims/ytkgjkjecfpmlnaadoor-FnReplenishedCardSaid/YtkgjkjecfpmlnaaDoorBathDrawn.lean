/-
  A developer and a bath that the reference's source of choices draws: they are valid. Condition: at most 1048576 bytes.
-/
import Derived.Test.YtkgjkjecfpmlnaaDoorSrc
import Derived.Test.YtkgjkjecfpmlnaaDoorLeastP
namespace Go.Proofs.YtkgjkjecfpmlnaaDoor
open Go.RowKit

/-! ### THE SOURCE -/
/-- The block b is a source over the bytes of A, at the place p. -/
structure Src (W : World) (b : Nat) (A : Option Addr) (n cap : Nat) (bs : Nat → Int) (p : Nat) : Prop where
  at_ : SrcAt W b A n cap p
  bytes : BytesIn W A n bs
  low : 0 < n → ∀ a, A = some a → a.block < b
  hn : n ≤ 1048576
  hbs : ∀ j, j < n → 0 ≤ bs j ∧ bs j ≤ 255
section
variable {W W' : World} {b n cap p q : Nat} {A : Option Addr} {bs : Nat → Int}
theorem Src.lt (h : Src W b A n cap bs p) : b < W.heap.size := by obtain ⟨_, _, _, _, _, h⟩ := h.at_.cells; exact h
theorem Src.keep (h : Src W b A n cap bs p) (hb : Below (b + 1) W W') : Src W' b A n cap bs p := by
  refine ⟨h.at_.below hb (Nat.lt_succ_self _), ?_, h.low, h.hn, h.hbs⟩
  rcases h.bytes with h0 | ⟨b', o, e, hlt, hc⟩
  · exact .inl h0
  · rcases Nat.eq_zero_or_pos n with h0 | h0
    · exact .inl h0
    have h1 : b' < b := h.low h0 _ e
    exact .inr ⟨b', o, e, by have := hb.size; omega, fun j hj => by rw [hb.cell (p := ⟨b', o + j, none⟩) (by show b' < b + 1; omega)]; exact hc j hj⟩
theorem Src.alloc (h : Src W b A n cap bs p) (o : Obj) : Src (W.alloc o) b A n cap bs p := h.keep ((Below.refl _ _).alloc h.lt o)
theorem Src.setNe (h : Src W b A n cap bs p) {a : Addr} (ha : b < a.block) (x : Value) : Src (W.setCell a x) b A n cap bs p := h.keep ((Below.refl _ _).setCell ha x)
theorem Src.only (h : Src W b A n cap bs p) (ho : Only b (b + 1) W W') (hs : SrcAt W' b A n cap q) : Src W' b A n cap bs q :=
  ⟨hs, h.bytes.only h.low ho (Nat.le_refl _), h.low, h.hn, h.hbs⟩
theorem gOnly (h : Only b (b + 1) W W') : W.grownBy W' (some b) := ⟨h.os, h.tape, h.output, h.size, fun i hi hne => h.block i hi (by
  have : i ≠ b := fun e => hne (by rw [e])
  omega)⟩
theorem gSet {w : World} {row : Option Nat} (h : w.grownBy W row) {a : Addr} (ha : w.heap.size ≤ a.block) (x : Value) : w.grownBy (W.setCell a x) row :=
  ⟨h.os, h.tape, h.output, by have := h.size; simpa [World.setCell] using this, fun i hi hne => by rw [Below.heap_setCell _ _ _ _ (by omega)]; exact h.block i hi hne⟩
theorem gAlloc {w : World} {row : Option Nat} (h : w.grownBy W row) (o : Obj) : w.grownBy (W.alloc o) row := h.trans (World.grownBy_alloc W o row)

def PickS (W : World) (b : Nat) (A : Option Addr) (n cap : Nat) (bs : Nat → Int) (p : Nat) (m : Int) (e : Ending) (w' : World) : Prop := ∃ (r : Int) (q : Nat), e = .returned (.int .i64 r) ∧ Picked m r ∧ q ≤ p + 2 ∧ Src w' b A n cap bs q ∧ W.grownBy w' (some b)
theorem pick_any (h : Src W b A n cap bs p) (m : Int) (hm0 : 0 ≤ m) (hm1 : m ≤ 1000000000) (hp : p ≤ 900) :
    Calls Tryd.prog 36 #[.pointer (some ⟨b, 0, none⟩), .int .i64 m] W (PickS W b A n cap bs p m) :=
  (srcPick_any b n cap p A bs m hm0 (by omega) h.hn (by omega) h.hbs W h.at_ h.bytes h.low).mono fun _ _ ⟨r, q, e, hr, _, hq, hs, ho⟩ => ⟨r, q, e, hr, hq, h.only ho hs, gOnly ho⟩

set_option maxHeartbeats 1000000 in
theorem among_any (h : Src W b A n cap bs p) (g m : Nat) (xs : Nat → Int) (hm : 2 ≤ m) (hm' : m ≤ 100) (hp : p ≤ 900) (hr : W.rowIs g 2 m (fun j => .int .i64 (xs j))) (hg : g ≠ b) :
    Calls Tryd.prog 43 #[.pointer (some ⟨b, 0, none⟩), .slice (some ⟨g, 0, none⟩) m m] W fun e w' => ∃ (r q : Nat), e = .returned (.int .i64 (xs r)) ∧ r < m ∧ q ≤ p + 2 ∧ Src w' b A n cap bs q ∧ W.grownBy w' (some b) := by
  have hpk := pick_any h (m : Int) (by omega) (by omega) hp
  have hlt := hr.lt
  have Hpk := Lib.hid hpk; clear hpk h
  go_enter Tryd.func43, Tryd.ntmps43
  go_wp2_with fail
  refine Hpk.out.mono ?_; rintro e w1 ⟨r, q, rfl, hpi, hq, hs1, ho⟩
  have hrr := hpi.lt (by omega)
  obtain ⟨x, rfl⟩ := Int.eq_ofNat_of_zero_le hrr.1
  have hx : x < m := by omega
  have c1 : w1.cell? ⟨g, x, none⟩ = some (.int .i64 (xs x)) := (ho.cell_far ⟨g, x, none⟩ hlt (fun e => hg (by injection e))).trans (hr.cell hx)
  go_wp2_with fail
  go_ret
  exact ⟨x, q, rfl, hx, hq, hs1, ho⟩

set_option maxHeartbeats 1000000 in
theorem one_any (h : Src W b A n cap bs p) (hp : p ≤ 900) :
    Calls Tryd.prog 44 #[.pointer (some ⟨b, 0, none⟩), .int .i64 2] W fun e w' => ∃ (x : Bool) (q : Nat), e = .returned (.bool x) ∧ q ≤ p + 2 ∧ Src w' b A n cap bs q ∧ W.grownBy w' (some b) := by
  have hpk := pick_any h 2 (by omega) (by omega) hp
  have Hpk := Lib.hid hpk; clear hpk h
  go_enter Tryd.func44, Tryd.ntmps44
  go_wp2_with fail
  refine Hpk.out.mono ?_; rintro e w1 ⟨r, q, rfl, hpi, hq, hs1, ho⟩
  go_wp2_with fail
  go_ret
  exact ⟨_, q, rfl, hq, hs1, ho⟩
end

/-! ### BOXES -/
structure DwAt (W : World) (i : Nat) (p k b t : Int) : Prop where
  c0 : W.cell? ⟨i, 0, none⟩ = some (.int .i64 p)
  c1 : W.cell? ⟨i, 1, none⟩ = some (.int .i64 k)
  c2 : W.cell? ⟨i, 2, none⟩ = some (.int .i8 b)
  c3 : W.cell? ⟨i, 3, none⟩ = some (.int .i8 t)
  fz : ∀ o, W.frozen? ⟨i, o, none⟩ = false
section
variable {W W' : World} {i : Nat} {p k b t : Int} {row : Option Nat}
theorem DwAt.lt (h : DwAt W i p k b t) : i < W.heap.size := cell_ltB h.c0
theorem DwAt.far (h : DwAt W i p k b t) (hg : W.grownBy W' row) (hne : some i ≠ row) : DwAt W' i p k b t :=
  have e : ∀ o, W'.cell? ⟨i, o, none⟩ = W.cell? ⟨i, o, none⟩ := fun o => World.cell?_of_block (hg.block i h.lt hne)
  ⟨(e 0).trans h.c0, (e 1).trans h.c1, (e 2).trans h.c2, (e 3).trans h.c3, fun o => (World.frozen?_of_block (a := ⟨i, o, none⟩) (hg.block i h.lt hne)).trans (h.fz o)⟩
theorem DwAt.newAt (w : World) (i : Nat) (hi : i = w.heap.size) (T : TypeId) (p k b t : Int) : DwAt (w.alloc (.cells #[.int .i64 p, .int .i64 k, .int .i8 b, .int .i8 t] T)) i p k b t := by
  subst hi; exact ⟨by simp, by simp, by simp, by simp, fun o => by simp⟩
theorem DwAt.alloc (h : DwAt W i p k b t) (o : Obj) : DwAt (W.alloc o) i p k b t := h.far (World.grownBy_alloc W o none) (by simp)
theorem DwAt.set0 (h : DwAt W i p k b t) (x : Int) : DwAt (W.setCell ⟨i, 0, none⟩ (.int .i64 x)) i x k b t := ⟨sc_same h.c0, sc_other h.c1 (by simp), sc_other h.c2 (by simp), sc_other h.c3 (by simp), fun o => frz_set (h.fz o)⟩
theorem DwAt.set1 (h : DwAt W i p k b t) (x : Int) : DwAt (W.setCell ⟨i, 1, none⟩ (.int .i64 x)) i p x b t := ⟨sc_other h.c0 (by simp), sc_same h.c1, sc_other h.c2 (by simp), sc_other h.c3 (by simp), fun o => frz_set (h.fz o)⟩
theorem DwAt.set2 (h : DwAt W i p k b t) (x : Int) : DwAt (W.setCell ⟨i, 2, none⟩ (.int .i8 x)) i p k x t := ⟨sc_other h.c0 (by simp), sc_other h.c1 (by simp), sc_same h.c2, sc_other h.c3 (by simp), fun o => frz_set (h.fz o)⟩
theorem DwAt.set3 (h : DwAt W i p k b t) (x : Int) : DwAt (W.setCell ⟨i, 3, none⟩ (.int .i8 x)) i p k b x := ⟨sc_other h.c0 (by simp), sc_other h.c1 (by simp), sc_other h.c2 (by simp), sc_same h.c3, fun o => frz_set (h.fz o)⟩
theorem DwAt.setNe (h : DwAt W i p k b t) {q : Addr} (hp : q.block ≠ i) (x : Value) : DwAt (W.setCell q x) i p k b t :=
  have hn : ∀ o, q ≠ (⟨i, o, none⟩ : Addr) := fun o e => hp (by rw [e])
  ⟨(World.cell?_setCell_other W q _ x (hn 0)).trans h.c0, (World.cell?_setCell_other W q _ x (hn 1)).trans h.c1, (World.cell?_setCell_other W q _ x (hn 2)).trans h.c2, (World.cell?_setCell_other W q _ x (hn 3)).trans h.c3, fun o => frz_set (h.fz o)⟩
end
theorem DwAt.stored {W : World} {i : Nat} {p k b t : Int} (h : DwAt W i p k b t) (p' k' b' t' : Int) :
    ∃ W2, W2 = (((W.setCell ⟨i, 0, none⟩ (.int .i64 p')).setCell ⟨i, 1, none⟩ (.int .i64 k')).setCell ⟨i, 2, none⟩ (.int .i8 b')).setCell ⟨i, 3, none⟩ (.int .i8 t') ∧ DwAt W2 i p' k' b' t' ∧ (∀ (w : World) row, w.grownBy W row → w.heap.size ≤ i → w.grownBy W2 row) ∧
      (∀ (b n cap p : Nat) (A : Option Addr) (bs : Nat → Int), Src W b A n cap bs p → b < i → Src W2 b A n cap bs p) ∧ (∀ (j : Nat) (v u a : Int), BtAt W j v u a → j ≠ i → BtAt W2 j v u a) :=
  ⟨_, rfl, (((h.set0 p').set1 k').set2 b').set3 t', fun _ _ hg hi => gSet (gSet (gSet (gSet hg hi _) hi _) hi _) hi _, fun _ _ _ _ _ _ hs hi => (((hs.setNe hi _).setNe hi _).setNe hi _).setNe hi _,
    fun _ _ _ _ hB hj => (((hB.setNe (fun e => hj e.symm) _).setNe (fun e => hj e.symm) _).setNe (fun e => hj e.symm) _).setNe (fun e => hj e.symm) _⟩
theorem row_lit (w : World) (T : TypeId) (l : List Int) : (w.alloc (.cells (l.map (Value.int .i64)).toArray T)).rowIs w.heap.size T l.length (fun j => .int .i64 (l.getD j 0)) := by
  refine ⟨(l.map (Value.int .i64)).toArray, heap_alloc_new w _, by simp, fun i hi => ?_⟩
  simp [List.getD, hi]
theorem getD_mem (l : List Int) (j : Nat) (h : j < l.length) : l.getD j 0 ∈ l := by
  simp [List.getD, h]

/-- One of a list of numbers that is made on the spot. -/
def AmongL (W : World) (b : Nat) (A : Option Addr) (n cap : Nat) (bs : Nat → Int) (p : Nat) (lo hi : Int) (e : Ending) (w' : World) : Prop :=
  ∃ (x : Int) (q : Nat), e = .returned (.int .i64 x) ∧ lo ≤ x ∧ x ≤ hi ∧ q ≤ p + 2 ∧ Src w' b A n cap bs q ∧ W.grownBy w' (some b)

theorem amongL_any {W : World} {b n cap p : Nat} {A : Option Addr} {bs : Nat → Int} (h : Src W b A n cap bs p) (g : Nat) (hg : g = W.heap.size) (l : List Int) (m : Nat) (hm : l.length = m) (lo hi : Int) (h2 : 2 ≤ m) (h3 : m ≤ 100) (hall : ∀ x ∈ l, lo ≤ x ∧ x ≤ hi) (cs : Array Value) (hcs : (l.map (Value.int .i64)).toArray = cs) (hp : p ≤ 900) :
    Calls Tryd.prog 43 #[.pointer (some ⟨b, 0, none⟩), .slice (some ⟨g, 0, none⟩) m m] (W.alloc (.cells cs 2)) (AmongL W b A n cap bs p lo hi) := by
  subst hcs
  subst hm
  subst hg
  have r1 := row_lit W 2 l
  refine (among_any (h.alloc _) W.heap.size l.length (fun j => l.getD j 0) h2 h3 hp r1 (by have := h.lt; omega)).mono ?_
  rintro e w1 ⟨x, q, rfl, hx, hq, hs, ho⟩
  have := hall _ (getD_mem l x hx)
  exact ⟨_, q, rfl, this.1, this.2, hq, hs, (World.grownBy_alloc W _ (some b)).trans ho⟩

/-! ### THE NUMBERS -/
def atV (bs : Nat → Int) (n k : Nat) (m : Int) : Int := if k < n then bs k % m else 0
theorem atV_bd {bs : Nat → Int} {n k : Nat} {m : Int} (hm : 1 ≤ m) : 0 ≤ atV bs n k m ∧ atV bs n k m < m := by
  unfold atV
  split
  · exact ⟨Int.emod_nonneg _ (by omega), Int.emod_lt_of_pos _ (by omega)⟩
  · omega
theorem atV_any (A : Option Addr) (n cap : Nat) (bs : Nat → Int) (k : Nat) (m : Int) (hk : k ≤ 10) (hm : 1 ≤ m) (hm' : m ≤ 100000) (hn : n ≤ 1048576) (hbs : ∀ j, j < n → 0 ≤ bs j ∧ bs j ≤ 255) (w : World) (hB : BytesIn w A n bs) :
    Calls Tryd.prog 6 #[.slice A n cap, .int .i64 k, .int .i64 m] w fun e w' => e = .returned (.int .i64 (atV bs n k m)) ∧ w = w' := by
  by_cases h : k < n
  · have hv : atV bs n k m = bs k % m := if_pos h
    rw [hv]
    rcases hB with h0 | ⟨b, o, rfl, hlt, hc⟩
    · omega
    have c0 := hc k h
    have hb := hbs k h
    clear hc hbs hv
    generalize bs k = B at *
    have h1 : decide ((n : Int) ≤ (k : Int)) = false := decide_eq_false (by omega)
    have h2 : decide (m < 1) = false := decide_eq_false (by omega)
    have h3 : (k : Int) < n := by omega
    have hr0 := Int.emod_nonneg B (show m ≠ 0 by omega)
    have hr1 := Int.emod_lt_of_pos B (show 0 < m by omega)
    have h4 : ¬ m = 0 := by omega
    go_enter Tryd.func6, Tryd.ntmps6
    go_wp2
    go_ret
    exact ⟨rfl, rfl⟩
  · have hv : atV bs n k m = 0 := if_neg h
    rw [hv]
    have h1 : (n : Int) ≤ (k : Int) := by omega
    go_enter Tryd.func6, Tryd.ntmps6
    go_wp2
    go_ret
    exact ⟨rfl, rfl⟩

theorem a2Long_any (A : Option Addr) (n cap : Nat) (A' : Option Addr) (m cap' : Nat) (hn : n ≤ 9223372036854775807) (hm : m ≤ 9223372036854775807) (w : World) :
    Calls Tryd.prog 4 #[.slice A n cap, .slice A' m cap'] w fun e w' => e = .returned (.bool (decide (3000 < n) || decide (3000 < m))) ∧ w = w' := by
  by_cases h : 3000 < n
  · go_enter Tryd.func4, Tryd.ntmps4
    go_wp2
    go_ret
    exact ⟨ret_bool (by simp [h] <;> omega), rfl⟩
  · have h1 : decide ((3000 : Int) < (n : Int)) = false := decide_eq_false (by omega)
    go_enter Tryd.func4, Tryd.ntmps4
    go_wp2
    go_ret
    exact ⟨ret_bool (by simp [h] <;> omega), rfl⟩

/-! ### THE DEVELOPER -/
set_option maxRecDepth 100000 in
set_option maxHeartbeats 4000000 in
theorem l04DeveloperDrawn_any {b n cap q0 : Nat} {A : Option Addr} {bs : Nat → Int} (w : World) (hs : Src w b A n cap bs q0) (hq0 : q0 ≤ 100) :
    Calls Tryd.prog 42 #[.pointer (some ⟨b, 0, none⟩)] w fun e w' => ∃ (p k c t : Int) (q : Nat), e = .returned (devV p k c t) ∧ DOk p k c t ∧ p ≤ 5000 ∧ k ≤ 500 ∧ q ≤ q0 + 8 ∧ Src w' b A n cap bs q ∧ w.grownBy w' (some b) := by
  have hlt := hs.lt
  have hne0 : some w.heap.size ≠ some b := fun e => by injection e with e; omega
  have R0 := DwAt.newAt w w.heap.size rfl 26 0 0 0 0
  have s0 := hs.alloc (.cells #[.int .i64 0, .int .i64 0, .int .i8 0, .int .i8 0] 26)
  have g0 := World.grownBy_alloc w (.cells #[.int .i64 0, .int .i64 0, .int .i8 0, .int .i8 0] 26) (some b)
  have Ham := Lib.hid (fun (W : World) (p g : Nat) (hg : g = W.heap.size) (hp : p ≤ 900) (hs : Src W b A n cap bs p) => amongL_any hs g hg [100, 1000, 3000, 5000] 4 rfl 100 5000 (by omega) (by omega) (by decide) #[.int .i64 100, .int .i64 1000, .int .i64 3000, .int .i64 5000] rfl hp)
  have Ham2 := Lib.hid (fun (W : World) (p g : Nat) (hg : g = W.heap.size) (hp : p ≤ 900) (hs : Src W b A n cap bs p) => amongL_any hs g hg [1, 20, 100, 500] 4 rfl 1 500 (by omega) (by omega) (by decide) #[.int .i64 1, .int .i64 20, .int .i64 100, .int .i64 500] rfl hp)
  have Ham3 := Lib.hid (fun (W : World) (p g : Nat) (hg : g = W.heap.size) (hp : p ≤ 900) (hs : Src W b A n cap bs p) => amongL_any hs g hg [18, 20, 24] 3 rfl 18 24 (by omega) (by omega) (by decide) #[.int .i64 18, .int .i64 20, .int .i64 24] rfl hp)
  clear hs
  go_enter Tryd.func42, Tryd.ntmps42
  go_wp2_with fail
  refine (Ham.out _ _ _ (by simp) (by omega) s0).mono ?_; rintro e w1 ⟨p, q1, rfl, hp0, hp1, hq1, s1, o1⟩
  have g1 := g0.trans o1
  have R1 := R0.far o1 hne0
  clear o1 R0 g0 s0
  go_wp2_with fail
  refine (Ham2.out _ _ _ (by simp) (by omega) s1).mono ?_; rintro e w2 ⟨k, q2, rfl, hk0, hk1, hq2, s2, o2⟩
  have g2 := g1.trans o2
  have R2 := R1.far o2 hne0
  clear o2 R1 g1 s1
  have z2 := s2.lt
  have y2 := g2.size
  have y2' := R2.lt
  have hne2 : some w2.heap.size ≠ some b := fun e => by injection e with e; omega
  have B3 := DwAt.newAt w2 w2.heap.size rfl 26 p k 0 0
  have s3 := s2.alloc (.cells #[.int .i64 p, .int .i64 k, .int .i8 0, .int .i8 0] 26)
  have g3 := gAlloc g2 (.cells #[.int .i64 p, .int .i64 k, .int .i8 0, .int .i8 0] 26)
  have R3 := R2.alloc (.cells #[.int .i64 p, .int .i64 k, .int .i8 0, .int .i8 0] 26)
  clear R2 g2 s2
  go_wp2_with fail
  refine (Ham3.out _ _ _ (by simp) (by omega) s3).mono ?_; rintro e w4 ⟨c, q4, rfl, hc0, hc1, hq4, s4, o4⟩
  have g4 := g3.trans o4
  have R4 := R3.far o4 hne0
  have B4 := B3.far o4 hne2
  clear o4 R3 B3 g3 s3 Ham Ham2 Ham3
  have i1 : IntKind.i8.wrap c = c := IntWalk.i8_in _ (by omega)
  have s4' := s4.setNe (a := ⟨w2.heap.size, 2, none⟩) z2 (.int .i8 c)
  have R4' := R4.setNe (q := ⟨w2.heap.size, 2, none⟩) (by show w2.heap.size ≠ w.heap.size; omega) (.int .i8 c)
  have B4' := B4.set2 c
  have g4' := gSet g4 (a := ⟨w2.heap.size, 2, none⟩) y2 (.int .i8 c)
  have hpk := pick_any s4' 4 (by omega) (by omega) (by omega)
  have Hpk := Lib.hid hpk; clear hpk
  have hbl := B4.lt
  obtain ⟨d0, d1, d2, d3, dz⟩ := B4
  go_wp2_with fail
  refine Hpk.out.mono ?_; rintro e w5 ⟨t, q5, rfl, ht, hq5, s5, o5⟩
  have ht := ht.lt (by omega)
  have g5 := g4'.trans o5
  have R5 := R4'.far o5 hne0
  have B5 := B4'.far o5 hne2
  clear o5 R4' B4' g4' s4' Hpk d0 d1 d2 d3 dz R4 g4 s4 i1
  have i2 : IntKind.i8.wrap (1 + t) = 1 + t := IntWalk.i8_in _ (by omega)
  have hbl5 := B5.lt
  have hrl5 := R5.lt
  have s6 := s5.setNe (a := ⟨w2.heap.size, 3, none⟩) z2 (.int .i8 (1 + t))
  have R6 := R5.setNe (q := ⟨w2.heap.size, 3, none⟩) (by show w2.heap.size ≠ w.heap.size; omega) (.int .i8 (1 + t))
  have B6 := B5.set3 (1 + t)
  have g6 := gSet g5 (a := ⟨w2.heap.size, 3, none⟩) y2 (.int .i8 (1 + t))
  obtain ⟨d0, d1, d2, d3, dz⟩ := B5
  obtain ⟨r0, r1, r2, r3, rz⟩ := R5
  go_wp2_with fail
  obtain ⟨W2, e2, D2, kg, ks, _⟩ := R6.stored p k c (1 + t)
  try rw [← e2]
  clear e2
  have g7 := kg _ _ g6 (Nat.le_refl _)
  have s7 := ks _ _ _ _ _ _ s6 hlt
  clear d0 d1 d2 d3 dz r0 r1 r2 r3 rz kg ks
  obtain ⟨c0, c1, c2, c3, _⟩ := D2
  exact bodyPost_ret (v := devV p k c (1 + t)) (by simp [results, Tryd.results42, go_sem, c0, c1, c2, c3]) rfl ⟨p, k, c, 1 + t, q5, rfl, ⟨by omega, by omega, by omega, by omega, by omega, by omega, by omega, by omega⟩, hp1, hk1, by omega, s7, g7⟩

/-! ### THE BATH -/
set_option maxRecDepth 100000 in
set_option maxHeartbeats 4000000 in
theorem l04Drawn_any {b n cap q0 : Nat} {A : Option Addr} {bs : Nat → Int} (w : World) (hs : Src w b A n cap bs q0) (hq0 : q0 ≤ 50) :
    Calls Tryd.prog 23 #[.pointer (some ⟨b, 0, none⟩)] w fun e w' => ∃ (p k c t v u a : Int), e = .returned (.tuple #[devV p k c t, batV v u a]) ∧ BOk p k c t v u a ∧ p ≤ 5000 ∧ k ≤ 500 ∧ v ≤ 2000 ∧ w.grownBy w' (some b) := by
  have hlt := hs.lt
  have hne0 : some w.heap.size ≠ some b := fun e => by injection e with e; omega
  have hne1 : some (w.heap.size + 1) ≠ some b := fun e => by injection e with e; omega
  have R0 := (DwAt.newAt w w.heap.size rfl 26 0 0 0 0).alloc (.cells #[.int .i64 0, .int .i64 0, .int .i64 0] 28)
  have Q0 := BtAt.newAt (w.alloc (.cells #[.int .i64 0, .int .i64 0, .int .i8 0, .int .i8 0] 26)) (w.heap.size + 1) (by simp) 28 0 0 0
  have s0 := (hs.alloc (.cells #[.int .i64 0, .int .i64 0, .int .i8 0, .int .i8 0] 26)).alloc (.cells #[.int .i64 0, .int .i64 0, .int .i64 0] 28)
  have g0 := gAlloc (World.grownBy_alloc w (.cells #[.int .i64 0, .int .i64 0, .int .i8 0, .int .i8 0] 26) (some b)) (.cells #[.int .i64 0, .int .i64 0, .int .i64 0] 28)
  have hdd := l04DeveloperDrawn_any _ s0 (by omega)
  have Hdd := Lib.hid hdd; clear hdd
  have Ham := Lib.hid (fun (W : World) (p g : Nat) (hg : g = W.heap.size) (hp : p ≤ 900) (hs : Src W b A n cap bs p) => amongL_any hs g hg [1, 100, 500, 1000, 2000] 5 rfl 1 2000 (by omega) (by omega) (by decide) #[.int .i64 1, .int .i64 100, .int .i64 500, .int .i64 1000, .int .i64 2000] rfl hp)
  clear hs s0
  go_enter Tryd.func23, Tryd.ntmps23
  go_wp2_with fail
  refine Hdd.out.mono ?_; rintro e w1 ⟨p, k, c, t, q1, rfl, hD, hp1, hk1, hq1, s1, o1⟩
  have g1 := g0.trans o1
  have R1 := R0.far o1 hne0
  have Q1 := Q0.far o1 hne1
  clear o1 R0 Q0 g0 Hdd
  have z1 := s1.lt
  have y1 := g1.size
  have y1' := Q1.lt
  have hneD : some w1.heap.size ≠ some b := fun e => by injection e with e; omega
  have D1 := DwAt.newAt w1 w1.heap.size rfl 26 p k c t
  have s1' := s1.alloc (.cells #[.int .i64 p, .int .i64 k, .int .i8 c, .int .i8 t] 26)
  have g1' := gAlloc g1 (.cells #[.int .i64 p, .int .i64 k, .int .i8 c, .int .i8 t] 26)
  have R1' := R1.alloc (.cells #[.int .i64 p, .int .i64 k, .int .i8 c, .int .i8 t] 26)
  have Q1' := Q1.alloc (.cells #[.int .i64 p, .int .i64 k, .int .i8 c, .int .i8 t] 26)
  clear R1 Q1 g1 s1
  go_wp2_with fail
  refine (Ham.out _ _ _ (by simp) (by omega) s1').mono ?_; rintro e w2 ⟨v, q2, rfl, hv0, hv1, hq2, s2, o2⟩
  have g2 := g1'.trans o2
  have R2 := R1'.far o2 hne0
  have Q2 := Q1'.far o2 hne1
  have D2 := D1.far o2 hneD
  clear o2 R1' Q1' g1' s1' D1 Ham
  have z2 := s2.lt
  have y2 := g2.size
  have y2' := D2.lt
  have hneB : some w2.heap.size ≠ some b := fun e => by injection e with e; omega
  have B2 := BtAt.newAt w2 w2.heap.size rfl 28 v 0 0
  have s3 := s2.alloc (.cells #[.int .i64 v, .int .i64 0, .int .i64 0] 28)
  have g3 := gAlloc g2 (.cells #[.int .i64 v, .int .i64 0, .int .i64 0] 28)
  have R3 := R2.alloc (.cells #[.int .i64 v, .int .i64 0, .int .i64 0] 28)
  have Q3 := Q2.alloc (.cells #[.int .i64 v, .int .i64 0, .int .i64 0] 28)
  have D3 := D2.alloc (.cells #[.int .i64 v, .int .i64 0, .int .i64 0] 28)
  clear R2 Q2 g2 s2
  have hk0 := hD.k0
  have hvp := prodB (A := 2000) (B := 5000) (by omega : 0 ≤ v) hv1 (by have := hD.p0; omega : 0 ≤ p) hp1
  generalize hX : v * p = X at hvp
  have hx0 := hvp.1
  have hx1 : X ≤ 10000000 := hvp.2
  clear hvp
  have HD := Lib.hid hD; clear hD
  have hpk := pick_any s3 (X / 1000 + 1) (by omega) (by omega) (by omega)
  have Hpk := Lib.hid hpk; clear hpk
  obtain ⟨d0, d1, d2, d3, dz⟩ := D2
  have dd := D3.c0
  have dk := D3.c1
  go_wp2_with fail
  refine Hpk.out.mono ?_; rintro e w4 ⟨u, q4, rfl, hu, hq4, s4, o4⟩
  have hub : 0 ≤ u ∧ u ≤ X / 1000 := by
    by_cases h : X / 1000 + 1 ≤ 1
    · have := hu.1 h; omega
    · have := hu.2 (by omega); omega
  have g4 := g3.trans o4
  have R4 := R3.far o4 hne0
  have Q4 := Q3.far o4 hne1
  have D4 := D3.far o4 hneD
  have B4 := B2.far o4 hneB
  clear o4 R3 Q3 D3 B2 g3 s3 Hpk hu d0 d1 d2 d3 dz dd dk
  have s5 := s4.setNe (a := ⟨w2.heap.size, 1, none⟩) z2 (.int .i64 u)
  have g5 := gSet g4 (a := ⟨w2.heap.size, 1, none⟩) y2 (.int .i64 u)
  have R5 := R4.setNe (q := ⟨w2.heap.size, 1, none⟩) (by show w2.heap.size ≠ w.heap.size; omega) (.int .i64 u)
  have Q5 := Q4.setNe (p := ⟨w2.heap.size, 1, none⟩) (by show w2.heap.size ≠ w.heap.size + 1; omega) (.int .i64 u)
  have D5 := D4.setNe (q := ⟨w2.heap.size, 1, none⟩) (by show w2.heap.size ≠ w1.heap.size; omega) (.int .i64 u)
  have B5 := B4.set1 u
  have hone := one_any s5 (by omega)
  have Hone := Lib.hid hone; clear hone
  obtain ⟨b0, b1, b2, f0, f1, f2⟩ := B4
  have hbl4 := cell_ltB b0
  go_wp2_with fail
  refine Hone.out.mono ?_; rintro e w6 ⟨x1, q6, rfl, hq6, s6, o6⟩
  have g6 := g5.trans o6
  have R6 := R5.far o6 hne0
  have Q6 := Q5.far o6 hne1
  have D6 := D5.far o6 hneD
  have B6 := B5.far o6 hneB
  clear o6 R5 Q5 D5 B5 g5 s5 Hone b0 b1 b2 f0 f1 f2 R4 Q4 D4 g4 s4 hbl4
  have hbl6 := B6.lt
  have hdl6 := D6.lt
  rcases x1 with _ | _
  · obtain ⟨U, hU⟩ : ∃ U, U = u := ⟨u, rfl⟩
    rw [← hU] at B6
    have s7 := s6
    have g7 := g6
    have R7 := R6
    have Q7 := Q6
    have D7 := D6
    have B7 := B6
    have hUb : 0 ≤ U ∧ U ≤ X / 1000 := by omega
    clear R6 Q6 D6 B6 g6 s6 hU
    have hpk := pick_any s7 (k + 1) (by omega) (by omega) (by omega)
    have Hpk := Lib.hid hpk; clear hpk
    have dk := D7.c1
    go_wp2_with fail
    refine Hpk.out.mono ?_; rintro e w8 ⟨a, q8, rfl, ha, hq8, s8, o8⟩
    have hab : 0 ≤ a ∧ a ≤ k := by
      by_cases h : k + 1 ≤ 1
      · have := ha.1 h; omega
      · have := ha.2 (by omega); omega
    have g8 := g7.trans o8
    have R8 := R7.far o8 hne0
    have Q8 := Q7.far o8 hne1
    have D8 := D7.far o8 hneD
    have B8 := B7.far o8 hneB
    clear o8 R7 Q7 D7 B7 g7 s7 Hpk ha dk
    have s9 := s8.setNe (a := ⟨w2.heap.size, 2, none⟩) z2 (.int .i64 a)
    have g9 := gSet g8 (a := ⟨w2.heap.size, 2, none⟩) y2 (.int .i64 a)
    have R9 := R8.setNe (q := ⟨w2.heap.size, 2, none⟩) (by show w2.heap.size ≠ w.heap.size; omega) (.int .i64 a)
    have Q9 := Q8.setNe (p := ⟨w2.heap.size, 2, none⟩) (by show w2.heap.size ≠ w.heap.size + 1; omega) (.int .i64 a)
    have D9 := D8.setNe (q := ⟨w2.heap.size, 2, none⟩) (by show w2.heap.size ≠ w1.heap.size; omega) (.int .i64 a)
    have B9 := B8.set2 a
    have hone := one_any s9 (by omega)
    have Hone := Lib.hid hone; clear hone
    obtain ⟨b0, b1, b2, f0, f1, f2⟩ := B8
    have hbl8 := cell_ltB b0
    go_wp2_with fail
    refine Hone.out.mono ?_; rintro e w10 ⟨x2, q10, rfl, hq10, s10, o10⟩
    have g10 := g9.trans o10
    have R10 := R9.far o10 hne0
    have Q10 := Q9.far o10 hne1
    have D10 := D9.far o10 hneD
    have B10 := B9.far o10 hneB
    clear o10 R9 Q9 D9 B9 g9 s9 Hone b0 b1 b2 f0 f1 f2 R8 Q8 D8 g8 s8 hbl8
    rcases x2 with _ | _
    · obtain ⟨AA, hAA⟩ : ∃ AA, AA = a := ⟨a, rfl⟩
      rw [← hAA] at B10
      have hBOK : BOk p k c t v U AA := { HD.out with v0 := by omega, v1 := by omega, u0 := by omega, u1 := by omega, a0 := by omega, a1 := by omega, room := by have := hX; omega }
      clear hAA
      have R11 := R10
      have Q11 := Q10
      have D11 := D10
      have B11 := B10
      have g11 := g10
      clear R10 Q10 D10 B10 g10
      obtain ⟨d0, d1, d2, d3, dz⟩ := D11
      obtain ⟨b0, b1, b2, f0, f1, f2⟩ := B11
      have hbl11 := cell_ltB b0
      have hdl11 := cell_ltB d0
      have R12 := R11
      have Q12 := Q11
      obtain ⟨r0, r1, r2, r3, rz⟩ := R12
      have hrl := cell_ltB r0
      obtain ⟨e0, e1, e2, h0, h1, h2⟩ := Q12
      have hql := cell_ltB e0
      go_wp2_with fail
      go_region
      all_goals
        go_wp2
        clear r0 r1 r2 r3 rz e0 e1 e2 h0 h1 h2
        first
        | (obtain ⟨W2, e2, D2, kg, ks, kb⟩ := R11.stored p k c t
           rw [← e2]
           have Q2 := kb _ _ _ _ Q11 (by omega)
           have g12 := kg _ _ g11 (Nat.le_refl _)
           clear e2 kg ks kb
           obtain ⟨W3, e3, Q3, _⟩ := Q2.stored (Below.refl 0 W2) (Nat.zero_le _) v U AA
           rw [← e3]
           have D3 : DwAt W3 w.heap.size p k c t := by rw [e3]; exact ((D2.setNe (by show w.heap.size + 1 ≠ w.heap.size; omega) _).setNe (by show w.heap.size + 1 ≠ w.heap.size; omega) _).setNe (by show w.heap.size + 1 ≠ w.heap.size; omega) _
           have g13 : w.grownBy W3 (some b) := by rw [e3]; exact gSet (gSet (gSet g12 (by show w.heap.size ≤ w.heap.size + 1; omega) _) (by show w.heap.size ≤ w.heap.size + 1; omega) _) (by show w.heap.size ≤ w.heap.size + 1; omega) _
           clear e3
           obtain ⟨c0, c1, c2, c3, _⟩ := D3.far (grown_of_below (Below.refl W3.heap.size W3).drew none) (by simp)
           obtain ⟨q0, q1, q2, _, _, _⟩ := Q3.below (Below.refl W3.heap.size W3).drew (Nat.le_refl _)
           have g13 := g13.trans (grown_of_below (Below.refl W3.heap.size W3).drew (some b))
           exact bodyPost_ret (v := .tuple #[devV p k c t, batV v U AA]) (by simp [results, Tryd.results23, go_sem, c0, c1, c2, c3, q0, q1, q2]) rfl ⟨p, k, c, t, v, U, AA, rfl, hBOK, hp1, hk1, hv1, g13⟩)
        | (obtain ⟨W3, e3, Q3, _⟩ := Q11.stored (Below.refl 0 _) (Nat.zero_le _) v U AA
           rw [← e3]
           have R13 : DwAt W3 w.heap.size 0 0 0 0 := by rw [e3]; exact ((R11.setNe (by show w.heap.size + 1 ≠ w.heap.size; omega) _).setNe (by show w.heap.size + 1 ≠ w.heap.size; omega) _).setNe (by show w.heap.size + 1 ≠ w.heap.size; omega) _
           have g12 : w.grownBy W3 (some b) := by rw [e3]; exact gSet (gSet (gSet g11 (by show w.heap.size ≤ w.heap.size + 1; omega) _) (by show w.heap.size ≤ w.heap.size + 1; omega) _) (by show w.heap.size ≤ w.heap.size + 1; omega) _
           clear e3
           obtain ⟨W2, e2, D2, kg, ks, kb⟩ := R13.stored p k c t
           rw [← e2]
           have Q2 := kb _ _ _ _ Q3 (by omega)
           have g13 := kg _ _ g12 (Nat.le_refl _)
           clear e2 kg ks kb
           obtain ⟨c0, c1, c2, c3, _⟩ := D2.far (grown_of_below (Below.refl W2.heap.size W2).drew none) (by simp)
           obtain ⟨q0, q1, q2, _, _, _⟩ := Q2.below (Below.refl W2.heap.size W2).drew (Nat.le_refl _)
           have g13 := g13.trans (grown_of_below (Below.refl W2.heap.size W2).drew (some b))
           exact bodyPost_ret (v := .tuple #[devV p k c t, batV v U AA]) (by simp [results, Tryd.results23, go_sem, c0, c1, c2, c3, q0, q1, q2]) rfl ⟨p, k, c, t, v, U, AA, rfl, hBOK, hp1, hk1, hv1, g13⟩)
        | fail
    · have B10' := B10
      obtain ⟨b0, b1, b2, f0, f1, f2⟩ := B10'
      have hbl10 := cell_ltB b0
      have hdl10 := D10.lt
      have D10' := D10
      obtain ⟨d0, d1, d2, d3, dz⟩ := D10'
      obtain ⟨AA, hAA⟩ : ∃ AA, AA = a / 4 := ⟨a / 4, rfl⟩
      have hBOK : BOk p k c t v U AA := { HD.out with v0 := by omega, v1 := by omega, u0 := by omega, u1 := by omega, a0 := by omega, a1 := by omega, room := by have := hX; omega }
      have B11 := B10.set2 AA
      have R11 := R10.setNe (q := ⟨w2.heap.size, 2, none⟩) (by show w2.heap.size ≠ w.heap.size; omega) (.int .i64 AA)
      have Q11 := Q10.setNe (p := ⟨w2.heap.size, 2, none⟩) (by show w2.heap.size ≠ w.heap.size + 1; omega) (.int .i64 AA)
      have D11 := D10.setNe (q := ⟨w2.heap.size, 2, none⟩) (by show w2.heap.size ≠ w1.heap.size; omega) (.int .i64 AA)
      have g11 := gSet g10 (a := ⟨w2.heap.size, 2, none⟩) y2 (.int .i64 AA)
      go_wp2_with fail
      clear b0 b1 b2 f0 f1 f2 d0 d1 d2 d3 dz
      try rw [← hAA]
      clear hAA
      generalize w10.setCell ⟨w2.heap.size, 2, none⟩ (.int .i64 AA) = WB at *
      obtain ⟨d0, d1, d2, d3, dz⟩ := D11
      obtain ⟨b0, b1, b2, f0, f1, f2⟩ := B11
      have hbl11 := cell_ltB b0
      have hdl11 := cell_ltB d0
      have R12 := R11
      have Q12 := Q11
      obtain ⟨r0, r1, r2, r3, rz⟩ := R12
      have hrl := cell_ltB r0
      obtain ⟨e0, e1, e2, h0, h1, h2⟩ := Q12
      have hql := cell_ltB e0
      go_wp2_with fail
      go_region
      all_goals
        go_wp2
        clear r0 r1 r2 r3 rz e0 e1 e2 h0 h1 h2
        first
        | (obtain ⟨W2, e2, D2, kg, ks, kb⟩ := R11.stored p k c t
           rw [← e2]
           have Q2 := kb _ _ _ _ Q11 (by omega)
           have g12 := kg _ _ g11 (Nat.le_refl _)
           clear e2 kg ks kb
           obtain ⟨W3, e3, Q3, _⟩ := Q2.stored (Below.refl 0 W2) (Nat.zero_le _) v U AA
           rw [← e3]
           have D3 : DwAt W3 w.heap.size p k c t := by rw [e3]; exact ((D2.setNe (by show w.heap.size + 1 ≠ w.heap.size; omega) _).setNe (by show w.heap.size + 1 ≠ w.heap.size; omega) _).setNe (by show w.heap.size + 1 ≠ w.heap.size; omega) _
           have g13 : w.grownBy W3 (some b) := by rw [e3]; exact gSet (gSet (gSet g12 (by show w.heap.size ≤ w.heap.size + 1; omega) _) (by show w.heap.size ≤ w.heap.size + 1; omega) _) (by show w.heap.size ≤ w.heap.size + 1; omega) _
           clear e3
           obtain ⟨c0, c1, c2, c3, _⟩ := D3.far (grown_of_below (Below.refl W3.heap.size W3).drew none) (by simp)
           obtain ⟨q0, q1, q2, _, _, _⟩ := Q3.below (Below.refl W3.heap.size W3).drew (Nat.le_refl _)
           have g13 := g13.trans (grown_of_below (Below.refl W3.heap.size W3).drew (some b))
           exact bodyPost_ret (v := .tuple #[devV p k c t, batV v U AA]) (by simp [results, Tryd.results23, go_sem, c0, c1, c2, c3, q0, q1, q2]) rfl ⟨p, k, c, t, v, U, AA, rfl, hBOK, hp1, hk1, hv1, g13⟩)
        | (obtain ⟨W3, e3, Q3, _⟩ := Q11.stored (Below.refl 0 _) (Nat.zero_le _) v U AA
           rw [← e3]
           have R13 : DwAt W3 w.heap.size 0 0 0 0 := by rw [e3]; exact ((R11.setNe (by show w.heap.size + 1 ≠ w.heap.size; omega) _).setNe (by show w.heap.size + 1 ≠ w.heap.size; omega) _).setNe (by show w.heap.size + 1 ≠ w.heap.size; omega) _
           have g12 : w.grownBy W3 (some b) := by rw [e3]; exact gSet (gSet (gSet g11 (by show w.heap.size ≤ w.heap.size + 1; omega) _) (by show w.heap.size ≤ w.heap.size + 1; omega) _) (by show w.heap.size ≤ w.heap.size + 1; omega) _
           clear e3
           obtain ⟨W2, e2, D2, kg, ks, kb⟩ := R13.stored p k c t
           rw [← e2]
           have Q2 := kb _ _ _ _ Q3 (by omega)
           have g13 := kg _ _ g12 (Nat.le_refl _)
           clear e2 kg ks kb
           obtain ⟨c0, c1, c2, c3, _⟩ := D2.far (grown_of_below (Below.refl W2.heap.size W2).drew none) (by simp)
           obtain ⟨q0, q1, q2, _, _, _⟩ := Q2.below (Below.refl W2.heap.size W2).drew (Nat.le_refl _)
           have g13 := g13.trans (grown_of_below (Below.refl W2.heap.size W2).drew (some b))
           exact bodyPost_ret (v := .tuple #[devV p k c t, batV v U AA]) (by simp [results, Tryd.results23, go_sem, c0, c1, c2, c3, q0, q1, q2]) rfl ⟨p, k, c, t, v, U, AA, rfl, hBOK, hp1, hk1, hv1, g13⟩)
        | fail
  · have B6' := B6
    obtain ⟨b0, b1, b2, f0, f1, f2⟩ := B6'
    have D6' := D6
    obtain ⟨d0, d1, d2, d3, dz⟩ := D6'
    obtain ⟨U, hU⟩ : ∃ U, U = u / 4 := ⟨u / 4, rfl⟩
    have s7 := s6.setNe (a := ⟨w2.heap.size, 1, none⟩) z2 (.int .i64 U)
    have g7 := gSet g6 (a := ⟨w2.heap.size, 1, none⟩) y2 (.int .i64 U)
    have R7 := R6.setNe (q := ⟨w2.heap.size, 1, none⟩) (by show w2.heap.size ≠ w.heap.size; omega) (.int .i64 U)
    have Q7 := Q6.setNe (p := ⟨w2.heap.size, 1, none⟩) (by show w2.heap.size ≠ w.heap.size + 1; omega) (.int .i64 U)
    have D7 := D6.setNe (q := ⟨w2.heap.size, 1, none⟩) (by show w2.heap.size ≠ w1.heap.size; omega) (.int .i64 U)
    have B7 := B6.set1 U
    have hUb : 0 ≤ U ∧ U ≤ X / 1000 := by omega
    rw [hU] at s7 g7 R7 Q7 D7
    rw [hU] at B7
    have hpk := pick_any s7 (k + 1) (by omega) (by omega) (by omega)
    have Hpk := Lib.hid hpk; clear hpk
    have dk := D7.c1
    go_wp2_with fail
    clear b0 b1 b2 f0 f1 f2 d0 d1 d2 d3 dz R6 Q6 D6 B6 g6 s6
    refine Hpk.out.mono ?_; rintro e w8 ⟨a, q8, rfl, ha, hq8, s8, o8⟩
    have hab : 0 ≤ a ∧ a ≤ k := by
      by_cases h : k + 1 ≤ 1
      · have := ha.1 h; omega
      · have := ha.2 (by omega); omega
    have g8 := g7.trans o8
    have R8 := R7.far o8 hne0
    have Q8 := Q7.far o8 hne1
    have D8 := D7.far o8 hneD
    have B8 := B7.far o8 hneB
    clear o8 R7 Q7 D7 B7 g7 s7 Hpk ha dk
    rw [← hU] at B8
    clear hU
    have s9 := s8.setNe (a := ⟨w2.heap.size, 2, none⟩) z2 (.int .i64 a)
    have g9 := gSet g8 (a := ⟨w2.heap.size, 2, none⟩) y2 (.int .i64 a)
    have R9 := R8.setNe (q := ⟨w2.heap.size, 2, none⟩) (by show w2.heap.size ≠ w.heap.size; omega) (.int .i64 a)
    have Q9 := Q8.setNe (p := ⟨w2.heap.size, 2, none⟩) (by show w2.heap.size ≠ w.heap.size + 1; omega) (.int .i64 a)
    have D9 := D8.setNe (q := ⟨w2.heap.size, 2, none⟩) (by show w2.heap.size ≠ w1.heap.size; omega) (.int .i64 a)
    have B9 := B8.set2 a
    have hone := one_any s9 (by omega)
    have Hone := Lib.hid hone; clear hone
    obtain ⟨b0, b1, b2, f0, f1, f2⟩ := B8
    have hbl8 := cell_ltB b0
    go_wp2_with fail
    refine Hone.out.mono ?_; rintro e w10 ⟨x2, q10, rfl, hq10, s10, o10⟩
    have g10 := g9.trans o10
    have R10 := R9.far o10 hne0
    have Q10 := Q9.far o10 hne1
    have D10 := D9.far o10 hneD
    have B10 := B9.far o10 hneB
    clear o10 R9 Q9 D9 B9 g9 s9 Hone b0 b1 b2 f0 f1 f2 R8 Q8 D8 g8 s8 hbl8
    rcases x2 with _ | _
    · obtain ⟨AA, hAA⟩ : ∃ AA, AA = a := ⟨a, rfl⟩
      rw [← hAA] at B10
      have hBOK : BOk p k c t v U AA := { HD.out with v0 := by omega, v1 := by omega, u0 := by omega, u1 := by omega, a0 := by omega, a1 := by omega, room := by have := hX; omega }
      clear hAA
      have R11 := R10
      have Q11 := Q10
      have D11 := D10
      have B11 := B10
      have g11 := g10
      clear R10 Q10 D10 B10 g10
      obtain ⟨d0, d1, d2, d3, dz⟩ := D11
      obtain ⟨b0, b1, b2, f0, f1, f2⟩ := B11
      have hbl11 := cell_ltB b0
      have hdl11 := cell_ltB d0
      have R12 := R11
      have Q12 := Q11
      obtain ⟨r0, r1, r2, r3, rz⟩ := R12
      have hrl := cell_ltB r0
      obtain ⟨e0, e1, e2, h0, h1, h2⟩ := Q12
      have hql := cell_ltB e0
      go_wp2_with fail
      go_region
      all_goals
        go_wp2
        clear r0 r1 r2 r3 rz e0 e1 e2 h0 h1 h2
        first
        | (obtain ⟨W2, e2, D2, kg, ks, kb⟩ := R11.stored p k c t
           rw [← e2]
           have Q2 := kb _ _ _ _ Q11 (by omega)
           have g12 := kg _ _ g11 (Nat.le_refl _)
           clear e2 kg ks kb
           obtain ⟨W3, e3, Q3, _⟩ := Q2.stored (Below.refl 0 W2) (Nat.zero_le _) v U AA
           rw [← e3]
           have D3 : DwAt W3 w.heap.size p k c t := by rw [e3]; exact ((D2.setNe (by show w.heap.size + 1 ≠ w.heap.size; omega) _).setNe (by show w.heap.size + 1 ≠ w.heap.size; omega) _).setNe (by show w.heap.size + 1 ≠ w.heap.size; omega) _
           have g13 : w.grownBy W3 (some b) := by rw [e3]; exact gSet (gSet (gSet g12 (by show w.heap.size ≤ w.heap.size + 1; omega) _) (by show w.heap.size ≤ w.heap.size + 1; omega) _) (by show w.heap.size ≤ w.heap.size + 1; omega) _
           clear e3
           obtain ⟨c0, c1, c2, c3, _⟩ := D3.far (grown_of_below (Below.refl W3.heap.size W3).drew none) (by simp)
           obtain ⟨q0, q1, q2, _, _, _⟩ := Q3.below (Below.refl W3.heap.size W3).drew (Nat.le_refl _)
           have g13 := g13.trans (grown_of_below (Below.refl W3.heap.size W3).drew (some b))
           exact bodyPost_ret (v := .tuple #[devV p k c t, batV v U AA]) (by simp [results, Tryd.results23, go_sem, c0, c1, c2, c3, q0, q1, q2]) rfl ⟨p, k, c, t, v, U, AA, rfl, hBOK, hp1, hk1, hv1, g13⟩)
        | (obtain ⟨W3, e3, Q3, _⟩ := Q11.stored (Below.refl 0 _) (Nat.zero_le _) v U AA
           rw [← e3]
           have R13 : DwAt W3 w.heap.size 0 0 0 0 := by rw [e3]; exact ((R11.setNe (by show w.heap.size + 1 ≠ w.heap.size; omega) _).setNe (by show w.heap.size + 1 ≠ w.heap.size; omega) _).setNe (by show w.heap.size + 1 ≠ w.heap.size; omega) _
           have g12 : w.grownBy W3 (some b) := by rw [e3]; exact gSet (gSet (gSet g11 (by show w.heap.size ≤ w.heap.size + 1; omega) _) (by show w.heap.size ≤ w.heap.size + 1; omega) _) (by show w.heap.size ≤ w.heap.size + 1; omega) _
           clear e3
           obtain ⟨W2, e2, D2, kg, ks, kb⟩ := R13.stored p k c t
           rw [← e2]
           have Q2 := kb _ _ _ _ Q3 (by omega)
           have g13 := kg _ _ g12 (Nat.le_refl _)
           clear e2 kg ks kb
           obtain ⟨c0, c1, c2, c3, _⟩ := D2.far (grown_of_below (Below.refl W2.heap.size W2).drew none) (by simp)
           obtain ⟨q0, q1, q2, _, _, _⟩ := Q2.below (Below.refl W2.heap.size W2).drew (Nat.le_refl _)
           have g13 := g13.trans (grown_of_below (Below.refl W2.heap.size W2).drew (some b))
           exact bodyPost_ret (v := .tuple #[devV p k c t, batV v U AA]) (by simp [results, Tryd.results23, go_sem, c0, c1, c2, c3, q0, q1, q2]) rfl ⟨p, k, c, t, v, U, AA, rfl, hBOK, hp1, hk1, hv1, g13⟩)
        | fail
    · have B10' := B10
      obtain ⟨b0, b1, b2, f0, f1, f2⟩ := B10'
      have hbl10 := cell_ltB b0
      have hdl10 := D10.lt
      have D10' := D10
      obtain ⟨d0, d1, d2, d3, dz⟩ := D10'
      obtain ⟨AA, hAA⟩ : ∃ AA, AA = a / 4 := ⟨a / 4, rfl⟩
      have hBOK : BOk p k c t v U AA := { HD.out with v0 := by omega, v1 := by omega, u0 := by omega, u1 := by omega, a0 := by omega, a1 := by omega, room := by have := hX; omega }
      have B11 := B10.set2 AA
      have R11 := R10.setNe (q := ⟨w2.heap.size, 2, none⟩) (by show w2.heap.size ≠ w.heap.size; omega) (.int .i64 AA)
      have Q11 := Q10.setNe (p := ⟨w2.heap.size, 2, none⟩) (by show w2.heap.size ≠ w.heap.size + 1; omega) (.int .i64 AA)
      have D11 := D10.setNe (q := ⟨w2.heap.size, 2, none⟩) (by show w2.heap.size ≠ w1.heap.size; omega) (.int .i64 AA)
      have g11 := gSet g10 (a := ⟨w2.heap.size, 2, none⟩) y2 (.int .i64 AA)
      go_wp2_with fail
      clear b0 b1 b2 f0 f1 f2 d0 d1 d2 d3 dz
      try rw [← hAA]
      clear hAA
      generalize w10.setCell ⟨w2.heap.size, 2, none⟩ (.int .i64 AA) = WB at *
      obtain ⟨d0, d1, d2, d3, dz⟩ := D11
      obtain ⟨b0, b1, b2, f0, f1, f2⟩ := B11
      have hbl11 := cell_ltB b0
      have hdl11 := cell_ltB d0
      have R12 := R11
      have Q12 := Q11
      obtain ⟨r0, r1, r2, r3, rz⟩ := R12
      have hrl := cell_ltB r0
      obtain ⟨e0, e1, e2, h0, h1, h2⟩ := Q12
      have hql := cell_ltB e0
      go_wp2_with fail
      go_region
      all_goals
        go_wp2
        clear r0 r1 r2 r3 rz e0 e1 e2 h0 h1 h2
        first
        | (obtain ⟨W2, e2, D2, kg, ks, kb⟩ := R11.stored p k c t
           rw [← e2]
           have Q2 := kb _ _ _ _ Q11 (by omega)
           have g12 := kg _ _ g11 (Nat.le_refl _)
           clear e2 kg ks kb
           obtain ⟨W3, e3, Q3, _⟩ := Q2.stored (Below.refl 0 W2) (Nat.zero_le _) v U AA
           rw [← e3]
           have D3 : DwAt W3 w.heap.size p k c t := by rw [e3]; exact ((D2.setNe (by show w.heap.size + 1 ≠ w.heap.size; omega) _).setNe (by show w.heap.size + 1 ≠ w.heap.size; omega) _).setNe (by show w.heap.size + 1 ≠ w.heap.size; omega) _
           have g13 : w.grownBy W3 (some b) := by rw [e3]; exact gSet (gSet (gSet g12 (by show w.heap.size ≤ w.heap.size + 1; omega) _) (by show w.heap.size ≤ w.heap.size + 1; omega) _) (by show w.heap.size ≤ w.heap.size + 1; omega) _
           clear e3
           obtain ⟨c0, c1, c2, c3, _⟩ := D3.far (grown_of_below (Below.refl W3.heap.size W3).drew none) (by simp)
           obtain ⟨q0, q1, q2, _, _, _⟩ := Q3.below (Below.refl W3.heap.size W3).drew (Nat.le_refl _)
           have g13 := g13.trans (grown_of_below (Below.refl W3.heap.size W3).drew (some b))
           exact bodyPost_ret (v := .tuple #[devV p k c t, batV v U AA]) (by simp [results, Tryd.results23, go_sem, c0, c1, c2, c3, q0, q1, q2]) rfl ⟨p, k, c, t, v, U, AA, rfl, hBOK, hp1, hk1, hv1, g13⟩)
        | (obtain ⟨W3, e3, Q3, _⟩ := Q11.stored (Below.refl 0 _) (Nat.zero_le _) v U AA
           rw [← e3]
           have R13 : DwAt W3 w.heap.size 0 0 0 0 := by rw [e3]; exact ((R11.setNe (by show w.heap.size + 1 ≠ w.heap.size; omega) _).setNe (by show w.heap.size + 1 ≠ w.heap.size; omega) _).setNe (by show w.heap.size + 1 ≠ w.heap.size; omega) _
           have g12 : w.grownBy W3 (some b) := by rw [e3]; exact gSet (gSet (gSet g11 (by show w.heap.size ≤ w.heap.size + 1; omega) _) (by show w.heap.size ≤ w.heap.size + 1; omega) _) (by show w.heap.size ≤ w.heap.size + 1; omega) _
           clear e3
           obtain ⟨W2, e2, D2, kg, ks, kb⟩ := R13.stored p k c t
           rw [← e2]
           have Q2 := kb _ _ _ _ Q3 (by omega)
           have g13 := kg _ _ g12 (Nat.le_refl _)
           clear e2 kg ks kb
           obtain ⟨c0, c1, c2, c3, _⟩ := D2.far (grown_of_below (Below.refl W2.heap.size W2).drew none) (by simp)
           obtain ⟨q0, q1, q2, _, _, _⟩ := Q2.below (Below.refl W2.heap.size W2).drew (Nat.le_refl _)
           have g13 := g13.trans (grown_of_below (Below.refl W2.heap.size W2).drew (some b))
           exact bodyPost_ret (v := .tuple #[devV p k c t, batV v U AA]) (by simp [results, Tryd.results23, go_sem, c0, c1, c2, c3, q0, q1, q2]) rfl ⟨p, k, c, t, v, U, AA, rfl, hBOK, hp1, hk1, hv1, g13⟩)
        | fail

end Go.Proofs.YtkgjkjecfpmlnaaDoor

/-
  Baths: what the reference and the program say of whether they are valid; both together in a tray. No condition.
-/
import Derived.Test.YtkgjkjecfpmlnaaDoorBath
import Derived.Test.YtkgjkjecfpmlnaaDoorQuietD
namespace Go.Proofs.YtkgjkjecfpmlnaaDoor
open Go.RowKit

/-- A developer in the block i, a bath in the block j. -/
structure DBAt (W : World) (i j : Nat) (p k b t v u a : Int) : Prop where
  c0 : W.cell? ⟨i, 0, none⟩ = some (.int .i64 p)
  c1 : W.cell? ⟨i, 1, none⟩ = some (.int .i64 k)
  c2 : W.cell? ⟨i, 2, none⟩ = some (.int .i8 b)
  c3 : W.cell? ⟨i, 3, none⟩ = some (.int .i8 t)
  c4 : W.cell? ⟨j, 0, none⟩ = some (.int .i64 v)
  c5 : W.cell? ⟨j, 1, none⟩ = some (.int .i64 u)
  c6 : W.cell? ⟨j, 2, none⟩ = some (.int .i64 a)
theorem DBAt.below {w w' : World} {i j B : Nat} {p k b t v u a : Int} (h : DBAt w i j p k b t v u a) (hb : Below B w w') (hB : w.heap.size ≤ B) : DBAt w' i j p k b t v u a :=
  ⟨below_cellOf hb h.c0 hB, below_cellOf hb h.c1 hB, below_cellOf hb h.c2 hB, below_cellOf hb h.c3 hB, below_cellOf hb h.c4 hB, below_cellOf hb h.c5 hB, below_cellOf hb h.c6 hB⟩
theorem DBAt.new (w : World) (T T' : TypeId) (p k b t v u a : Int) :
    DBAt ((w.alloc (.cells #[.int .i64 p, .int .i64 k, .int .i8 b, .int .i8 t] T)).alloc (.cells #[.int .i64 v, .int .i64 u, .int .i64 a] T')) w.heap.size (w.heap.size + 1) p k b t v u a :=
  ⟨by simp, by simp, by simp, by simp, by simp, by simp, by simp⟩
/-- Both in one block, which may be written. -/
structure TrAt (W : World) (i : Nat) (p k b t v u a : Int) : Prop where
  c0 : W.cell? ⟨i, 0, none⟩ = some (.int .i64 p)
  c1 : W.cell? ⟨i, 1, none⟩ = some (.int .i64 k)
  c2 : W.cell? ⟨i, 2, none⟩ = some (.int .i8 b)
  c3 : W.cell? ⟨i, 3, none⟩ = some (.int .i8 t)
  c4 : W.cell? ⟨i, 4, none⟩ = some (.int .i64 v)
  c5 : W.cell? ⟨i, 5, none⟩ = some (.int .i64 u)
  c6 : W.cell? ⟨i, 6, none⟩ = some (.int .i64 a)
  fz : ∀ o, W.frozen? ⟨i, o, none⟩ = false
theorem cell_ltB {w : World} {b o : Nat} {v : Value} (h : w.cell? ⟨b, o, none⟩ = some v) : b < w.heap.size := by
  rcases Nat.lt_or_ge b w.heap.size with h' | h'
  · exact h'
  · simp [World.cell?, Array.getElem?_eq_none h'] at h
theorem frz_below {w w' : World} {j o B : Nat} (h : w.frozen? ⟨j, o, none⟩ = false) (hb : Below B w w') (hj : j < B) : w'.frozen? ⟨j, o, none⟩ = false := by
  rw [show w'.frozen? ⟨j, o, none⟩ = w.frozen? ⟨j, o, none⟩ by unfold World.frozen?; rw [hb.block j hj]]; exact h
theorem frz_set {w : World} {q r : Addr} {x : Value} (h : w.frozen? q = false) : (w.setCell r x).frozen? q = false := by
  first | (simp; exact h) | (simpa using h)
theorem TrAt.lt {w : World} {i : Nat} {p k b t v u a : Int} (h : TrAt w i p k b t v u a) : i < w.heap.size := cell_ltB h.c0
theorem TrAt.below {w w' : World} {i B : Nat} {p k b t v u a : Int} (h : TrAt w i p k b t v u a) (hb : Below B w w') (hB : w.heap.size ≤ B) : TrAt w' i p k b t v u a :=
  ⟨below_cellOf hb h.c0 hB, below_cellOf hb h.c1 hB, below_cellOf hb h.c2 hB, below_cellOf hb h.c3 hB, below_cellOf hb h.c4 hB, below_cellOf hb h.c5 hB, below_cellOf hb h.c6 hB, fun o => frz_below (h.fz o) hb (Nat.lt_of_lt_of_le h.lt hB)⟩
theorem TrAt.new (w : World) (T : TypeId) (p k b t v u a : Int) :
    TrAt (w.alloc (.cells #[.int .i64 p, .int .i64 k, .int .i8 b, .int .i8 t, .int .i64 v, .int .i64 u, .int .i64 a] T)) w.heap.size p k b t v u a :=
  ⟨by simp, by simp, by simp, by simp, by simp, by simp, by simp, fun o => by simp⟩
theorem TrAt.newAt (w : World) (i : Nat) (hi : i = w.heap.size) (T : TypeId) (p k b t v u a : Int) :
    TrAt (w.alloc (.cells #[.int .i64 p, .int .i64 k, .int .i8 b, .int .i8 t, .int .i64 v, .int .i64 u, .int .i64 a] T)) i p k b t v u a := by
  subst hi; exact TrAt.new w T p k b t v u a
theorem TrAt.alloc {w : World} {i : Nat} {p k b t v u a : Int} (h : TrAt w i p k b t v u a) (o : Obj) : TrAt (w.alloc o) i p k b t v u a := h.below ((Below.refl _ _).alloc (Nat.le_refl _) o) (Nat.le_refl _)
theorem TrAt.setNe {W : World} {i : Nat} {p k b t v u a : Int} (h : TrAt W i p k b t v u a) {q : Addr} (hp : q.block ≠ i) (x : Value) : TrAt (W.setCell q x) i p k b t v u a :=
  have hn : ∀ o, q ≠ (⟨i, o, none⟩ : Addr) := fun o e => hp (by rw [e])
  ⟨(World.cell?_setCell_other W q _ x (hn 0)).trans h.c0, (World.cell?_setCell_other W q _ x (hn 1)).trans h.c1, (World.cell?_setCell_other W q _ x (hn 2)).trans h.c2, (World.cell?_setCell_other W q _ x (hn 3)).trans h.c3, (World.cell?_setCell_other W q _ x (hn 4)).trans h.c4, (World.cell?_setCell_other W q _ x (hn 5)).trans h.c5, (World.cell?_setCell_other W q _ x (hn 6)).trans h.c6, fun o => frz_set (h.fz o)⟩
theorem sc_same {W : World} {q : Addr} {x y : Value} (h : W.cell? q = some y) : (W.setCell q x).cell? q = some x := World.cell?_setCell_same W q x h
theorem sc_other {W : World} {q r : Addr} {x y : Value} (h : W.cell? q = some y) (ne : r.off ≠ q.off) : (W.setCell r x).cell? q = some y := (World.cell?_setCell_other W r q x (fun e => ne (by rw [e]))).trans h
theorem TrAt.set0 {W : World} {i : Nat} {p k b t v u a : Int} (h : TrAt W i p k b t v u a) (x : Int) : TrAt (W.setCell ⟨i, 0, none⟩ (.int .i64 x)) i x k b t v u a := ⟨sc_same h.c0, sc_other h.c1 (by simp), sc_other h.c2 (by simp), sc_other h.c3 (by simp), sc_other h.c4 (by simp), sc_other h.c5 (by simp), sc_other h.c6 (by simp), fun o => frz_set (h.fz o)⟩
theorem TrAt.set1 {W : World} {i : Nat} {p k b t v u a : Int} (h : TrAt W i p k b t v u a) (x : Int) : TrAt (W.setCell ⟨i, 1, none⟩ (.int .i64 x)) i p x b t v u a := ⟨sc_other h.c0 (by simp), sc_same h.c1, sc_other h.c2 (by simp), sc_other h.c3 (by simp), sc_other h.c4 (by simp), sc_other h.c5 (by simp), sc_other h.c6 (by simp), fun o => frz_set (h.fz o)⟩
theorem TrAt.set2 {W : World} {i : Nat} {p k b t v u a : Int} (h : TrAt W i p k b t v u a) (x : Int) : TrAt (W.setCell ⟨i, 2, none⟩ (.int .i8 x)) i p k x t v u a := ⟨sc_other h.c0 (by simp), sc_other h.c1 (by simp), sc_same h.c2, sc_other h.c3 (by simp), sc_other h.c4 (by simp), sc_other h.c5 (by simp), sc_other h.c6 (by simp), fun o => frz_set (h.fz o)⟩
theorem TrAt.set3 {W : World} {i : Nat} {p k b t v u a : Int} (h : TrAt W i p k b t v u a) (x : Int) : TrAt (W.setCell ⟨i, 3, none⟩ (.int .i8 x)) i p k b x v u a := ⟨sc_other h.c0 (by simp), sc_other h.c1 (by simp), sc_other h.c2 (by simp), sc_same h.c3, sc_other h.c4 (by simp), sc_other h.c5 (by simp), sc_other h.c6 (by simp), fun o => frz_set (h.fz o)⟩
theorem TrAt.set4 {W : World} {i : Nat} {p k b t v u a : Int} (h : TrAt W i p k b t v u a) (x : Int) : TrAt (W.setCell ⟨i, 4, none⟩ (.int .i64 x)) i p k b t x u a := ⟨sc_other h.c0 (by simp), sc_other h.c1 (by simp), sc_other h.c2 (by simp), sc_other h.c3 (by simp), sc_same h.c4, sc_other h.c5 (by simp), sc_other h.c6 (by simp), fun o => frz_set (h.fz o)⟩
theorem TrAt.set5 {W : World} {i : Nat} {p k b t v u a : Int} (h : TrAt W i p k b t v u a) (x : Int) : TrAt (W.setCell ⟨i, 5, none⟩ (.int .i64 x)) i p k b t v x a := ⟨sc_other h.c0 (by simp), sc_other h.c1 (by simp), sc_other h.c2 (by simp), sc_other h.c3 (by simp), sc_other h.c4 (by simp), sc_same h.c5, sc_other h.c6 (by simp), fun o => frz_set (h.fz o)⟩
theorem TrAt.set6 {W : World} {i : Nat} {p k b t v u a : Int} (h : TrAt W i p k b t v u a) (x : Int) : TrAt (W.setCell ⟨i, 6, none⟩ (.int .i64 x)) i p k b t v u x := ⟨sc_other h.c0 (by simp), sc_other h.c1 (by simp), sc_other h.c2 (by simp), sc_other h.c3 (by simp), sc_other h.c4 (by simp), sc_other h.c5 (by simp), sc_same h.c6, fun o => frz_set (h.fz o)⟩
/-- All cells of a tray, stored. -/
theorem TrAt.stored {w W : World} {i B : Nat} {p k b t v u a : Int} (h : TrAt W i p k b t v u a) (hb : Below B w W) (hi : B ≤ i) (p' k' b' t' v' u' a' : Int) :
    ∃ W2, W2 = (((((((W.setCell ⟨i, 0, none⟩ (.int .i64 p')).setCell ⟨i, 1, none⟩ (.int .i64 k')).setCell ⟨i, 2, none⟩ (.int .i8 b')).setCell ⟨i, 3, none⟩ (.int .i8 t')).setCell ⟨i, 4, none⟩ (.int .i64 v')).setCell ⟨i, 5, none⟩ (.int .i64 u')).setCell ⟨i, 6, none⟩ (.int .i64 a')) ∧ TrAt W2 i p' k' b' t' v' u' a' ∧ Below B w W2 := 
  ⟨_, rfl, ((((((h.set0 p').set1 k').set2 b').set3 t').set4 v').set5 u').set6 a', ((((((hb.setCell hi _).setCell hi _).setCell hi _).setCell hi _).setCell hi _).setCell hi _).setCell hi _⟩
theorem below_2 (w : World) (o o' : Obj) : Below w.heap.size w ((w.alloc o).alloc o') := ((Below.refl _ _).alloc (Nat.le_refl _) _).alloc (by simp) _

section
variable {p k b t v u a : Int}

set_option maxRecDepth 100000 in
set_option maxHeartbeats 1000000 in
theorem l04Ok_any (hb : -128 ≤ b) (hb' : b ≤ 127) (ht : -128 ≤ t) (ht' : t ≤ 127) (w : World) :
    Calls Tryd.prog 27 #[devV p k b t, batV v u a] w fun e w' => e = .returned (.bool (bathOk p k b t v u a)) ∧ Below w.heap.size w w' := by
  have hdev := fun W => l04Developer_any p k b t hb hb' ht ht' W
  have hB0 := below_2 w (.cells #[.int .i64 p, .int .i64 k, .int .i8 b, .int .i8 t] 26) (.cells #[.int .i64 v, .int .i64 u, .int .i64 a] 28)
  have D0 := DBAt.new w 26 28 p k b t v u a
  unfold bathOk onScale
  rcases hD : devOk p k b t with _ | _
  · rw [hD] at hdev
    have Hd := Lib.hid hdev; clear hdev D0 hD
    go_enter Tryd.func27, Tryd.ntmps27
    go_wp2_with fail
    refine (Hd.out _).mono ?_; rintro e w1 ⟨rfl, hb1⟩
    go_wp2_with fail
    go_ret
    exact ⟨rfl, hB0.trans (hb1.mono hB0.size)⟩
  rw [hD] at hdev
  have Hd := Lib.hid hdev; clear hdev
  have hDO := devOk_true.1 hD
  have hp0 := hDO.p0
  have hp1 := hDO.p1
  clear hDO hD
  rcases h1 : inB v 1 20000 with _ | _
  · go_enter Tryd.func27, Tryd.ntmps27
    go_wp2_with fail
    refine (Hd.out _).mono ?_; rintro e w1 ⟨rfl, hb1⟩
    obtain ⟨c0, c1, c2, c3, c4, c5, c6⟩ := D0.below hb1 (Nat.le_refl _)
    have k1 := hB0.trans (hb1.mono hB0.size)
    clear D0 hB0 hb1
    go_wp2_with (go_at_call 28; refine (l00In_any _ _ _ _).mono ?_; rintro e w' ⟨rfl, rfl⟩)
    go_ret
    exact ⟨by simp, k1⟩
  have v01 := inB_true.1 h1
  rcases h2 : inB u 0 100000000 with _ | _
  · go_enter Tryd.func27, Tryd.ntmps27
    go_wp2_with fail
    refine (Hd.out _).mono ?_; rintro e w1 ⟨rfl, hb1⟩
    obtain ⟨c0, c1, c2, c3, c4, c5, c6⟩ := D0.below hb1 (Nat.le_refl _)
    have k1 := hB0.trans (hb1.mono hB0.size)
    clear D0 hB0 hb1
    go_wp2_with (go_at_call 28; refine (l00In_any _ _ _ _).mono ?_; rintro e w' ⟨rfl, rfl⟩)
    go_ret
    exact ⟨by simp, k1⟩
  have u01 := inB_true.1 h2
  rcases h3 : inB a 0 100000 with _ | _
  · go_enter Tryd.func27, Tryd.ntmps27
    go_wp2_with fail
    refine (Hd.out _).mono ?_; rintro e w1 ⟨rfl, hb1⟩
    obtain ⟨c0, c1, c2, c3, c4, c5, c6⟩ := D0.below hb1 (Nat.le_refl _)
    have k1 := hB0.trans (hb1.mono hB0.size)
    clear D0 hB0 hb1
    go_wp2_with (go_at_call 28; refine (l00In_any _ _ _ _).mono ?_; rintro e w' ⟨rfl, rfl⟩)
    go_ret
    exact ⟨by simp, k1⟩
  have hcap := capB (v := v) (p := p) (by omega) (by omega) (by omega) (by omega)
  obtain ⟨hc0, hc1⟩ := hcap
  by_cases hr : 1000 * u ≤ v * p
  all_goals
    go_enter Tryd.func27, Tryd.ntmps27
    go_wp2_with fail
    refine (Hd.out _).mono ?_; rintro e w1 ⟨rfl, hb1⟩
    obtain ⟨c0, c1, c2, c3, c4, c5, c6⟩ := D0.below hb1 (Nat.le_refl _)
    have k1 := hB0.trans (hb1.mono hB0.size)
    clear D0 hB0 hb1
    go_wp2_with (go_at_call 28; refine (l00In_any _ _ _ _).mono ?_; rintro e w' ⟨rfl, rfl⟩)
    go_ret
    exact ⟨by simp [hr], k1⟩

set_option maxRecDepth 100000 in
set_option maxHeartbeats 1000000 in
theorem roomIn_any (p k b t v u a : Int) (hc : 0 ≤ v * p) (hc' : v * p ≤ 2000000000) (hu : 0 ≤ u) (hu' : u ≤ 100000000) (w : World) :
    Calls Tryd.prog 53 #[devV p k b t, batV v u a] w fun e w' => e = .returned (.int .i64 (v * p - 1000 * u)) ∧ Below w.heap.size w w' := by
  have hcap := fun W => capacityOf_any p k b t v u a hc hc' W
  have Hc := Lib.hid hcap; clear hcap
  have hB0 := below_2 w (.cells #[.int .i64 p, .int .i64 k, .int .i8 b, .int .i8 t] 26) (.cells #[.int .i64 v, .int .i64 u, .int .i64 a] 28)
  have D0 := DBAt.new w 26 28 p k b t v u a
  go_enter Tryd.func53, Tryd.ntmps53
  go_wp2
  generalize ((w.alloc (.cells #[.int .i64 p, .int .i64 k, .int .i8 b, .int .i8 t] 26)).alloc (.cells #[.int .i64 v, .int .i64 u, .int .i64 a] 28)) = W at *
  obtain ⟨c0, c1, c2, c3, c4, c5, c6⟩ := D0
  refine wp_region_quietD (Below W.heap.size W) (by kernel_rfl) (by kernel_rfl) (below_drew1 _) ?_
  have n0 := below_nonempty W
  have f0 := inCell c0
  have f1 := inCell c1
  have f2 := inCell c2
  have f3 := inCell c3
  have f4 := inCell c4
  have f5 := inCell c5
  have f6 := inCell c6
  repeat (go_big_quiet_step (first | (go_at_call 67; exact inCall _ (Hc.out _))))
  refine wpQuiet_nil ?_
  rintro _ ⟨y, rfl⟩
  go_wp2
  go_ret
  exact ⟨rfl, hB0.trans (y.ok.mono hB0.size)⟩

set_option maxRecDepth 100000 in
set_option maxHeartbeats 1000000 in
theorem ValidBath_any (p k b t v u a : Int) (hb : -128 ≤ b) (hb' : b ≤ 127) (ht : -128 ≤ t) (ht' : t ≤ 127) (w : World) :
    Calls Tryd.prog 72 #[devV p k b t, batV v u a] w fun e w' => e = .returned (.bool (bathOk p k b t v u a)) ∧ Below w.heap.size w w' := by
  have hdev := fun W => ValidDeveloper_any p k b t hb hb' ht ht' W
  have hsc := fun W => isOnScale_any v u a W
  have hB0 := below_2 w (.cells #[.int .i64 p, .int .i64 k, .int .i8 b, .int .i8 t] 26) (.cells #[.int .i64 v, .int .i64 u, .int .i64 a] 28)
  have D0 := DBAt.new w 26 28 p k b t v u a
  unfold bathOk
  rcases hD : devOk p k b t with _ | _
  · rw [hD] at hdev
    have Hd := Lib.hid hdev; clear hdev D0 hD hsc
    go_enter Tryd.func72, Tryd.ntmps72
    go_wp2_with fail
    refine (Hd.out _).mono ?_; rintro e w1 ⟨rfl, hb1⟩
    go_wp2_with fail
    go_ret
    exact ⟨rfl, hB0.trans (hb1.mono hB0.size)⟩
  rw [hD] at hdev
  have Hd := Lib.hid hdev; clear hdev
  have hDO := devOk_true.1 hD
  have hp0 := hDO.p0
  have hp1 := hDO.p1
  clear hDO hD
  rcases h1 : onScale v u a with _ | _
  · rw [h1] at hsc
    have Hs := Lib.hid hsc; clear hsc h1
    go_enter Tryd.func72, Tryd.ntmps72
    go_wp2_with fail
    refine (Hd.out _).mono ?_; rintro e w1 ⟨rfl, hb1⟩
    have D1 := D0.below hb1 (Nat.le_refl _)
    have k1 := hB0.trans (hb1.mono hB0.size)
    obtain ⟨c0, c1, c2, c3, c4, c5, c6⟩ := D1
    clear D0 hB0 hb1
    go_wp2_with fail
    refine (Hs.out _).mono ?_; rintro e w2 ⟨rfl, hb2⟩
    go_wp2_with fail
    go_ret
    exact ⟨rfl, k1.trans (hb2.mono k1.size)⟩
  rw [h1] at hsc
  have Hs := Lib.hid hsc; clear hsc
  have hsb : (1 ≤ v ∧ v ≤ 20000) ∧ (0 ≤ u ∧ u ≤ 100000000) ∧ (0 ≤ a ∧ a ≤ 100000) := by simpa [onScale, inB_true] using h1
  clear h1
  have hcap := capB (v := v) (p := p) (by omega) (by omega) (by omega) (by omega)
  have hroom := fun W => roomIn_any p k b t v u a hcap.1 hcap.2 hsb.2.1.1 hsb.2.1.2 W
  have Hr := Lib.hid hroom; clear hroom
  obtain ⟨hc0, hc1⟩ := hcap
  have hu := hsb.2.1
  clear hsb
  go_enter Tryd.func72, Tryd.ntmps72
  go_wp2_with fail
  refine (Hd.out _).mono ?_; rintro e w1 ⟨rfl, hb1⟩
  have D1 := D0.below hb1 (Nat.le_refl _)
  have k1 := hB0.trans (hb1.mono hB0.size)
  have E1 := D1
  obtain ⟨c0, c1, c2, c3, c4, c5, c6⟩ := E1
  clear D0 hB0 hb1
  go_wp2_with fail
  refine (Hs.out _).mono ?_; rintro e w2 ⟨rfl, hb2⟩
  have D2 := D1.below hb2 (Nat.le_refl _)
  have k2 := k1.trans (hb2.mono k1.size)
  obtain ⟨c0, c1, c2, c3, c4, c5, c6⟩ := D2
  clear D1 k1 hb2
  go_wp2_with fail
  refine (Hr.out _).mono ?_; rintro e w3 ⟨rfl, hb3⟩
  go_wp2_with fail
  go_ret
  exact ⟨ret_bool (by simp), k2.trans (hb3.mono k2.size)⟩

set_option maxHeartbeats 1000000 in
theorem trayValid_any (p k b t v u a : Int) (hb : -128 ≤ b) (hb' : b ≤ 127) (ht : -128 ≤ t) (ht' : t ≤ 127) (w : World) :
    Calls Tryd.prog 65 #[trayV p k b t v u a] w fun e w' => e = .returned (.bool (bathOk p k b t v u a)) ∧ Below w.heap.size w w' := by
  have hok := fun W => ValidBath_any p k b t v u a hb hb' ht ht' W
  have Hok := Lib.hid hok; clear hok
  have k0 : Below w.heap.size w (w.alloc (.cells #[.int .i64 p, .int .i64 k, .int .i8 b, .int .i8 t, .int .i64 v, .int .i64 u, .int .i64 a] 82)) := (Below.refl _ _).alloc (Nat.le_refl _) _
  go_enter Tryd.func65, Tryd.ntmps65
  go_wp2_with fail
  refine (Hok.out _).mono ?_; rintro e w1 ⟨rfl, hb1⟩
  go_wp2_with fail
  go_ret
  exact ⟨rfl, k0.trans (hb1.mono k0.size)⟩

end
end Go.Proofs.YtkgjkjecfpmlnaaDoor

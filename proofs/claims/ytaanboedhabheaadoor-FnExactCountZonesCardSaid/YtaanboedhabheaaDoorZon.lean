/-
  Cells in zones and off the scale: the reference's masks and the program's own counting. Condition: zones of int8.
-/
import Derived.Test.YtaanboedhabheaaDoorZns
import Derived.Test.YtaanboedhabheaaDoorCnt
namespace Go.Proofs.YtaanboedhabheaaDoor
open Go.RowKit

/-- Which zones are off the scale; how many of the first k cells are in a zone. -/
def lowP (V : Nat → Int) : Nat → Bool := fun k => decide (V k < 0)
def hiP (V : Nat → Int) : Nat → Bool := fun k => decide (11 ≤ V k)
def czN (V : Nat → Int) : Nat → Nat → Int
  | 0, _ => 0
  | k + 1, j => czN V k j + if V k = (j : Int) then 1 else 0
theorem czN_bd (V : Nat → Int) : ∀ k j, 0 ≤ czN V k j ∧ czN V k j ≤ k
  | 0, j => by simp [czN]
  | k + 1, j => by
    have := czN_bd V k j
    rw [czN]; split <;> omega
theorem czN_off {V : Nat → Int} {k : Nat} (h : V k < 0 ∨ 11 ≤ V k) {j : Nat} (hj : j < 11) : czN V (k + 1) j = czN V k j := by
  rw [czN, if_neg (by omega), Int.add_zero]
theorem czN_on {V : Nat → Int} {k z : Nat} (h : V k = (z : Int)) (j : Nat) : upd (czN V k) z (czN V k z + 1) j = czN V (k + 1) j := by
  unfold upd
  rw [czN]
  by_cases e : j = z
  · subst e; rw [if_pos rfl, if_pos h]
  · rw [if_neg e, if_neg (by omega), Int.add_zero]
theorem maskN_lt24 (p : Nat → Bool) (k : Nat) (hk : k ≤ 24) : maskN p k < 16777216 := by
  refine Nat.lt_of_lt_of_le (Nat.lt_pow_two_of_testBit (maskN p k) (n := k) fun j hj => ?_) (Nat.le_trans (Nat.pow_le_pow_right (by omega) hk) (by decide))
  rw [maskN_bit]
  have : ¬ j < k := by omega
  simp [this]

/-- The cells of the program's own box. -/
def zgV (c : Nat → Int) (l h : Nat) : Array Value := Array.ofFn (n := 13) fun i => if i.1 < 11 then .int .i64 (c i) else if i.1 = 11 then .int .u32 (l : Int) else .int .u32 (h : Int)
theorem zgV_size (c : Nat → Int) (l h : Nat) : (zgV c l h).size = 13 := by simp [zgV]
theorem zgV_get (c : Nat → Int) (l h : Nat) {j : Nat} (hj : j < 13) : (zgV c l h)[j]? = some (if j < 11 then .int .i64 (c j) else if j = 11 then .int .u32 (l : Int) else .int .u32 (h : Int)) := by
  simp [zgV, hj]
theorem zgV_ext {cs : Array Value} {c : Nat → Int} {l h : Nat} (hs : cs.size = 13) (hg : ∀ j, j < 13 → cs[j]? = some (if j < 11 then .int .i64 (c j) else if j = 11 then .int .u32 (l : Int) else .int .u32 (h : Int))) : cs = zgV c l h := by
  apply Array.ext_getElem?
  intro i
  by_cases hi : i < 13
  · rw [hg i hi, zgV_get _ _ _ hi]
  · rw [Array.getElem?_eq_none (by omega), Array.getElem?_eq_none (by rw [zgV_size]; omega)]
theorem zgV_setc (c : Nat → Int) (l h : Nat) {k : Nat} (hk : k < 11) (v : Int) : (zgV c l h).setIfInBounds k (.int .i64 v) = zgV (upd c k v) l h := by
  refine zgV_ext (by simp [zgV_size]) fun j hj => ?_
  by_cases e : j = k
  · subst e
    rw [Array.getElem?_setIfInBounds_self_of_lt (by rw [zgV_size]; omega), if_pos hk, upd_same]
  · rw [Array.getElem?_setIfInBounds_ne (fun h => e h.symm), zgV_get _ _ _ hj, upd_other e]
theorem zgV_setl (c : Nat → Int) (l h l' : Nat) : (zgV c l h).setIfInBounds 11 (.int .u32 (l' : Int)) = zgV c l' h := by
  refine zgV_ext (by simp [zgV_size]) fun j hj => ?_
  by_cases e : j = 11
  · subst e
    rw [Array.getElem?_setIfInBounds_self_of_lt (by rw [zgV_size]; omega)]; rfl
  · rw [Array.getElem?_setIfInBounds_ne (fun h => e h.symm), zgV_get _ _ _ hj]
    simp [e]
theorem zgV_seth (c : Nat → Int) (l h h' : Nat) : (zgV c l h).setIfInBounds 12 (.int .u32 (h' : Int)) = zgV c l h' := by
  refine zgV_ext (by simp [zgV_size]) fun j hj => ?_
  by_cases e : j = 12
  · subst e
    rw [Array.getElem?_setIfInBounds_self_of_lt (by rw [zgV_size]; omega)]; rfl
  · rw [Array.getElem?_setIfInBounds_ne (fun h => e h.symm), zgV_get _ _ _ hj]
    have : j < 11 ∨ j = 11 := by omega
    rcases this with h1 | h1 <;> simp [h1]
theorem zgV_one (c : Nat → Int) (l h : Nat) : (zgV c l h).all (·.oneCell') = true := by
  rw [Array.all_eq_true]
  intro i hi
  have hi' : i < 13 := by rw [zgV_size] at hi; exact hi
  have h1 := zgV_get c l h hi'
  rw [Array.getElem?_eq_getElem hi] at h1
  rw [Option.some.inj h1]
  split
  · rfl
  · split <;> rfl
theorem zgV_congr {c d : Nat → Int} {l h : Nat} (hcd : ∀ j, j < 11 → c j = d j) : zgV c l h = zgV d l h :=
  zgV_ext (zgV_size _ _ _) fun j hj => by
    rw [zgV_get _ _ _ hj]
    by_cases e : j < 11
    · simp [e, hcd j e]
    · simp [e]
theorem zgV_zero : #[.int .i64 0, .int .i64 0, .int .i64 0, .int .i64 0, .int .i64 0, .int .i64 0, .int .i64 0, .int .i64 0, .int .i64 0, .int .i64 0, .int .i64 0, .int .u32 0, .int .u32 0] = zgV (fun _ => 0) 0 0 := by kernel_rfl
/-- The program's own box. -/
def ZgAt (w : World) (g : Nat) (T : TypeId) (c : Nat → Int) (l h : Nat) : Prop := w.heap[g]? = some (.cells (zgV c l h) T (0, 0))
section
variable {w w' : World} {g : Nat} {T : TypeId} {c d : Nat → Int} {l h : Nat}
theorem ZgAt.lt (H : ZgAt w g T c l h) : g < w.heap.size := (Array.getElem?_eq_some_iff.1 H).1
theorem ZgAt.cellc (H : ZgAt w g T c l h) {k : Nat} (hk : k < 11) : w.cell? ⟨g, k, none⟩ = some (.int .i64 (c k)) := by
  rw [cell_of_row w g k _ T (0, 0) H, zgV_get _ _ _ (by omega), if_pos hk]
theorem ZgAt.celll (H : ZgAt w g T c l h) : w.cell? ⟨g, 11, none⟩ = some (.int .u32 (l : Int)) := by
  rw [cell_of_row w g 11 _ T (0, 0) H, zgV_get _ _ _ (by omega)]; rfl
theorem ZgAt.cellh (H : ZgAt w g T c l h) : w.cell? ⟨g, 12, none⟩ = some (.int .u32 (h : Int)) := by
  rw [cell_of_row w g 12 _ T (0, 0) H, zgV_get _ _ _ (by omega)]; rfl
theorem ZgAt.free (H : ZgAt w g T c l h) (k : Nat) : w.frozen? ⟨g, k, none⟩ = false := frozen_of_row w g k _ T H
theorem ZgAt.below {B : Nat} (H : ZgAt w g T c l h) (hb : Below B w w') (hB : g < B) : ZgAt w' g T c l h := (hb.block g hB).trans H
theorem ZgAt.alloc (H : ZgAt w g T c l h) (o : Obj) : ZgAt (w.alloc o) g T c l h := (Below.heap_alloc w o g H.lt).trans H
theorem ZgAt.new (w : World) (T : TypeId) (c : Nat → Int) (l h : Nat) {g : Nat} (hg : g = w.heap.size) : ZgAt (w.alloc (.cells (zgV c l h) T)) g T c l h := by subst hg; exact heap_alloc_last w _
theorem ZgAt.other (H : ZgAt w g T c l h) {a : Addr} (hne : g ≠ a.block) (v : Value) : ZgAt (w.setCell a v) g T c l h := (Below.heap_setCell w a v g hne).trans H
theorem ZgAt.setc (H : ZgAt w g T c l h) {k : Nat} (hk : k < 11) (v : Int) : ZgAt (w.setCell ⟨g, k, none⟩ (.int .i64 v)) g T (upd c k v) l h := by
  unfold ZgAt; rw [heap_setCell_same w g k _ T _ H, zgV_setc _ _ _ hk]
theorem ZgAt.setl (H : ZgAt w g T c l h) (l' : Nat) : ZgAt (w.setCell ⟨g, 11, none⟩ (.int .u32 (l' : Int))) g T c l' h := by
  unfold ZgAt; rw [heap_setCell_same w g 11 _ T _ H, zgV_setl]
theorem ZgAt.seth (H : ZgAt w g T c l h) (h' : Nat) : ZgAt (w.setCell ⟨g, 12, none⟩ (.int .u32 (h' : Int))) g T c l h' := by
  unfold ZgAt; rw [heap_setCell_same w g 12 _ T _ H, zgV_seth]
theorem ZgAt.congr (H : ZgAt w g T c l h) (hcd : ∀ j, j < 11 → c j = d j) : ZgAt w g T d l h := by unfold ZgAt; rw [← zgV_congr hcd]; exact H
theorem ZgAt.rowOther (H : ZgAt w g T c l h) {b' : Nat} (hne : g ≠ b') (cs : Array Value) : ZgAt (w.setRow b' cs) g T c l h := (setRow_other w b' g cs hne).trans H
theorem ZgAt.setRow (H : ZgAt w g T c l h) (d : Nat → Int) (l' h' : Nat) : ZgAt (w.setRow g (zgV d l' h')) g T d l' h' := setRow_heap w g _ _ T _ H
end
theorem sizeZg : (Tryd.prog.info? 92).map (·.size) = some 13 := by kernel_rfl
section
variable {P : Program} {ops : Array Oper} {rest : List Oper} {o : Oper} {a : Act} {w : World} {Q : Exit → Act → World → Prop} {g : Nat} {T : TypeId} {c d : Nat → Int} {l h l' h' : Nat}
theorem wpList_load_zg {ds : TypeDesc} (H : ZgAt w g T c l h) (ty : TypeId) (x : Operand) (hgd : o.guard = none) (ho : o.op = .load ty x) (hx : a.eval x = .pointer (some ⟨g, 0, none⟩)) (hu : P.underlying ty = some ds) (hd : (match ds with | .struct _ | .array _ _ => true | _ => false) = true) (hi : (P.info? ty).map (·.size) = some 13)
    (hK : wpList P ops Q rest (a.put o.dst (.agg (zgV c l h))) w) : wpList P ops Q (o :: rest) a w :=
  wpList_load_row hgd ty x ho g hx T _ (0, 0) _ H hu hd (by rw [zgV_size]; exact hi) hK
theorem wpList_store_zg (H : ZgAt w g T c l h) (ty : TypeId) (x y : Operand) (hgd : o.guard = none) (ho : o.op = .store ty x y) (hx : a.eval x = .pointer (some ⟨g, 0, none⟩)) (hy : a.eval y = .agg (zgV d l' h')) (hi : (P.info? ty).map (·.size) = some 13)
    (hK : wpList P ops Q rest (a.put o.dst undef) (w.setRow g (zgV d l' h'))) : wpList P ops Q (o :: rest) a w :=
  wpList_store_row hgd ty x y ho g _ hx hy T _ H (by rw [zgV_size]; exact hi) (by rw [zgV_size, zgV_size]) (zgV_one _ _ _) hK
theorem wpList_store_zg0 (H : ZgAt w g T c l h) (ty : TypeId) (x y : Operand) (hgd : o.guard = none) (ho : o.op = .store ty x y) (hx : a.eval x = .pointer (some ⟨g, 0, none⟩)) (hy : a.eval y = .agg #[.int .i64 0, .int .i64 0, .int .i64 0, .int .i64 0, .int .i64 0, .int .i64 0, .int .i64 0, .int .i64 0, .int .i64 0, .int .i64 0, .int .i64 0, .int .u32 0, .int .u32 0]) (hi : (P.info? ty).map (·.size) = some 13)
    (hK : wpList P ops Q rest (a.put o.dst undef) (w.setRow g (zgV (fun _ => 0) 0 0))) : wpList P ops Q (o :: rest) a w :=
  wpList_store_zg H ty x y hgd ho hx (hy.trans (by rw [zgV_zero])) hi hK
theorem step_store_zg0 {K : Act → World → Prop} {E : Prop} (H : ZgAt w g T c l h) (hg : o.guard = none) (ty : TypeId) (x y : Operand) (ho : o.op = .store ty x y) (hx : a.eval x = .pointer (some ⟨g, 0, none⟩)) (hy : a.eval y = .agg #[.int .i64 0, .int .i64 0, .int .i64 0, .int .i64 0, .int .i64 0, .int .i64 0, .int .i64 0, .int .i64 0, .int .i64 0, .int .i64 0, .int .i64 0, .int .u32 0, .int .u32 0]) (hi : (P.info? ty).map (·.size) = some 13)
    (hK : K (a.put o.dst undef) (w.setRow g (zgV (fun _ => 0) 0 0))) : if Region.wanted o (yielded ops a.tmps) = true then Oper.wp P o a w K Q else E := by
  have hw : Region.wanted o (yielded ops a.tmps) = true := by simp [Region.wanted, hg]
  rw [if_pos hw]
  exact wp_store_row ty x y ho g _ hx (hy.trans (by rw [zgV_zero])) T _ H (by rw [zgV_size]; exact hi) (by rw [zgV_size, zgV_size]) (zgV_one _ _ _) hK
end
theorem ZgAt.zero (w : World) (T : TypeId) {g : Nat} (hg : g = w.heap.size) : ZgAt (w.alloc (.cells #[.int .i64 0, .int .i64 0, .int .i64 0, .int .i64 0, .int .i64 0, .int .i64 0, .int .i64 0, .int .i64 0, .int .i64 0, .int .i64 0, .int .i64 0, .int .u32 0, .int .u32 0] T)) g T (fun _ => 0) 0 0 := by
  rw [zgV_zero]; exact ZgAt.new w T _ _ _ hg

set_option maxRecDepth 100000 in
set_option maxHeartbeats 2000000 in
theorem l06Off_any (b : Nat) (T : TypeId) (f : Nat → Int) (r z : Int) (hv : scnB f = true) (hp : plcB r z = true) (w : World) (h : HasArr w b T .i8 24 f) :
    Calls Tryd.prog 61 #[.pointer (some ⟨b, 0, none⟩), plcV r z] w fun e w' => e = .returned (.tuple #[.int .u32 ((maskN (lowP (zF f r z)) 24 : Nat) : Int), .int .u32 ((maskN (hiP (zF f r z)) 24 : Nat) : Int)]) ∧ Below w.heap.size w w' := by
  have bp := plcB_bd hp
  have hzn : ∀ k, k < 24 → ∀ W, Calls Tryd.prog 56 #[plcV r z, .int .i64 (f k)] W fun e w' => e = .returned (.int .i64 (zF f r z k)) ∧ Below W.heap.size W w' :=
    fun k (hk : k < 24) W => l06Zone_any r z (f k) bp.1.1 bp.1.2 bp.2.1 bp.2.2 (scnB_bd hv hk).1 (scnB_bd hv hk).2 W
  have hb := fun k (hk : k < 24) => scnB_bd hv hk
  have hzb := fun k (hk : k < 24) => zF_bd hv hp hk
  have Hz := Lib.hid hzn
  have Hb := Lib.hid hb
  have Hzb := Lib.hid hzb
  clear hzn hb hzb hv hp bp
  generalize zF f r z = V at *
  have K1 := Lib.hid (And.intro (h.alloc (.cells #[.int .i8 r, .int .i8 z] 37)) (And.intro (PlAt.new w rfl 37 r z) ((Below.refl w.heap.size w).alloc (Nat.le_refl _) (.cells #[.int .i8 r, .int .i8 z] 37))))
  have hblt := h.lt
  clear h
  go_enter Tryd.func61, Tryd.ntmps61
  go_wp2_with fail
  go_loopw [6, 7, 8] (fun a c i wr => ∃ k : Nat, k ≤ 24 ∧ i = .int .i64 (k : Int) ∧ a = .int .u32 ((maskN (lowP V) k : Nat) : Int) ∧ c = .int .u32 ((maskN (hiP V) k : Nat) : Int) ∧ HasArr wr b T .i8 24 f ∧ PlAt wr w.heap.size r z ∧ Below w.heap.size w wr) (fun _ _ i _ => 24 - (intOf i).toNat)
  case atStart => exact ⟨0, by omega, rfl, rfl, rfl, K1.out⟩
  case round =>
    obtain ⟨k, hk, rfl, rfl, rfl, h1, h2, hB⟩ := hrel
    clear K1
    by_cases hkn : k < 24
    · have q := Hz.out k hkn
      have bX := Hb.out k hkn
      have bZ := Hzb.out k hkn
      have w0 : (0 : Int) ≤ (k : Int) := by omega
      have w1 : (k : Int) < 24 := by omega
      have c1 := h1.cell hkn
      have p0 := h2.1
      have p1 := h2.2
      have hk32 : k < 32 := by omega
      have run := fun (P : Program) (ρ : Operand → Value) (o : Oper) (W : World) (T T2 : TypeId) (x y : Operand) ho hx hy => run_shl32 (P := P) (ρ := ρ) (o := o) (w := W) (T := T) (T2 := T2) (x := x) (y := y) (κ := .u64) (k := k) ho hx hy hk32
      have h2k := two_pow_lt32 hk32
      have la := maskN_lt24 (lowP V) k hk
      have lb := maskN_lt24 (hiP V) k hk
      have ya := maskN_yes (p := lowP V) (k := k)
      have na := maskN_no (p := lowP V) (k := k)
      have yb := maskN_yes (p := hiP V) (k := k)
      have nb := maskN_no (p := hiP V) (k := k)
      have pa : lowP V k = decide (V k < 0) := rfl
      have pb : hiP V k = decide (11 ≤ V k) := rfl
      rw [pa] at ya na
      rw [pb] at yb nb
      clear pa pb
      generalize f k = X at *
      generalize V k = Z at *
      generalize maskN (lowP V) k = M1 at *
      generalize maskN (hiP V) k = M2 at *
      generalize 2 ^ k = B at *
      have e1 : IntKind.i64.wrap X = X := IntWalk.i64_in _ (by omega)
      have Q := Lib.hid q; clear q
      have Run := Lib.hid run; clear run
      have HM := Lib.hid (And.intro (show M1 < 4294967296 by omega) (And.intro (show M2 < 4294967296 by omega) h2k)); clear la lb h2k
      have K := Lib.hid (And.intro h1 (And.intro h2 hB)); clear h1 h2 hB
      rcases (show Z < 0 ∨ (0 ≤ Z ∧ Z < 11) ∨ 11 ≤ Z by omega) with hZ | hZ | hZ
      · have HA := Lib.hid (ya (decide_eq_true hZ))
        have HB := Lib.hid (nb (decide_eq_false (by omega)))
        clear ya na yb nb
        go_wp2_with fail
        refine wp_region_quietD (Below wr.heap.size wr) (by kernel_rfl) (by kernel_rfl) (below_drew1 _) ?_
        have n0 := below_nonempty wr
        have uc := fun (x : WIn (Below wr.heap.size wr)) => inCell c1 x
        have u0 := fun (x : WIn (Below wr.heap.size wr)) => inCell p0 x
        have u1 := fun (x : WIn (Below wr.heap.size wr)) => inCell p1 x
        repeat (go_big_quiet_step ((go_at_call 56; exact inCall _ (Q.out _))))
        refine wpQuiet_nil ?_
        rintro _ ⟨⟨w2, hb2⟩, rfl⟩
        have L := Lib.hid (And.intro (K.out.1.below hb2 K.out.1.lt) (And.intro (K.out.2.1.below hb2 K.out.2.1.lt) (K.out.2.2.trans (Below.mono hb2 K.out.2.2.size))))
        clear K hb2 n0 uc u0 u1 c1 p0 p1 e1
        go_wp2_with (first | (refine wpList_yield rfl (Run.out _ _ _ _ _ _ _ _ rfl rfl rfl) ?_) | (refine wpList_yield rfl (run_or32 (m := M1) (n := B) rfl rfl rfl HM.out.1 HM.out.2.2) ?_))
        go_roundw
        case rel => exact ⟨k + 1, by omega, by go_num, by rw [HA.out], by rw [HB.out], L.out⟩
        case measure => simp [intOf]; omega
      · have HA := Lib.hid (na (decide_eq_false (by omega)))
        have HB := Lib.hid (nb (decide_eq_false (by omega)))
        obtain ⟨hZ1, hZ2⟩ := hZ
        clear ya na yb nb
        go_wp2_with fail
        refine wp_region_quietD (Below wr.heap.size wr) (by kernel_rfl) (by kernel_rfl) (below_drew1 _) ?_
        have n0 := below_nonempty wr
        have uc := fun (x : WIn (Below wr.heap.size wr)) => inCell c1 x
        have u0 := fun (x : WIn (Below wr.heap.size wr)) => inCell p0 x
        have u1 := fun (x : WIn (Below wr.heap.size wr)) => inCell p1 x
        repeat (go_big_quiet_step ((go_at_call 56; exact inCall _ (Q.out _))))
        refine wpQuiet_nil ?_
        rintro _ ⟨⟨w2, hb2⟩, rfl⟩
        have L := Lib.hid (And.intro (K.out.1.below hb2 K.out.1.lt) (And.intro (K.out.2.1.below hb2 K.out.2.1.lt) (K.out.2.2.trans (Below.mono hb2 K.out.2.2.size))))
        clear K hb2 n0 uc u0 u1 c1 p0 p1 e1
        go_wp2_with fail
        go_roundw
        case rel => exact ⟨k + 1, by omega, by go_num, by rw [HA.out], by rw [HB.out], L.out⟩
        case measure => simp [intOf]; omega
      · have HA := Lib.hid (na (decide_eq_false (by omega)))
        have HB := Lib.hid (yb (decide_eq_true hZ))
        clear ya na yb nb
        go_wp2_with fail
        refine wp_region_quietD (Below wr.heap.size wr) (by kernel_rfl) (by kernel_rfl) (below_drew1 _) ?_
        have n0 := below_nonempty wr
        have uc := fun (x : WIn (Below wr.heap.size wr)) => inCell c1 x
        have u0 := fun (x : WIn (Below wr.heap.size wr)) => inCell p0 x
        have u1 := fun (x : WIn (Below wr.heap.size wr)) => inCell p1 x
        repeat (go_big_quiet_step ((go_at_call 56; exact inCall _ (Q.out _))))
        refine wpQuiet_nil ?_
        rintro _ ⟨⟨w2, hb2⟩, rfl⟩
        have L := Lib.hid (And.intro (K.out.1.below hb2 K.out.1.lt) (And.intro (K.out.2.1.below hb2 K.out.2.1.lt) (K.out.2.2.trans (Below.mono hb2 K.out.2.2.size))))
        clear K hb2 n0 uc u0 u1 c1 p0 p1 e1
        go_wp2_with (first | (refine wpList_yield rfl (Run.out _ _ _ _ _ _ _ _ rfl rfl rfl) ?_) | (refine wpList_yield rfl (run_or32 (m := M2) (n := B) rfl rfl rfl HM.out.2.1 HM.out.2.2) ?_))
        go_roundw
        case rel => exact ⟨k + 1, by omega, by go_num, by rw [HA.out], by rw [HB.out], L.out⟩
        case measure => simp [intOf]; omega
    · obtain rfl : k = 24 := by omega
      go_wp2_with fail
      go_ret2
      exact ⟨rfl, hB⟩

set_option maxRecDepth 100000 in
set_option maxHeartbeats 2000000 in
theorem zoning_any (V : Nat → Int) (hV : S8 V) (w : World) :
    Calls Tryd.prog 87 #[.agg (arrV .i8 24 V)] w fun e w' => e = .returned (.agg (zgV (czN V 24) (maskN (lowP V) 24) (maskN (hiP V) 24))) ∧ Below w.heap.size w w' := by
  have hix := fun k (hk : k < 24) W => run_index_arr (P := Tryd.prog) (κ' := .i64) V Tryd.underlying26 Tryd.underlying22 size8 hk W
  have Hix := Lib.hid hix; clear hix
  have a0 := HasArr.new w 26 .i8 24 V
  have a1 := a0.alloc (.cells #[.int .i64 0, .int .i64 0, .int .i64 0, .int .i64 0, .int .i64 0, .int .i64 0, .int .i64 0, .int .i64 0, .int .i64 0, .int .i64 0, .int .i64 0, .int .u32 0, .int .u32 0] 92)
  have k0 := ((Below.refl w.heap.size w).alloc (Nat.le_refl _) (.cells (arrV .i8 24 V) 26)).alloc (by simp) (.cells #[.int .i64 0, .int .i64 0, .int .i64 0, .int .i64 0, .int .i64 0, .int .i64 0, .int .i64 0, .int .i64 0, .int .i64 0, .int .i64 0, .int .i64 0, .int .u32 0, .int .u32 0] 92)
  have z1 := ZgAt.zero (w.alloc (.cells (arrV .i8 24 V) 26)) 92 (g := w.heap.size + 1) (by simp)
  have z2 := ZgAt.zero ((w.alloc (.cells (arrV .i8 24 V) 26)).alloc (.cells #[.int .i64 0, .int .i64 0, .int .i64 0, .int .i64 0, .int .i64 0, .int .i64 0, .int .i64 0, .int .i64 0, .int .i64 0, .int .i64 0, .int .i64 0, .int .u32 0, .int .u32 0] 92)) 92 (g := w.heap.size + 1 + 1) (by simp)
  have a2 := (a1.alloc (.cells #[.int .i64 0, .int .i64 0, .int .i64 0, .int .i64 0, .int .i64 0, .int .i64 0, .int .i64 0, .int .i64 0, .int .i64 0, .int .i64 0, .int .i64 0, .int .u32 0, .int .u32 0] 92)).rowOther (b' := w.heap.size + 1 + 1) (by omega) (zgV (fun _ => 0) 0 0)
  have K1 := Lib.hid (And.intro ((z1.alloc (.cells #[.int .i64 0, .int .i64 0, .int .i64 0, .int .i64 0, .int .i64 0, .int .i64 0, .int .i64 0, .int .i64 0, .int .i64 0, .int .i64 0, .int .i64 0, .int .u32 0, .int .u32 0] 92)).rowOther (b' := w.heap.size + 1 + 1) (by omega) (zgV (fun _ => 0) 0 0)) (And.intro (z2.setRow (fun _ => 0) 0 0) (below_setRow (k0.alloc k0.size (.cells #[.int .i64 0, .int .i64 0, .int .i64 0, .int .i64 0, .int .i64 0, .int .i64 0, .int .i64 0, .int .i64 0, .int .i64 0, .int .i64 0, .int .i64 0, .int .u32 0, .int .u32 0] 92)) (b := w.heap.size + 1 + 1) (by omega) (zgV (fun _ => 0) 0 0))))
  have Hv := Lib.hid hV; clear hV
  clear a0 a1 z1 k0
  go_enter Tryd.func87, Tryd.ntmps87
  go_wp2_with (first | (refine wpList_store_zg0 z2 _ _ _ rfl rfl rfl rfl sizeZg ?_) | (refine wpList_load_arr a2 _ _ rfl rfl rfl Tryd.underlying26 sizeScn ?_))
  clear z2 a2
  go_loopw [8] (fun i wr => ∃ k : Nat, k ≤ 24 ∧ i = .int .i64 (k : Int) ∧ ZgAt wr (w.heap.size + 1) 92 (fun _ => 0) 0 0 ∧ ZgAt wr (w.heap.size + 1 + 1) 92 (czN V k) (maskN (lowP V) k) (maskN (hiP V) k) ∧ Below w.heap.size w wr) (fun i _ => 24 - (intOf i).toNat)
  case atStart => exact ⟨0, by omega, rfl, K1.out⟩
  case round =>
    obtain ⟨k, hk, rfl, h1, h2, hB⟩ := hrel
    clear K1
    by_cases hkn : k < 24
    · have ix := Hix.out k hkn wr
      have bZ := Hv.out k hkn
      have w1 : (k : Int) < 24 := by omega
      have hk32 : k < 32 := by omega
      have fo := fun W => fieldOf_any k hkn W
      have h2k := two_pow_lt32 hk32
      have la := maskN_lt24 (lowP V) k hk
      have lb := maskN_lt24 (hiP V) k hk
      have ya := maskN_yes (p := lowP V) (k := k)
      have na := maskN_no (p := lowP V) (k := k)
      have yb := maskN_yes (p := hiP V) (k := k)
      have nb := maskN_no (p := hiP V) (k := k)
      have pa : lowP V k = decide (V k < 0) := rfl
      have pb : hiP V k = decide (11 ≤ V k) := rfl
      rw [pa] at ya na
      rw [pb] at yb nb
      clear pa pb
      generalize maskN (lowP V) k = M1 at *
      generalize maskN (hiP V) k = M2 at *
      generalize 2 ^ k = B at *
      have Fo := Lib.hid fo; clear fo
      have HM := Lib.hid (And.intro (show M1 < 4294967296 by omega) (And.intro (show M2 < 4294967296 by omega) h2k)); clear la lb h2k
      have K := Lib.hid (And.intro h1 (And.intro h2 hB)); clear h1 h2 hB
      have cl := K.out.2.1.celll
      have ch := K.out.2.1.cellh
      have fr := K.out.2.1.free
      rcases (show V k < 0 ∨ (0 ≤ V k ∧ V k < 11) ∨ 11 ≤ V k by omega) with hZ | hZ | hZ
      · have HA := Lib.hid (ya (decide_eq_true hZ))
        have HB := Lib.hid (nb (decide_eq_false (by omega)))
        clear ya na yb nb
        go_wp2_with fail
        refine wp_region_quiet_tail 6 (fun w' => ∃ q, w' = wr.drewN q) (by kernel_rfl) (by kernel_rfl) ⟨1, rfl⟩ ?_
        simp only [List.take_succ_cons, List.take_zero, List.drop_succ_cons, List.drop_zero]
        quiet_step (fail)
        quiet_step (fail)
        quiet_step (fail)
        quiet_step ((go_at_call 102; exact (Fo.out _).mono fun e w' ⟨he, hw⟩ => ⟨he, _, hw.symm⟩))
        refine wpQuiet_yield (.int .u32 ((M1 ||| B : Nat) : Int)) rfl (fun W => run_or32 (m := M1) (n := B) rfl rfl rfl HM.out.1 HM.out.2.2) ?_
        go_frame
        quiet_step (fail)
        refine wpQuiet_nil ?_
        rintro _ ⟨q, rfl⟩
        go_wp2
        go_roundw
        case rel => exact ⟨k + 1, by omega, by go_num, K.out.1.other (w := wr.drewN q) (a := ⟨w.heap.size + 1 + 1, 11, none⟩) (by simp) _, by rw [HA.out, HB.out]; exact (ZgAt.setl (w := wr.drewN q) K.out.2.1 (M1 ||| B)).congr (fun j hj => (czN_off (by omega) hj).symm), (below_drewP K.out.2.2 q).setCell (p := ⟨w.heap.size + 1 + 1, 11, none⟩) (by simp; omega) _⟩
        case measure => simp [intOf]; omega
      · have HA := Lib.hid (na (decide_eq_false (by omega)))
        have HB := Lib.hid (nb (decide_eq_false (by omega)))
        obtain ⟨hZ1, hZ2⟩ := hZ
        clear ya na yb nb
        obtain ⟨n, hn⟩ := Int.eq_ofNat_of_zero_le hZ1
        have hon := fun j => czN_on (V := V) (k := k) (z := n) hn j
        have hnl : n < 11 := by omega
        rw [hn] at ix bZ hZ1 hZ2
        have cc := K.out.2.1.cellc hnl
        have cb := czN_bd V k n
        have HN := Lib.hid hon; clear hon hn
        generalize czN V k n = C at *
        have w2 : (n : Int) < 11 := by omega
        go_wp2
        go_roundw
        case rel => exact ⟨k + 1, by omega, by go_num, K.out.1.other (a := ⟨w.heap.size + 1 + 1, n, none⟩) (by simp) _, by rw [HA.out, HB.out]; exact (K.out.2.1.setc hnl (C + 1)).congr (fun j _ => HN.out j), K.out.2.2.setCell (p := ⟨w.heap.size + 1 + 1, n, none⟩) (by simp; omega) _⟩
        case measure => simp [intOf]; omega
      · have HA := Lib.hid (na (decide_eq_false (by omega)))
        have HB := Lib.hid (yb (decide_eq_true hZ))
        clear ya na yb nb
        go_wp2_with fail
        refine wp_region_quiet_tail 6 (fun w' => ∃ q, w' = wr.drewN q) (by kernel_rfl) (by kernel_rfl) ⟨1, rfl⟩ ?_
        simp only [List.take_succ_cons, List.take_zero, List.drop_succ_cons, List.drop_zero]
        quiet_step (fail)
        quiet_step (fail)
        quiet_step (fail)
        quiet_step ((go_at_call 102; exact (Fo.out _).mono fun e w' ⟨he, hw⟩ => ⟨he, _, hw.symm⟩))
        refine wpQuiet_yield (.int .u32 ((M2 ||| B : Nat) : Int)) rfl (fun W => run_or32 (m := M2) (n := B) rfl rfl rfl HM.out.2.1 HM.out.2.2) ?_
        go_frame
        quiet_step (fail)
        refine wpQuiet_nil ?_
        rintro _ ⟨q, rfl⟩
        go_wp2
        go_roundw
        case rel => exact ⟨k + 1, by omega, by go_num, K.out.1.other (w := wr.drewN q) (a := ⟨w.heap.size + 1 + 1, 12, none⟩) (by simp) _, by rw [HA.out, HB.out]; exact (ZgAt.seth (w := wr.drewN q) K.out.2.1 (M2 ||| B)).congr (fun j hj => (czN_off (by omega) hj).symm), (below_drewP K.out.2.2 q).setCell (p := ⟨w.heap.size + 1 + 1, 12, none⟩) (by simp; omega) _⟩
        case measure => simp [intOf]; omega
    · obtain rfl : k = 24 := by omega
      have h1' := h1.setRow (czN V 24) (maskN (lowP V) 24) (maskN (hiP V) 24)
      have hB' := below_setRow hB (b := w.heap.size + 1) (by omega) (zgV (czN V 24) (maskN (lowP V) 24) (maskN (hiP V) 24))
      go_wp2_with (first | (refine wpList_load_zg h2 _ _ rfl rfl rfl Tryd.underlying92 rfl sizeZg ?_) | (refine wpList_store_zg h1 _ _ _ rfl rfl rfl rfl sizeZg ?_))
      refine bodyPost_ret (v := .agg (zgV (czN V 24) (maskN (lowP V) 24) (maskN (hiP V) 24))) ?_ rfl ⟨rfl, hB'⟩
      exact results_cell_row rfl _ _ _ _ _ _ _ rfl h1' Tryd.underlying92 rfl (by rw [zgV_size]; exact sizeZg)
end Go.Proofs.YtaanboedhabheaaDoor

/-
  Zones of scenes: what both sides return, for every scene and placement. Condition of the program's: its variables hold their own errors.
-/
import Derived.Test.YtmphmpddlgcofaaDoorScn
import Derived.Test.YtmphmpddlgcofaaDoorPlcI
import Derived.Test.YtmphmpddlgcofaaDoorPhaseG
namespace Go.Proofs.YtmphmpddlgcofaaDoor
open Go.RowKit

/-- The code of a scene and a placement. -/
def bC (f : Nat → Int) (r z : Int) : Int := if scnB f = true then (if plcB r z = true then 0 else 1) else 1
theorem b_1a {f : Nat → Int} {r z : Int} (h : scnB f = false) : bC f r z = 1 := by simp [bC, h]
theorem b_1b {f : Nat → Int} {r z : Int} (h : plcB r z = false) : bC f r z = 1 := by unfold bC; rw [h]; split <;> rfl
theorem b_0 {f : Nat → Int} {r z : Int} (h : scnB f = true) (h2 : plcB r z = true) : bC f r z = 0 := by simp [bC, h, h2]
theorem b_or {f : Nat → Int} {r z : Int} : (bC f r z = 0 ∧ scnB f = true ∧ plcB r z = true) ∨ bC f r z = 1 := by
  rcases h : scnB f with _ | _
  · exact .inr (b_1a h)
  · rcases h2 : plcB r z with _ | _
    · exact .inr (b_1b h2)
    · exact .inl ⟨b_0 h h2, rfl, rfl⟩
/-- The zones. -/
def zF (f : Nat → Int) (r z : Int) : Nat → Int := fun k => zonZ r z (f k)
def znV (f : Nat → Int) (r z : Int) : Nat → Int := fun k => if bC f r z = 0 then zF f r z k else 0
theorem znV_0 {f : Nat → Int} {r z : Int} (h : bC f r z = 0) : znV f r z = zF f r z := by unfold znV; funext k; rw [if_pos h]
theorem znV_1 {f : Nat → Int} {r z : Int} (h : bC f r z = 1) : znV f r z = fun _ => 0 := by unfold znV; funext k; rw [if_neg (by omega)]
theorem zF_bd {f : Nat → Int} {r z : Int} (h : scnB f = true) (h2 : plcB r z = true) {k : Nat} (hk : k < 24) : -20 ≤ zF f r z k ∧ zF f r z k ≤ 30 := by
  have b := plcB_bd h2
  have c := scnB_bd h hk
  exact zonZ_bd b.1.1 b.1.2 b.2.1 b.2.2 c.1 c.2
theorem wpList_store_zS {P : Program} {ops : Array Oper} {rest : List Oper} {o : Oper} {a : Act} {w : World} {Q : Exit → Act → World → Prop} {b : Nat} {T : TypeId} {κ : IntKind} {f : Nat → Int}
    (h : HasArr w b T κ 24 f) (ty : TypeId) (x y : Operand) (hgd : o.guard = none) (ho : o.op = .store ty x y) (hx : a.eval x = .pointer (some ⟨b, 0, none⟩)) (hy : a.eval y = .agg #[.int .i8 0, .int .i8 0, .int .i8 0, .int .i8 0, .int .i8 0, .int .i8 0, .int .i8 0, .int .i8 0, .int .i8 0, .int .i8 0, .int .i8 0, .int .i8 0, .int .i8 0, .int .i8 0, .int .i8 0, .int .i8 0, .int .i8 0, .int .i8 0, .int .i8 0, .int .i8 0, .int .i8 0, .int .i8 0, .int .i8 0, .int .i8 0]) (hi : (P.info? ty).map (·.size) = some 24)
    (hK : wpList P ops Q rest (a.put o.dst undef) (w.setRow b (arrV .i8 24 fun _ => 0))) : wpList P ops Q (o :: rest) a w :=
  wpList_store_arr (g := fun _ => 0) h ty x y hgd ho hx (hy.trans (by rw [zeroArr8])) hi hK
theorem step_store_zS {P : Program} {ops : Array Oper} {o : Oper} {a : Act} {w : World} {K : Act → World → Prop} {Q : Exit → Act → World → Prop} {E : Prop} {b : Nat} {T : TypeId} {κ : IntKind} {f : Nat → Int}
    (h : HasArr w b T κ 24 f) (hg : o.guard = none) (ty : TypeId) (x y : Operand) (ho : o.op = .store ty x y) (hx : a.eval x = .pointer (some ⟨b, 0, none⟩)) (hy : a.eval y = .agg #[.int .i8 0, .int .i8 0, .int .i8 0, .int .i8 0, .int .i8 0, .int .i8 0, .int .i8 0, .int .i8 0, .int .i8 0, .int .i8 0, .int .i8 0, .int .i8 0, .int .i8 0, .int .i8 0, .int .i8 0, .int .i8 0, .int .i8 0, .int .i8 0, .int .i8 0, .int .i8 0, .int .i8 0, .int .i8 0, .int .i8 0, .int .i8 0]) (hi : (P.info? ty).map (·.size) = some 24)
    (hK : K (a.put o.dst undef) (w.setRow b (arrV .i8 24 fun _ => 0))) : if Region.wanted o (yielded ops a.tmps) = true then Oper.wp P o a w K Q else E :=
  step_store_arr (g := fun _ => 0) h hg ty x y ho hx (hy.trans (by rw [zeroArr8])) hi hK
theorem resultsRowTmp {P : Program} {fn : Func} {p q : Tmp} {ty : TypeId} (h : fn.results = #[.cell p ty, .tmp q]) (tmps : Array Value) (w : World) (g : Nat) (t : TypeId) (cs : Array Value) (fr : Nat × Nat) (d : TypeDesc)
    (hp : tmps.getD p undef = .pointer (some ⟨g, 0, none⟩)) (hg : w.heap[g]? = some (.cells cs t fr))
    (hu : P.underlying ty = some d) (hd : (match d with | .struct _ | .array _ _ => true | _ => false) = true) (hi : (P.info? ty).map (·.size) = some cs.size) (v : Value) (hq : tmps.getD q undef = v) :
    (results fn tmps).run P w = .ok (.tuple #[.agg cs, v]) w := by
  have hp' : tmps[p]?.getD undef = .pointer (some ⟨g, 0, none⟩) := by simpa using hp
  have hq' : tmps[q]?.getD undef = v := by simpa using hq
  simp [results, h, hp', hq', asAddr, run_loadVar_row w g t ty cs fr d hg hu hd hi]
/-- A placement's box. -/
def PlAt (w : World) (g : Nat) (r z : Int) : Prop := w.cell? ⟨g, 0, none⟩ = some (.int .i8 r) ∧ w.cell? ⟨g, 1, none⟩ = some (.int .i8 z)
theorem PlAt.lt {w : World} {g : Nat} {r z : Int} (h : PlAt w g r z) : g < w.heap.size := World.block_lt_of_cell? w _ h.1
theorem PlAt.below {w w' : World} {g : Nat} {r z : Int} {B : Nat} (h : PlAt w g r z) (hb : Below B w w') (hB : g < B) : PlAt w' g r z :=
  ⟨(hb.cell (p := ⟨g, 0, none⟩) hB).trans h.1, (hb.cell (p := ⟨g, 1, none⟩) hB).trans h.2⟩
theorem PlAt.new (w : World) {g : Nat} (hg : g = w.heap.size) (T : TypeId) (r z : Int) : PlAt (w.alloc (.cells #[.int .i8 r, .int .i8 z] T)) g r z := new2P w hg _ _ T
theorem PlAt.alloc {w : World} {g : Nat} {r z : Int} (h : PlAt w g r z) (o : Obj) : PlAt (w.alloc o) g r z := h.below ((Below.refl _ _).alloc (Nat.le_refl _) o) h.lt
theorem PlAt.row {w : World} {g : Nat} {r z : Int} (h : PlAt w g r z) {b : Nat} (hb : g < b) (cs : Array Value) : PlAt (w.setRow b cs) g r z := h.below (below_setRow (Below.refl b w) (Nat.le_refl _) cs) hb
theorem PlAt.other {w : World} {g : Nat} {r z : Int} (h : PlAt w g r z) {p : Addr} (hp : g < p.block) (v : Value) : PlAt (w.setCell p v) g r z := h.below ((Below.refl p.block w).setCell (Nat.le_refl _) v) hp

set_option maxHeartbeats 1000000 in
theorem l06Both_any (b : Nat) (T : TypeId) (f : Nat → Int) (hf : S8 f) (r z : Int) (hr : -128 ≤ r) (hr' : r ≤ 127) (hz : -128 ≤ z) (hz' : z ≤ 127) (w : World) (h : HasArr w b T .i8 24 f) :
    Calls Tryd.prog 78 #[.pointer (some ⟨b, 0, none⟩), plcV r z] w fun e w' => e = .returned (.int .i64 (bC f r z)) ∧ Below w.heap.size w w' := by
  have k0 := (Below.refl w.heap.size w).alloc (Nat.le_refl _) (.cells #[.int .i8 r, .int .i8 z] 25)
  have ho := l06Ok_any b T f hf _ (h.alloc (.cells #[.int .i8 r, .int .i8 z] 25))
  have hp := fun W => l06Placement_any r z hr hr' hz hz' W
  have K0 := Lib.hid k0; clear k0 h
  unfold bC
  rcases h1 : scnB f with _ | _
  · simp only [Bool.false_eq_true, if_false]
    rw [h1] at ho
    have Ho := Lib.hid ho; clear ho hp h1
    go_enter Tryd.func78, Tryd.ntmps78
    go_wp2_with fail
    refine Ho.out.mono ?_; rintro e w1 ⟨rfl, rfl⟩
    go_wp2_with fail
    go_ret
    exact ⟨rfl, K0.out⟩
  rw [h1] at ho
  rcases h2 : plcB r z with _ | _
  all_goals
    simp only [Bool.false_eq_true, if_false, if_true]
    rw [h2] at hp
    have Ho := Lib.hid ho; have Hp := Lib.hid hp; clear ho hp h1 h2
    go_enter Tryd.func78, Tryd.ntmps78
    go_wp2_with fail
    refine Ho.out.mono ?_; rintro e w1 ⟨rfl, rfl⟩
    go_wp2_with fail
    refine (Hp.out _).mono ?_; rintro e w2 ⟨rfl, hb2⟩
    go_wp2_with fail
    go_ret
    exact ⟨rfl, K0.out.trans (hb2.mono K0.out.size)⟩

set_option maxRecDepth 100000 in
set_option maxHeartbeats 2000000 in
theorem specZonesOf_any (f : Nat → Int) (hf : S8 f) (r z : Int) (hr : -128 ≤ r) (hr' : r ≤ 127) (hz : -128 ≤ z) (hz' : z ≤ 127) (w : World) :
    Calls Tryd.prog 35 #[.agg (arrV .i8 24 f), plcV r z] w fun e w' => e = .returned (.tuple #[.agg (arrV .i8 24 (znV f r z)), .int .i64 (bC f r z)]) ∧ Below w.heap.size w w' := by
  have s0 := ((HasArr.new w 28 .i8 24 f).alloc (.cells #[.int .i8 r, .int .i8 z] 25)).alloc (.cells #[.int .i8 0, .int .i8 0, .int .i8 0, .int .i8 0, .int .i8 0, .int .i8 0, .int .i8 0, .int .i8 0, .int .i8 0, .int .i8 0, .int .i8 0, .int .i8 0, .int .i8 0, .int .i8 0, .int .i8 0, .int .i8 0, .int .i8 0, .int .i8 0, .int .i8 0, .int .i8 0, .int .i8 0, .int .i8 0, .int .i8 0, .int .i8 0] 23)
  have p0 := (PlAt.new (w.alloc (.cells (arrV .i8 24 f) 28)) (g := w.heap.size + 1) (by simp) 25 r z).alloc (.cells #[.int .i8 0, .int .i8 0, .int .i8 0, .int .i8 0, .int .i8 0, .int .i8 0, .int .i8 0, .int .i8 0, .int .i8 0, .int .i8 0, .int .i8 0, .int .i8 0, .int .i8 0, .int .i8 0, .int .i8 0, .int .i8 0, .int .i8 0, .int .i8 0, .int .i8 0, .int .i8 0, .int .i8 0, .int .i8 0, .int .i8 0, .int .i8 0] 23)
  have r0 := HasArr.zeroS ((w.alloc (.cells (arrV .i8 24 f) 28)).alloc (.cells #[.int .i8 r, .int .i8 z] 25)) 23 (b := w.heap.size + 1 + 1) (by simp)
  have k0 : Below w.heap.size w (((w.alloc (.cells (arrV .i8 24 f) 28)).alloc (.cells #[.int .i8 r, .int .i8 z] 25)).alloc (.cells #[.int .i8 0, .int .i8 0, .int .i8 0, .int .i8 0, .int .i8 0, .int .i8 0, .int .i8 0, .int .i8 0, .int .i8 0, .int .i8 0, .int .i8 0, .int .i8 0, .int .i8 0, .int .i8 0, .int .i8 0, .int .i8 0, .int .i8 0, .int .i8 0, .int .i8 0, .int .i8 0, .int .i8 0, .int .i8 0, .int .i8 0, .int .i8 0] 23)) := ((((Below.refl _ _).alloc (Nat.le_refl _) _).alloc (by simp) _).alloc (by simp; omega) _)
  have o1 := HasArr.zeroS (((w.alloc (.cells (arrV .i8 24 f) 28)).alloc (.cells #[.int .i8 r, .int .i8 z] 25)).alloc (.cells #[.int .i8 0, .int .i8 0, .int .i8 0, .int .i8 0, .int .i8 0, .int .i8 0, .int .i8 0, .int .i8 0, .int .i8 0, .int .i8 0, .int .i8 0, .int .i8 0, .int .i8 0, .int .i8 0, .int .i8 0, .int .i8 0, .int .i8 0, .int .i8 0, .int .i8 0, .int .i8 0, .int .i8 0, .int .i8 0, .int .i8 0, .int .i8 0] 23)) 23 (b := w.heap.size + 1 + 1 + 1) (by simp)
  have K0 := Lib.hid (And.intro ((s0.alloc (.cells #[.int .i8 0, .int .i8 0, .int .i8 0, .int .i8 0, .int .i8 0, .int .i8 0, .int .i8 0, .int .i8 0, .int .i8 0, .int .i8 0, .int .i8 0, .int .i8 0, .int .i8 0, .int .i8 0, .int .i8 0, .int .i8 0, .int .i8 0, .int .i8 0, .int .i8 0, .int .i8 0, .int .i8 0, .int .i8 0, .int .i8 0, .int .i8 0] 23)).rowOther (b' := w.heap.size + 1 + 1 + 1) (by omega) (arrV .i8 24 fun _ => 0)) (And.intro ((p0.alloc (.cells #[.int .i8 0, .int .i8 0, .int .i8 0, .int .i8 0, .int .i8 0, .int .i8 0, .int .i8 0, .int .i8 0, .int .i8 0, .int .i8 0, .int .i8 0, .int .i8 0, .int .i8 0, .int .i8 0, .int .i8 0, .int .i8 0, .int .i8 0, .int .i8 0, .int .i8 0, .int .i8 0, .int .i8 0, .int .i8 0, .int .i8 0, .int .i8 0] 23)).row (b := w.heap.size + 1 + 1 + 1) (by omega) (arrV .i8 24 fun _ => 0)) (And.intro ((r0.alloc (.cells #[.int .i8 0, .int .i8 0, .int .i8 0, .int .i8 0, .int .i8 0, .int .i8 0, .int .i8 0, .int .i8 0, .int .i8 0, .int .i8 0, .int .i8 0, .int .i8 0, .int .i8 0, .int .i8 0, .int .i8 0, .int .i8 0, .int .i8 0, .int .i8 0, .int .i8 0, .int .i8 0, .int .i8 0, .int .i8 0, .int .i8 0, .int .i8 0] 23)).rowOther (b' := w.heap.size + 1 + 1 + 1) (by omega) (arrV .i8 24 fun _ => 0)) (And.intro (o1.setRow .i8 fun _ => 0) (below_setRow (k0.alloc k0.size (.cells #[.int .i8 0, .int .i8 0, .int .i8 0, .int .i8 0, .int .i8 0, .int .i8 0, .int .i8 0, .int .i8 0, .int .i8 0, .int .i8 0, .int .i8 0, .int .i8 0, .int .i8 0, .int .i8 0, .int .i8 0, .int .i8 0, .int .i8 0, .int .i8 0, .int .i8 0, .int .i8 0, .int .i8 0, .int .i8 0, .int .i8 0, .int .i8 0] 23)) (b := w.heap.size + 1 + 1 + 1) (by omega) (arrV .i8 24 fun _ => 0))))))
  clear s0 p0 r0 k0
  have hq := fun W h => l06Both_any w.heap.size 28 f hf r z hr hr' hz hz' W h
  rcases b_or (f := f) (r := r) (z := z) with ⟨hC, hv, hp⟩ | hC
  · rw [hC] at hq
    rw [hC, znV_0 hC]
    have b := plcB_bd hp
    have hzn := fun k (hk : k < 24) W => l06Zone_any r z (f k) b.1.1 b.1.2 b.2.1 b.2.2 (scnB_bd hv hk).1 (scnB_bd hv hk).2 W
    have hzn : ∀ k, k < 24 → ∀ W, Calls Tryd.prog 79 #[plcV r z, .int .i64 (f k)] W fun e w' => e = .returned (.int .i64 (zF f r z k)) ∧ Below W.heap.size W w' := hzn
    have hb := fun k (hk : k < 24) => scnB_bd hv hk
    have hzb := fun k (hk : k < 24) => zF_bd hv hp hk
    have Hq := Lib.hid hq
    have Hz := Lib.hid hzn
    have Hb := Lib.hid hb
    have Hzb := Lib.hid hzb
    clear hq hzn hb hzb hf hC hv hp
    generalize zF f r z = Zs at *
    have q0 := K0.out.2.1.1
    have q1 := K0.out.2.1.2
    go_enter Tryd.func35, Tryd.ntmps35
    go_wp2_with (refine wpList_store_zS o1 _ _ _ rfl rfl rfl rfl sizeA24 ?_)
    clear q0 q1
    refine (Hq.out _ K0.out.1).mono ?_; rintro e w1 ⟨rfl, hb1⟩
    have K1 := Lib.hid (And.intro (K0.out.1.below hb1 K0.out.1.lt) (And.intro (K0.out.2.1.below hb1 K0.out.2.1.lt) (And.intro (K0.out.2.2.1.below hb1 K0.out.2.2.1.lt) (And.intro (K0.out.2.2.2.1.below hb1 K0.out.2.2.2.1.lt) (K0.out.2.2.2.2.trans (hb1.mono K0.out.2.2.2.2.size))))))
    clear K0 hb1 o1
    go_wp2_with fail
    go_loopw [8] (fun i wr => ∃ k : Nat, k ≤ 24 ∧ i = .int .i64 (k : Int) ∧ HasArr wr w.heap.size 28 .i8 24 f ∧ PlAt wr (w.heap.size + 1) r z ∧ HasArr wr (w.heap.size + 1 + 1) 23 .i8 24 (fun _ => 0) ∧ HasArr wr (w.heap.size + 1 + 1 + 1) 23 .i8 24 (mixFN Zs (fun _ => 0) k) ∧ Below w.heap.size w wr) (fun i _ => 24 - (intOf i).toNat)
    case atStart => exact ⟨0, by omega, rfl, K1.out.1, K1.out.2.1, K1.out.2.2.1, K1.out.2.2.2.1.congr (fun j _ => mixFN_0 Zs (fun _ => 0) j), K1.out.2.2.2.2⟩
    case round =>
      obtain ⟨k, hk, rfl, h1, h2, h3, h4, hB⟩ := hrel
      clear K1
      by_cases hkn : k < 24
      · have q := Hz.out k hkn
        have bX := Hb.out k hkn
        have bZ := Hzb.out k hkn
        have hst := fun j => mixFN_step Zs (fun _ => 0) k j
        have w0 : (0 : Int) ≤ (k : Int) := by omega
        have w1 : (k : Int) < 24 := by omega
        have c1 := h1.cell hkn
        have p0 := h2.1
        have p1 := h2.2
        generalize f k = X at *
        generalize Zs k = Z at *
        have e1 : IntKind.i64.wrap X = X := IntWalk.i64_in _ (by omega)
        have e2 : IntKind.i8.wrap Z = Z := IntWalk.i8_in _ (by omega)
        have Q := Lib.hid q; clear q
        have HS := Lib.hid hst; clear hst
        have K := Lib.hid (And.intro h1 (And.intro h2 (And.intro h3 (And.intro h4 hB)))); clear h1 h2 h3 h4 hB
        go_wp2_with fail
        refine wp_region_quiet_tail 9 (fun w' => ∃ x : WIn (Below wr.heap.size wr), w' = x.w) (by kernel_rfl) (by kernel_rfl) ⟨⟨_, below_drew1 _⟩, rfl⟩ ?_
        simp only [List.take_succ_cons, List.take_zero, List.drop_succ_cons, List.drop_zero]
        have n0 := below_nonempty wr
        have uc := fun (x : WIn (Below wr.heap.size wr)) => inCell c1 x
        have u0 := fun (x : WIn (Below wr.heap.size wr)) => inCell p0 x
        have u1 := fun (x : WIn (Below wr.heap.size wr)) => inCell p1 x
        repeat (go_big_quiet_step ((go_at_call 79; exact inCall _ (Q.out _))))
        refine wpQuiet_nil ?_
        rintro _ ⟨⟨w2, hb2⟩, rfl⟩
        have g4 := K.out.2.2.2.1.below hb2 K.out.2.2.2.1.lt
        have cO := g4.cell hkn
        have fO := g4.free k
        have L := Lib.hid (And.intro (K.out.1.below hb2 K.out.1.lt) (And.intro (K.out.2.1.below hb2 K.out.2.1.lt) (And.intro (K.out.2.2.1.below hb2 K.out.2.2.1.lt) (And.intro g4 (K.out.2.2.2.2.trans (Below.mono hb2 K.out.2.2.2.2.size))))))
        clear K hb2 n0 uc u0 u1 c1 p0 p1 g4 e1 e2
        go_wp2
        go_roundw
        case rel => exact ⟨k + 1, by omega, by go_num, L.out.1.other (a := ⟨w.heap.size + 1 + 1 + 1, k, none⟩) (by simp; omega) _, L.out.2.1.other (p := ⟨w.heap.size + 1 + 1 + 1, k, none⟩) (by first | (simp; done) | (simp; omega)) _, L.out.2.2.1.other (a := ⟨w.heap.size + 1 + 1 + 1, k, none⟩) (by simp) _, (L.out.2.2.2.1.set k Z).congr (fun j _ => HS.out j), L.out.2.2.2.2.setCell (p := ⟨w.heap.size + 1 + 1 + 1, k, none⟩) (by simp; omega) _⟩
        case measure => simp [intOf]; omega
      · obtain rfl : k = 24 := by omega
        have h4 := h4.congr (g := Zs) (fun j hj => mixFN_n _ _ hj)
        have h3' := h3.setRow .i8 Zs
        have hB' := below_setRow hB (b := w.heap.size + 1 + 1) (by omega) (arrV .i8 24 Zs)
        go_wp2_with (first | (refine wpList_load_arr h4 _ _ rfl rfl rfl Tryd.underlying23 sizeA24 ?_) | (refine wpList_store_arr h3 _ _ _ rfl rfl rfl rfl sizeA24 ?_))
        refine bodyPost_ret (v := .tuple #[.agg (arrV .i8 24 Zs), .int .i64 0]) ?_ rfl ⟨rfl, hB'⟩
        exact resultsRowTmp rfl _ _ _ _ _ _ _ rfl h3' Tryd.underlying23 rfl (by rw [arrV_size]; exact sizeA24) _ rfl
  · rw [hC] at hq
    rw [hC, znV_1 hC]
    have Hq := Lib.hid hq; clear hq hC hf
    have q0 := K0.out.2.1.1
    have q1 := K0.out.2.1.2
    go_enter Tryd.func35, Tryd.ntmps35
    go_wp2_with (refine wpList_store_zS o1 _ _ _ rfl rfl rfl rfl sizeA24 ?_)
    clear q0 q1
    refine (Hq.out _ K0.out.1).mono ?_; rintro e w1 ⟨rfl, hb1⟩
    have r1 := K0.out.2.2.1.below hb1 K0.out.2.2.1.lt
    have o2 := K0.out.2.2.2.1.below hb1 K0.out.2.2.2.1.lt
    have k1 := K0.out.2.2.2.2.trans (hb1.mono K0.out.2.2.2.2.size)
    clear K0 hb1 o1
    go_wp2_with (first | (refine wpList_load_arr o2 _ _ rfl rfl rfl Tryd.underlying23 sizeA24 ?_) | (refine wpList_store_arr r1 _ _ _ rfl rfl rfl rfl sizeA24 ?_))
    refine bodyPost_ret (v := .tuple #[.agg (arrV .i8 24 fun _ => 0), .int .i64 1]) ?_ rfl ⟨rfl, below_setRow k1 (by omega) _⟩
    exact resultsRowTmp rfl _ _ _ _ _ _ _ rfl (r1.setRow .i8 fun _ => 0) Tryd.underlying23 rfl (by rw [arrV_size]; exact sizeA24) _ rfl

set_option maxRecDepth 100000 in
set_option maxHeartbeats 2000000 in
theorem zoned_any (f : Nat → Int) (r z : Int) (hv : scnB f = true) (hp : plcB r z = true) (w : World) :
    Calls Tryd.prog 118 #[.agg (arrV .i8 24 f), plcV r z] w fun e w' => e = .returned (.agg (arrV .i8 24 (zF f r z))) ∧ Below w.heap.size w w' := by
  have s0 := ((HasArr.new w 28 .i8 24 f).alloc (.cells #[.int .i8 r, .int .i8 z] 25)).alloc (.cells #[.int .i8 0, .int .i8 0, .int .i8 0, .int .i8 0, .int .i8 0, .int .i8 0, .int .i8 0, .int .i8 0, .int .i8 0, .int .i8 0, .int .i8 0, .int .i8 0, .int .i8 0, .int .i8 0, .int .i8 0, .int .i8 0, .int .i8 0, .int .i8 0, .int .i8 0, .int .i8 0, .int .i8 0, .int .i8 0, .int .i8 0, .int .i8 0] 28)
  have p0 := (PlAt.new (w.alloc (.cells (arrV .i8 24 f) 28)) (g := w.heap.size + 1) (by simp) 25 r z).alloc (.cells #[.int .i8 0, .int .i8 0, .int .i8 0, .int .i8 0, .int .i8 0, .int .i8 0, .int .i8 0, .int .i8 0, .int .i8 0, .int .i8 0, .int .i8 0, .int .i8 0, .int .i8 0, .int .i8 0, .int .i8 0, .int .i8 0, .int .i8 0, .int .i8 0, .int .i8 0, .int .i8 0, .int .i8 0, .int .i8 0, .int .i8 0, .int .i8 0] 28)
  have r0 := HasArr.zeroS ((w.alloc (.cells (arrV .i8 24 f) 28)).alloc (.cells #[.int .i8 r, .int .i8 z] 25)) 28 (b := w.heap.size + 1 + 1) (by simp)
  have k0 : Below w.heap.size w (((w.alloc (.cells (arrV .i8 24 f) 28)).alloc (.cells #[.int .i8 r, .int .i8 z] 25)).alloc (.cells #[.int .i8 0, .int .i8 0, .int .i8 0, .int .i8 0, .int .i8 0, .int .i8 0, .int .i8 0, .int .i8 0, .int .i8 0, .int .i8 0, .int .i8 0, .int .i8 0, .int .i8 0, .int .i8 0, .int .i8 0, .int .i8 0, .int .i8 0, .int .i8 0, .int .i8 0, .int .i8 0, .int .i8 0, .int .i8 0, .int .i8 0, .int .i8 0] 28)) := ((((Below.refl _ _).alloc (Nat.le_refl _) _).alloc (by simp) _).alloc (by simp; omega) _)
  have o1 := HasArr.zeroS (((w.alloc (.cells (arrV .i8 24 f) 28)).alloc (.cells #[.int .i8 r, .int .i8 z] 25)).alloc (.cells #[.int .i8 0, .int .i8 0, .int .i8 0, .int .i8 0, .int .i8 0, .int .i8 0, .int .i8 0, .int .i8 0, .int .i8 0, .int .i8 0, .int .i8 0, .int .i8 0, .int .i8 0, .int .i8 0, .int .i8 0, .int .i8 0, .int .i8 0, .int .i8 0, .int .i8 0, .int .i8 0, .int .i8 0, .int .i8 0, .int .i8 0, .int .i8 0] 28)) 28 (b := w.heap.size + 1 + 1 + 1) (by simp)
  have K0 := Lib.hid (And.intro ((s0.alloc (.cells #[.int .i8 0, .int .i8 0, .int .i8 0, .int .i8 0, .int .i8 0, .int .i8 0, .int .i8 0, .int .i8 0, .int .i8 0, .int .i8 0, .int .i8 0, .int .i8 0, .int .i8 0, .int .i8 0, .int .i8 0, .int .i8 0, .int .i8 0, .int .i8 0, .int .i8 0, .int .i8 0, .int .i8 0, .int .i8 0, .int .i8 0, .int .i8 0] 28)).rowOther (b' := w.heap.size + 1 + 1 + 1) (by omega) (arrV .i8 24 fun _ => 0)) (And.intro ((p0.alloc (.cells #[.int .i8 0, .int .i8 0, .int .i8 0, .int .i8 0, .int .i8 0, .int .i8 0, .int .i8 0, .int .i8 0, .int .i8 0, .int .i8 0, .int .i8 0, .int .i8 0, .int .i8 0, .int .i8 0, .int .i8 0, .int .i8 0, .int .i8 0, .int .i8 0, .int .i8 0, .int .i8 0, .int .i8 0, .int .i8 0, .int .i8 0, .int .i8 0] 28)).row (b := w.heap.size + 1 + 1 + 1) (by omega) (arrV .i8 24 fun _ => 0)) (And.intro ((r0.alloc (.cells #[.int .i8 0, .int .i8 0, .int .i8 0, .int .i8 0, .int .i8 0, .int .i8 0, .int .i8 0, .int .i8 0, .int .i8 0, .int .i8 0, .int .i8 0, .int .i8 0, .int .i8 0, .int .i8 0, .int .i8 0, .int .i8 0, .int .i8 0, .int .i8 0, .int .i8 0, .int .i8 0, .int .i8 0, .int .i8 0, .int .i8 0, .int .i8 0] 28)).rowOther (b' := w.heap.size + 1 + 1 + 1) (by omega) (arrV .i8 24 fun _ => 0)) (And.intro (o1.setRow .i8 fun _ => 0) (below_setRow (k0.alloc k0.size (.cells #[.int .i8 0, .int .i8 0, .int .i8 0, .int .i8 0, .int .i8 0, .int .i8 0, .int .i8 0, .int .i8 0, .int .i8 0, .int .i8 0, .int .i8 0, .int .i8 0, .int .i8 0, .int .i8 0, .int .i8 0, .int .i8 0, .int .i8 0, .int .i8 0, .int .i8 0, .int .i8 0, .int .i8 0, .int .i8 0, .int .i8 0, .int .i8 0] 28)) (b := w.heap.size + 1 + 1 + 1) (by omega) (arrV .i8 24 fun _ => 0))))))
  clear s0 p0 r0 k0
  have b := plcB_bd hp
  have hzn := fun k (hk : k < 24) W => zoneOfP_any r z (f k) b.1.1 b.1.2 b.2.1 b.2.2 (scnB_bd hv hk).1 (scnB_bd hv hk).2 W
  have hzn : ∀ k, k < 24 → ∀ W, Calls Tryd.prog 117 #[plcV r z, .int .i64 (f k)] W fun e w' => e = .returned (.int .i64 (zF f r z k)) ∧ Below W.heap.size W w' := hzn
  have hrd := fun k (hk : k < 24) W => readingS_any f k hk (fun j hj => by have := scnB_bd hv hj; omega) W
  have hb := fun k (hk : k < 24) => scnB_bd hv hk
  have hzb := fun k (hk : k < 24) => zF_bd hv hp hk
  have Hz := Lib.hid hzn
  have Hrd := Lib.hid hrd
  have Hb := Lib.hid hb
  have Hzb := Lib.hid hzb
  clear hzn hb hzb hv hp hrd
  have K1 := K0; clear K0
  generalize zF f r z = Zs at *
  go_enter Tryd.func118, Tryd.ntmps118
  go_wp2_with (refine wpList_store_zS o1 _ _ _ rfl rfl rfl rfl sizeScn ?_)
  clear o1
  go_loopw [8] (fun i wr => ∃ k : Nat, k ≤ 24 ∧ i = .int .i64 (k : Int) ∧ HasArr wr w.heap.size 28 .i8 24 f ∧ PlAt wr (w.heap.size + 1) r z ∧ HasArr wr (w.heap.size + 1 + 1) 28 .i8 24 (fun _ => 0) ∧ HasArr wr (w.heap.size + 1 + 1 + 1) 28 .i8 24 (mixFN Zs (fun _ => 0) k) ∧ Below w.heap.size w wr) (fun i _ => 24 - (intOf i).toNat)
  case atStart => exact ⟨0, by omega, rfl, K1.out.1, K1.out.2.1, K1.out.2.2.1, K1.out.2.2.2.1.congr (fun j _ => mixFN_0 Zs (fun _ => 0) j), K1.out.2.2.2.2⟩
  case round =>
    obtain ⟨k, hk, rfl, h1, h2, h3, h4, hB⟩ := hrel
    clear K1
    by_cases hkn : k < 24
    · have q := Hz.out k hkn
      have bX := Hb.out k hkn
      have bZ := Hzb.out k hkn
      have hst := fun j => mixFN_step Zs (fun _ => 0) k j
      have w0 : (0 : Int) ≤ (k : Int) := by omega
      have w1 : (k : Int) < 24 := by omega
      have c1 := h1.cell hkn
      have p0 := h2.1
      have p1 := h2.2
      have hrd := fun W => Hrd.out k hkn W
      generalize f k = X at *
      generalize Zs k = Z at *
      have Rd := Lib.hid hrd; clear hrd
      have e1 : IntKind.i64.wrap X = X := IntWalk.i64_in _ (by omega)
      have e2 : IntKind.i8.wrap Z = Z := IntWalk.i8_in _ (by omega)
      have Q := Lib.hid q; clear q
      have HS := Lib.hid hst; clear hst
      have K := Lib.hid (And.intro h1 (And.intro h2 (And.intro h3 (And.intro h4 hB)))); clear h1 h2 h3 h4 hB
      go_wp2_with fail
      refine wp_region_quiet_tail 8 (fun w' => ∃ x : WIn (Below wr.heap.size wr), w' = x.w) (by kernel_rfl) (by kernel_rfl) ⟨⟨_, below_drew1 _⟩, rfl⟩ ?_
      simp only [List.take_succ_cons, List.take_zero, List.drop_succ_cons, List.drop_zero]
      have n0 := below_nonempty wr
      have uc := fun (x : WIn (Below wr.heap.size wr)) => inCell c1 x
      have u0 := fun (x : WIn (Below wr.heap.size wr)) => inCell p0 x
      have u1 := fun (x : WIn (Below wr.heap.size wr)) => inCell p1 x
      quiet_step (fail)
      quiet_step (fail)
      refine wpQuiet_load_arr (fun W hW => by obtain ⟨x, rfl⟩ := hW; exact K.out.1.below x.ok K.out.1.lt) 28 (.tmp 2) rfl rfl rfl Tryd.underlying28 sizeScn ?_
      quiet_step (fail)
      quiet_step ((go_at_call 148; exact inCall _ (Rd.out _)))
      quiet_step ((go_at_call 117; exact inCall _ (Q.out _)))
      quiet_step (fail)
      quiet_step (fail)
      refine wpQuiet_nil ?_
      rintro _ ⟨⟨w2, hb2⟩, rfl⟩
      have g4 := K.out.2.2.2.1.below hb2 K.out.2.2.2.1.lt
      have cO := g4.cell hkn
      have fO := g4.free k
      have L := Lib.hid (And.intro (K.out.1.below hb2 K.out.1.lt) (And.intro (K.out.2.1.below hb2 K.out.2.1.lt) (And.intro (K.out.2.2.1.below hb2 K.out.2.2.1.lt) (And.intro g4 (K.out.2.2.2.2.trans (Below.mono hb2 K.out.2.2.2.2.size))))))
      clear K hb2 n0 uc u0 u1 c1 p0 p1 g4 e1 e2
      go_wp2
      go_roundw
      case rel => exact ⟨k + 1, by omega, by go_num, L.out.1.other (a := ⟨w.heap.size + 1 + 1 + 1, k, none⟩) (by simp; omega) _, L.out.2.1.other (p := ⟨w.heap.size + 1 + 1 + 1, k, none⟩) (by first | (simp; done) | (simp; omega)) _, L.out.2.2.1.other (a := ⟨w.heap.size + 1 + 1 + 1, k, none⟩) (by simp) _, (L.out.2.2.2.1.set k Z).congr (fun j _ => HS.out j), L.out.2.2.2.2.setCell (p := ⟨w.heap.size + 1 + 1 + 1, k, none⟩) (by simp; omega) _⟩
      case measure => simp [intOf]; omega
    · obtain rfl : k = 24 := by omega
      have h4 := h4.congr (g := Zs) (fun j hj => mixFN_n _ _ hj)
      have h3' := h3.setRow .i8 Zs
      have hB' := below_setRow hB (b := w.heap.size + 1 + 1) (by omega) (arrV .i8 24 Zs)
      go_wp2_with (first | (refine wpList_load_arr h4 _ _ rfl rfl rfl Tryd.underlying28 sizeScn ?_) | (refine wpList_store_arr h3 _ _ _ rfl rfl rfl rfl sizeScn ?_))
      refine bodyPost_ret (v := .agg (arrV .i8 24 Zs)) ?_ rfl ⟨rfl, hB'⟩
      exact results_cell_row rfl _ _ _ _ _ _ _ rfl h3' Tryd.underlying28 rfl (by rw [arrV_size]; exact sizeScn)

set_option maxRecDepth 100000 in
set_option maxHeartbeats 2000000 in
theorem codedA24_any {s : Ers} {v : Value} {c : Int} (h : IsCode s v c) (f : Nat → Int) (w : World) (hE : ErrEnv s w) :
    Calls Tryd.prog 76 #[.agg (arrV .i8 24 f), v] w fun e w' => e = .returned (.tuple #[.agg (arrV .i8 24 f), .int .i64 c]) ∧ Below w.heap.size w w' := by
  have a1 := (HasArr.new w 23 .i8 24 f).alloc (.cells #[.int .i8 0, .int .i8 0, .int .i8 0, .int .i8 0, .int .i8 0, .int .i8 0, .int .i8 0, .int .i8 0, .int .i8 0, .int .i8 0, .int .i8 0, .int .i8 0, .int .i8 0, .int .i8 0, .int .i8 0, .int .i8 0, .int .i8 0, .int .i8 0, .int .i8 0, .int .i8 0, .int .i8 0, .int .i8 0, .int .i8 0, .int .i8 0] 23)
  have a2 := HasArr.zeroS (w.alloc (.cells (arrV .i8 24 f) 23)) 23 (b := w.heap.size + 1) (by simp)
  have k0 := ((Below.refl w.heap.size w).alloc (Nat.le_refl _) (.cells (arrV .i8 24 f) 23)).alloc (by simp) (.cells #[.int .i8 0, .int .i8 0, .int .i8 0, .int .i8 0, .int .i8 0, .int .i8 0, .int .i8 0, .int .i8 0, .int .i8 0, .int .i8 0, .int .i8 0, .int .i8 0, .int .i8 0, .int .i8 0, .int .i8 0, .int .i8 0, .int .i8 0, .int .i8 0, .int .i8 0, .int .i8 0, .int .i8 0, .int .i8 0, .int .i8 0, .int .i8 0] 23)
  go_enter Tryd.func76, Tryd.ntmps76
  go_wp2_with fail
  refine wp_region_quiet_tail 3 (fun w' => ∃ q, w' = ((w.alloc (.cells (arrV .i8 24 f) 23)).alloc (.cells #[.int .i8 0, .int .i8 0, .int .i8 0, .int .i8 0, .int .i8 0, .int .i8 0, .int .i8 0, .int .i8 0, .int .i8 0, .int .i8 0, .int .i8 0, .int .i8 0, .int .i8 0, .int .i8 0, .int .i8 0, .int .i8 0, .int .i8 0, .int .i8 0, .int .i8 0, .int .i8 0, .int .i8 0, .int .i8 0, .int .i8 0, .int .i8 0] 23)).drewN q) (by kernel_rfl) (by kernel_rfl) ⟨1, rfl⟩ ?_
  simp only [List.take_succ_cons, List.take_zero, List.drop_succ_cons, List.drop_zero]
  refine wpQuiet_load_arr (fun W hW => by obtain ⟨q, rfl⟩ := hW; exact a1.drewN q) 23 (.tmp 2) rfl rfl rfl Tryd.underlying23 sizeA24 ?_
  quiet_step (fail)
  refine BigFrame.wpQuiet_want (by rfl) fun K hK => ⟨.int .i64 c, fun W hW => ?_, hK _ ?_⟩
  · obtain ⟨q, rfl⟩ := hW
    go_simp
    exact (codeOf_any h _ (((hE.alloc _).alloc _).drewN q)).mono fun e w' ⟨he, hw⟩ => ⟨he, q, hw.symm⟩
  refine wpQuiet_nil ?_
  rintro _ ⟨q, rfl⟩
  go_wp2_with (refine wpList_store_arr (a2.drewN q) _ _ _ rfl rfl rfl rfl sizeA24 ?_)
  refine bodyPost_ret (v := .tuple #[.agg (arrV .i8 24 f), .int .i64 c]) ?_ rfl ⟨rfl, below_setRow (below_drewP k0 q) (by omega) _⟩
  exact resultsRowTmp rfl _ _ _ _ _ _ _ rfl ((a2.drewN q).setRow .i8 f) Tryd.underlying23 rfl (by rw [arrV_size]; exact sizeA24) _ rfl

set_option maxRecDepth 100000 in
set_option maxHeartbeats 2000000 in
theorem zonesOf_any (s : Ers) (f : Nat → Int) (r z : Int) (hr : -128 ≤ r) (hr' : r ≤ 127) (hz : -128 ≤ z) (hz' : z ≤ 127) (w : World) (hE : ErrEnv s w) :
    Calls Tryd.prog 77 #[.agg (arrV .i8 24 f), plcV r z] w (CodedP s (.agg (arrV .i8 24 (znV f r z))) (bC f r z) w.heap.size w) := by
  have s0 := ((HasArr.new w 28 .i8 24 f).alloc (.cells #[.int .i8 r, .int .i8 z] 25)).alloc (.cells #[.int .i8 0, .int .i8 0, .int .i8 0, .int .i8 0, .int .i8 0, .int .i8 0, .int .i8 0, .int .i8 0, .int .i8 0, .int .i8 0, .int .i8 0, .int .i8 0, .int .i8 0, .int .i8 0, .int .i8 0, .int .i8 0, .int .i8 0, .int .i8 0, .int .i8 0, .int .i8 0, .int .i8 0, .int .i8 0, .int .i8 0, .int .i8 0] 23)
  have p0 := (PlAt.new (w.alloc (.cells (arrV .i8 24 f) 28)) (g := w.heap.size + 1) (by simp) 25 r z).alloc (.cells #[.int .i8 0, .int .i8 0, .int .i8 0, .int .i8 0, .int .i8 0, .int .i8 0, .int .i8 0, .int .i8 0, .int .i8 0, .int .i8 0, .int .i8 0, .int .i8 0, .int .i8 0, .int .i8 0, .int .i8 0, .int .i8 0, .int .i8 0, .int .i8 0, .int .i8 0, .int .i8 0, .int .i8 0, .int .i8 0, .int .i8 0, .int .i8 0] 23)
  have r0 := HasArr.zeroS ((w.alloc (.cells (arrV .i8 24 f) 28)).alloc (.cells #[.int .i8 r, .int .i8 z] 25)) 23 (b := w.heap.size + 1 + 1) (by simp)
  have k0 : Below w.heap.size w (((w.alloc (.cells (arrV .i8 24 f) 28)).alloc (.cells #[.int .i8 r, .int .i8 z] 25)).alloc (.cells #[.int .i8 0, .int .i8 0, .int .i8 0, .int .i8 0, .int .i8 0, .int .i8 0, .int .i8 0, .int .i8 0, .int .i8 0, .int .i8 0, .int .i8 0, .int .i8 0, .int .i8 0, .int .i8 0, .int .i8 0, .int .i8 0, .int .i8 0, .int .i8 0, .int .i8 0, .int .i8 0, .int .i8 0, .int .i8 0, .int .i8 0, .int .i8 0] 23)) := ((((Below.refl _ _).alloc (Nat.le_refl _) _).alloc (by simp) _).alloc (by simp; omega) _)
  have ho := fun W => ValidScene_any f W
  have hq := fun W => isPlacement_any r z hr hr' hz hz' W
  have HE := Lib.hid hE; clear hE
  rcases h1 : scnB f with _ | _
  · have hC := b_1a (r := r) (z := z) h1
    rw [hC, znV_1 hC]
    rw [h1] at ho
    have Ho := Lib.hid ho; clear ho hq h1 hC p0
    go_enter Tryd.func77, Tryd.ntmps77
    go_wp2_with (refine wpList_load_arr s0 _ _ rfl rfl rfl Tryd.underlying28 sizeScn ?_)
    refine (Ho.out _).mono ?_; rintro e w1 ⟨rfl, hb1⟩
    have rr := r0.below hb1 r0.lt
    have k1 := k0.trans (hb1.mono k0.size)
    have ce := (HE.out.below k1 (Nat.le_refl _)).c_einvalid
    have hB := Lib.hid (below_setRow k1.drew (b := w.heap.size + 1 + 1) (by omega) (arrV .i8 24 fun _ => 0))
    have cg : (w1.drew.setRow (w.heap.size + 1 + 1) (arrV .i8 24 fun _ => 0)).cell? ⟨0, 0, none⟩ = some (errV s.einvalid) := (HE.out.below hB.out (Nat.le_refl _)).c_einvalid
    clear s0 r0 k0 hb1 k1
    go_wp2_with fail
    refine wp_region_any (by kernel_rfl) ?_
    refine wpAny_take (i := 0) (v := .agg #[.int .i8 0, .int .i8 0, .int .i8 0, .int .i8 0, .int .i8 0, .int .i8 0, .int .i8 0, .int .i8 0, .int .i8 0, .int .i8 0, .int .i8 0, .int .i8 0, .int .i8 0, .int .i8 0, .int .i8 0, .int .i8 0, .int .i8 0, .int .i8 0, .int .i8 0, .int .i8 0, .int .i8 0, .int .i8 0, .int .i8 0, .int .i8 0]) rfl (by kernel_rfl) (by kernel_rfl) (by kernel_rfl) (fun _ _ _ h => h) (Or.inl ⟨by rfl, by intro w; go_simp⟩) ?_
    change wpAny _ _ _ _ _ _ _ (World.drew _)
    refine wpAny_ready (rs := [1, 2]) (by kernel_rfl) (by simp) ?_
    refine AllReady.cons rfl (fun K hK => ?_) (AllReady.cons rfl (fun K hK => ?_) AllReady.nil)
    · go_simp
      refine hK _ _ ?_; clear hK K
      refine wpAny_ready (rs := [2]) (by kernel_rfl) (by simp) ?_
      refine AllReady.cons rfl (fun K hK => ?_) AllReady.nil
      refine step_store_zS rr.drew rfl _ _ _ rfl rfl rfl sizeA24 ?_
      refine hK _ _ ?_; clear hK K
      refine wpAny_ready (rs := [3]) (by kernel_rfl) (by simp) ?_
      refine AllReady.cons rfl (fun K hK => ?_) AllReady.nil
      go_simp
      refine hK _ _ ?_; clear hK K
      refine wpAny_done (by kernel_rfl) ?_ _
      go_wp2
      refine bodyPost_ret (v := .tuple #[.agg (arrV .i8 24 (fun _ => 0)), errV s.einvalid]) ?_ rfl ⟨_, .einvalid, rfl, hB.out⟩
      exact resultsRowTmp rfl _ _ _ _ _ _ _ rfl (rr.drew.setRow .i8 fun _ => 0) Tryd.underlying23 rfl (by rw [arrV_size]; exact sizeA24) _ rfl
    · refine step_store_zS rr.drew rfl _ _ _ rfl rfl rfl sizeA24 ?_
      refine hK _ _ ?_; clear hK K
      refine wpAny_ready (rs := [1]) (by kernel_rfl) (by simp) ?_
      refine AllReady.cons rfl (fun K hK => ?_) AllReady.nil
      go_simp
      refine hK _ _ ?_; clear hK K
      refine wpAny_ready (rs := [3]) (by kernel_rfl) (by simp) ?_
      refine AllReady.cons rfl (fun K hK => ?_) AllReady.nil
      go_simp
      refine hK _ _ ?_; clear hK K
      refine wpAny_done (by kernel_rfl) ?_ _
      go_wp2
      refine bodyPost_ret (v := .tuple #[.agg (arrV .i8 24 (fun _ => 0)), errV s.einvalid]) ?_ rfl ⟨_, .einvalid, rfl, hB.out⟩
      exact resultsRowTmp rfl _ _ _ _ _ _ _ rfl (rr.drew.setRow .i8 fun _ => 0) Tryd.underlying23 rfl (by rw [arrV_size]; exact sizeA24) _ rfl
  rw [h1] at ho
  have Ho := Lib.hid ho; clear ho
  rcases h2 : plcB r z with _ | _
  · have hC := b_1b (f := f) h2
    rw [hC, znV_1 hC]
    rw [h2] at hq
    have Hq := Lib.hid hq; clear hq h1 h2 hC
    go_enter Tryd.func77, Tryd.ntmps77
    go_wp2_with (refine wpList_load_arr s0 _ _ rfl rfl rfl Tryd.underlying28 sizeScn ?_)
    refine (Ho.out _).mono ?_; rintro e w1 ⟨rfl, hb1⟩
    have rr := r0.below hb1 r0.lt
    have k1 := k0.trans (hb1.mono k0.size)
    have q0 := (p0.below hb1 p0.lt).1
    have q1 := (p0.below hb1 p0.lt).2
    clear s0 p0 r0 k0 hb1
    go_wp2_with fail
    refine (Hq.out _).mono ?_; rintro e w2 ⟨rfl, hb2⟩
    have rr := rr.below hb2 rr.lt
    have k1 := k1.trans (hb2.mono k1.size)
    have ce := (HE.out.below k1 (Nat.le_refl _)).c_einvalid
    have hB := Lib.hid (below_setRow k1.drew (b := w.heap.size + 1 + 1) (by omega) (arrV .i8 24 fun _ => 0))
    have cg : (w2.drew.setRow (w.heap.size + 1 + 1) (arrV .i8 24 fun _ => 0)).cell? ⟨0, 0, none⟩ = some (errV s.einvalid) := (HE.out.below hB.out (Nat.le_refl _)).c_einvalid
    clear hb2 k1 q0 q1
    go_wp2_with fail
    refine wp_region_any (by kernel_rfl) ?_
    refine wpAny_take (i := 0) (v := .agg #[.int .i8 0, .int .i8 0, .int .i8 0, .int .i8 0, .int .i8 0, .int .i8 0, .int .i8 0, .int .i8 0, .int .i8 0, .int .i8 0, .int .i8 0, .int .i8 0, .int .i8 0, .int .i8 0, .int .i8 0, .int .i8 0, .int .i8 0, .int .i8 0, .int .i8 0, .int .i8 0, .int .i8 0, .int .i8 0, .int .i8 0, .int .i8 0]) rfl (by kernel_rfl) (by kernel_rfl) (by kernel_rfl) (fun _ _ _ h => h) (Or.inl ⟨by rfl, by intro w; go_simp⟩) ?_
    change wpAny _ _ _ _ _ _ _ (World.drew _)
    refine wpAny_ready (rs := [1, 2]) (by kernel_rfl) (by simp) ?_
    refine AllReady.cons rfl (fun K hK => ?_) (AllReady.cons rfl (fun K hK => ?_) AllReady.nil)
    · go_simp
      refine hK _ _ ?_; clear hK K
      refine wpAny_ready (rs := [2]) (by kernel_rfl) (by simp) ?_
      refine AllReady.cons rfl (fun K hK => ?_) AllReady.nil
      refine step_store_zS rr.drew rfl _ _ _ rfl rfl rfl sizeA24 ?_
      refine hK _ _ ?_; clear hK K
      refine wpAny_ready (rs := [3]) (by kernel_rfl) (by simp) ?_
      refine AllReady.cons rfl (fun K hK => ?_) AllReady.nil
      go_simp
      refine hK _ _ ?_; clear hK K
      refine wpAny_done (by kernel_rfl) ?_ _
      go_wp2
      refine bodyPost_ret (v := .tuple #[.agg (arrV .i8 24 (fun _ => 0)), errV s.einvalid]) ?_ rfl ⟨_, .einvalid, rfl, hB.out⟩
      exact resultsRowTmp rfl _ _ _ _ _ _ _ rfl (rr.drew.setRow .i8 fun _ => 0) Tryd.underlying23 rfl (by rw [arrV_size]; exact sizeA24) _ rfl
    · refine step_store_zS rr.drew rfl _ _ _ rfl rfl rfl sizeA24 ?_
      refine hK _ _ ?_; clear hK K
      refine wpAny_ready (rs := [1]) (by kernel_rfl) (by simp) ?_
      refine AllReady.cons rfl (fun K hK => ?_) AllReady.nil
      go_simp
      refine hK _ _ ?_; clear hK K
      refine wpAny_ready (rs := [3]) (by kernel_rfl) (by simp) ?_
      refine AllReady.cons rfl (fun K hK => ?_) AllReady.nil
      go_simp
      refine hK _ _ ?_; clear hK K
      refine wpAny_done (by kernel_rfl) ?_ _
      go_wp2
      refine bodyPost_ret (v := .tuple #[.agg (arrV .i8 24 (fun _ => 0)), errV s.einvalid]) ?_ rfl ⟨_, .einvalid, rfl, hB.out⟩
      exact resultsRowTmp rfl _ _ _ _ _ _ _ rfl (rr.drew.setRow .i8 fun _ => 0) Tryd.underlying23 rfl (by rw [arrV_size]; exact sizeA24) _ rfl
  · have hC := b_0 h1 h2
    rw [hC, znV_0 hC]
    rw [h2] at hq
    have hzd := fun W => zoned_any f r z h1 h2 W
    generalize zF f r z = Zs at *
    have Hq := Lib.hid hq; have Hzd := Lib.hid hzd; clear hq hzd h1 h2 hC
    go_enter Tryd.func77, Tryd.ntmps77
    go_wp2_with (refine wpList_load_arr s0 _ _ rfl rfl rfl Tryd.underlying28 sizeScn ?_)
    refine (Ho.out _).mono ?_; rintro e w1 ⟨rfl, hb1⟩
    have s1 := s0.below hb1 s0.lt
    have rr := r0.below hb1 r0.lt
    have k1 := k0.trans (hb1.mono k0.size)
    have P1 := Lib.hid (p0.below hb1 p0.lt)
    have q0 := P1.out.1
    have q1 := P1.out.2
    clear s0 p0 r0 k0 hb1
    go_wp2_with fail
    refine (Hq.out _).mono ?_; rintro e w2 ⟨rfl, hb2⟩
    have s1 := s1.below hb2 s1.lt
    have rr := rr.below hb2 rr.lt
    have k1 := k1.trans (hb2.mono k1.size)
    have P2 := Lib.hid (P1.out.below hb2 P1.out.lt)
    clear q0 q1 hb2
    have q0 := P2.out.1
    have q1 := P2.out.2
    go_wp2_with (refine wpList_load_arr s1 _ _ rfl rfl rfl Tryd.underlying28 sizeScn ?_)
    refine (Hzd.out _).mono ?_; rintro e w3 ⟨rfl, hb3⟩
    have rr := rr.below hb3 rr.lt
    have k1 := k1.trans (hb3.mono k1.size)
    clear s1 q0 q1 hb3
    go_wp2_with (refine wpList_store_arr rr _ _ _ rfl rfl rfl rfl sizeA24 ?_)
    refine bodyPost_ret (v := .tuple #[.agg (arrV .i8 24 Zs), .nilIface]) ?_ rfl ⟨_, .ok, rfl, below_setRow k1 (by omega) _⟩
    exact resultsRowTmp rfl _ _ _ _ _ _ _ rfl (rr.setRow .i8 Zs) Tryd.underlying23 rfl (by rw [arrV_size]; exact sizeA24) _ rfl

set_option maxRecDepth 100000 in
set_option maxHeartbeats 2000000 in
theorem ZonesOf_any (s : Ers) (f : Nat → Int) (_hf : S8 f) (r z : Int) (hr : -128 ≤ r) (hr' : r ≤ 127) (hz : -128 ≤ z) (hz' : z ≤ 127) (w : World) (hE : ErrEnv s w) :
    Calls Tryd.prog 34 #[.agg (arrV .i8 24 f), plcV r z] w fun e w' => e = .returned (.tuple #[.agg (arrV .i8 24 (znV f r z)), .int .i64 (bC f r z)]) ∧ Below w.heap.size w w' := by
  have s0 := ((HasArr.new w 28 .i8 24 f).alloc (.cells #[.int .i8 r, .int .i8 z] 25)).alloc (.cells #[.int .i8 0, .int .i8 0, .int .i8 0, .int .i8 0, .int .i8 0, .int .i8 0, .int .i8 0, .int .i8 0, .int .i8 0, .int .i8 0, .int .i8 0, .int .i8 0, .int .i8 0, .int .i8 0, .int .i8 0, .int .i8 0, .int .i8 0, .int .i8 0, .int .i8 0, .int .i8 0, .int .i8 0, .int .i8 0, .int .i8 0, .int .i8 0] 23)
  have p0 := (PlAt.new (w.alloc (.cells (arrV .i8 24 f) 28)) (g := w.heap.size + 1) (by simp) 25 r z).alloc (.cells #[.int .i8 0, .int .i8 0, .int .i8 0, .int .i8 0, .int .i8 0, .int .i8 0, .int .i8 0, .int .i8 0, .int .i8 0, .int .i8 0, .int .i8 0, .int .i8 0, .int .i8 0, .int .i8 0, .int .i8 0, .int .i8 0, .int .i8 0, .int .i8 0, .int .i8 0, .int .i8 0, .int .i8 0, .int .i8 0, .int .i8 0, .int .i8 0] 23)
  have r0 := HasArr.zeroS ((w.alloc (.cells (arrV .i8 24 f) 28)).alloc (.cells #[.int .i8 r, .int .i8 z] 25)) 23 (b := w.heap.size + 1 + 1) (by simp)
  have k0 : Below w.heap.size w (((w.alloc (.cells (arrV .i8 24 f) 28)).alloc (.cells #[.int .i8 r, .int .i8 z] 25)).alloc (.cells #[.int .i8 0, .int .i8 0, .int .i8 0, .int .i8 0, .int .i8 0, .int .i8 0, .int .i8 0, .int .i8 0, .int .i8 0, .int .i8 0, .int .i8 0, .int .i8 0, .int .i8 0, .int .i8 0, .int .i8 0, .int .i8 0, .int .i8 0, .int .i8 0, .int .i8 0, .int .i8 0, .int .i8 0, .int .i8 0, .int .i8 0, .int .i8 0] 23)) := ((((Below.refl _ _).alloc (Nat.le_refl _) _).alloc (by simp) _).alloc (by simp; omega) _)
  have hk := fun W h => zonesOf_any s f r z hr hr' hz hz' W h
  generalize znV f r z = V at *
  generalize bC f r z = C at *
  have Hk := Lib.hid hk; clear hk
  have HE := Lib.hid hE; clear hE
  have K0 := Lib.hid k0; clear k0
  have q0 := p0.1
  have q1 := p0.2
  clear p0
  go_enter Tryd.func34, Tryd.ntmps34
  go_wp2_with (refine wpList_load_arr s0 _ _ rfl rfl rfl Tryd.underlying28 sizeScn ?_)
  refine (Hk.out _ (HE.out.below K0.out (Nat.le_refl _))).mono ?_; rintro e w1 ⟨v, hv, rfl, hb1⟩
  have rr := r0.below hb1 r0.lt
  have k1 := K0.out.trans (hb1.mono K0.out.size)
  clear s0 r0 hb1 q0 q1
  go_wp2_with fail
  refine (codedA24_any hv _ _ (HE.out.below k1 (Nat.le_refl _))).mono ?_; rintro e w2 ⟨rfl, hb2⟩
  have rr := rr.below hb2 rr.lt
  have k2 := k1.trans (hb2.mono k1.size)
  clear hb2 k1
  go_wp2_with (refine wpList_store_arr rr _ _ _ rfl rfl rfl rfl sizeA24 ?_)
  refine bodyPost_ret (v := .tuple #[.agg (arrV .i8 24 V), .int .i64 C]) ?_ rfl ⟨rfl, below_setRow k2 (by omega) _⟩
  exact resultsRowTmp rfl _ _ _ _ _ _ _ rfl (rr.setRow .i8 V) Tryd.underlying23 rfl (by rw [arrV_size]; exact sizeA24) _ rfl
end Go.Proofs.YtmphmpddlgcofaaDoor
